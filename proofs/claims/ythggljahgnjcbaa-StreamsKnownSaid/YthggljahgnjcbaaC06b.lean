/-
  Package ciphers by facts: each transformation takes the state's block from one row of bytes to the next.
-/
import Derived.Test.YthggljahgnjcbaaC06a
namespace Go.Proofs.Ythggljahgnjcbaa
open Go Go.RowKit
set_option linter.unusedVariables false

theorem info1 : InfoIs Try.prog 1 (.nilFunc) 8 := by unfold InfoIs; kernel_rfl
theorem add_fnW (g : Nat) (f k : Nat → Nat) (hf : By f) (hk : By k) : FnW Try.prog 29 [] 65 g (rowV 16 (f)) (rowV 16 (addS f k)) ([ptr g, aggV (rowV 16 k)].map D.v) := by
  refine FnW.of (n := 21) (kb := 1000080) (kw := 1000081) Try.func29 rfl (by kernel_rfl) Try.ntmps29 (by simp) (by decide) (fun p hp => by cases hp) (by decide) (by decide) [(0, .v (ptr g)), (1, .v (aggV (rowV 16 k)))]
    (fun p hp => by simp only [List.mem_cons, List.not_mem_nil, or_false] at hp; rcases hp with rfl | rfl <;> exact ⟨_, rfl, rfl⟩) fun w₀ w₁ hw hM => ?_
  have hBg : w₀.heap.size ≤ g := Nat.le_of_eq hw
  refine A.regs (by kernel_rfl) (by kernel_rfl) (.inl rfl) ?_
  refine RunTK.new 0 (by decide) rfl (.inl rfl) ?_
  refine RunK.nil ?_
  refine ⟨_, _, eff_box (n := 21) (d := 3) (k := 1000003) rfl (by decide), fun b3 hb3 => ?_⟩
  have hBb3 := hb3.1
  have hlt_g_b3 : g < b3 := hb3.2 1000080 _ _ _ rfl
  refine RunTK.last ?_
  refine RunK.nil ?_
  refine A.sub (Sub.cons (t := 0) rfl (Sub.cons (t := 3) rfl (Sub.cons (t := 1000003) rfl (Sub.cons (t := 1000080) rfl (Sub.cons (t := 1000081) rfl Sub.nil))))) ?_
  refine A.regs (by kernel_rfl) (by kernel_rfl) (.inl rfl) ?_
  refine RunTK.last ?_
  refine RunK.step rfl rfl (ok_loadA (s := 1000003) (by decide) Try.underlying22 rfl (size22.of (rfl)) rfl rfl) ?_
  refine RunK.step rfl rfl (ok_move rfl) ?_
  refine RunK.nil ?_
  refine A.sub (Sub.cons (t := 0) rfl (Sub.cons (t := 6) rfl (Sub.cons (t := 7) rfl (Sub.cons (t := 1000003) rfl (Sub.cons (t := 1000080) rfl (Sub.cons (t := 1000081) rfl Sub.nil)))))) ?_
  refine A.block ?_
  refine A.loop (ι := Nat) (fun i => i ≤ 16) (fun i => [(0, .v (ptr g)), (6, .v (aggV (rowV 16 k))), (7, .v (.int .i64 ((i : Nat) : Int))), (1000080, blk g 65 (rowV 16 (mid f (addS f k) i))), (1000081, wroteD 65 g w₁)]) (fun i => 16 - i) 0 ?_ ?_ ?_
  · exact Nat.zero_le _
  · exact (Sub.cons (t := 0) rfl (Sub.cons (t := 6) rfl (Sub.cons (t := 7) rfl (Sub.eq (t := 1000080) _ rfl (congrArg _ (mid_zero 16 f _)) (Sub.cons (t := 1000081) rfl Sub.nil)))))
  intro i hi'
  refine A.regs (by kernel_rfl) (by kernel_rfl) (.inl rfl) ?_
  refine RunTK.last ?_
  refine RunK.step rfl rfl (ok_bin rfl rfl rfl) ?_
  refine RunK.nil ?_
  refine A.sub (Sub.cons (t := 0) rfl (Sub.cons (t := 6) rfl (Sub.cons (t := 7) rfl (Sub.cons (t := 8) rfl (Sub.cons (t := 1000080) rfl (Sub.cons (t := 1000081) rfl Sub.nil)))))) ?_
  refine A.seq ?_
  refine A.cond rfl (fun hc8 => ?_) (fun hc8 => ?_)
  · have hi : i < 16 := by simp at hc8; omega
    refine A.skip ?_
    refine End.normal_then (End.code ?_)
    refine A.seq ?_
    refine A.block ?_
    refine A.regs (by kernel_rfl) (by kernel_rfl) (.inl rfl) ?_
    refine RunTK.last ?_
    refine RunK.step rfl rfl (ok_move rfl) ?_
    refine RunK.step rfl rfl (ok_indexV1 i Try.underlying22 Try.underlying5 rfl info5 rfl rfl rfl (by omega) (rowV_get (by omega))) ?_
    refine RunK.step rfl rfl (ok_assign rfl) ?_
    refine RunK.step rfl rfl (ok_assign rfl) ?_
    refine RunK.nil ?_
    refine A.sub (Sub.cons (t := 0) rfl (Sub.cons (t := 4) rfl (Sub.cons (t := 5) rfl (Sub.cons (t := 6) rfl (Sub.cons (t := 7) rfl (Sub.cons (t := 1000080) rfl (Sub.cons (t := 1000081) rfl Sub.nil))))))) ?_
    refine A.reg (by kernel_rfl) (by kernel_rfl) (.inr (by kernel_rfl)) ?_
    refine RunTK.eff 9 (by decide) rfl (.inr (by kernel_rfl)) ?_
    refine RunK.step rfl rfl (ok_move rfl) ?_
    refine RunK.step rfl rfl (ok_move rfl) ?_
    refine RunK.step rfl rfl (ok_nilCheck rfl) ?_
    refine RunK.step rfl rfl (ok_index0 _ Try.underlying65 info5 rfl rfl (rfl) (by omega)) ?_
    refine RunK.step rfl rfl (ok_loadV (s := 1000080) (by decide) Try.underlying5 rfl rfl rfl (rowV_get (by omega))) ?_; refine RunK.as (.int .u8 ((f i : Nat) : Int)) (v8 (mid_at f _ i)) ?_
    refine RunK.step rfl rfl (ok_move rfl) ?_
    refine RunK.step rfl rfl (ok_bin rfl rfl rfl) ?_; refine RunK.as (.int .u8 ((addS f k i : Nat) : Int)) (by rw [show IntKind.u8.bits = 8 from rfl, xor_u8N (hf _) (hk _), show f i ^^^ k i = addS f k i from rfl]) ?_
    refine RunK.step rfl rfl (ok_nilCheck rfl) ?_
    refine RunK.step rfl rfl (ok_index0 _ Try.underlying65 info5 rfl rfl (rfl) (by omega)) ?_
    refine RunK.nil ?_
    refine ⟨_, eff_storeS (n := 21) (s := 1000080) info5 rfl rfl rfl hBg rfl (by simp only [rowV_length]; omega) (LeftS.cons (t := 0) rfl (Surv.v _) (LeftS.cons (t := 4) rfl (Surv.v _) (LeftS.cons (t := 5) rfl (Surv.v _) (LeftS.cons (t := 6) rfl (Surv.v _) (LeftS.cons (t := 7) rfl (Surv.v _) (LeftS.cons (t := 11) rfl (Surv.v _) (LeftS.cons (t := 12) rfl (Surv.v _) (LeftS.cons (t := 13) rfl (Surv.v _) (LeftS.cons (t := 14) rfl (Surv.v _) (LeftS.cons (t := 15) rfl (Surv.v _) (LeftS.cons (t := 16) rfl (Surv.v _) (LeftS.cons (t := 17) rfl (Surv.v _) (LeftS.cons (t := 18) rfl (Surv.v _) (LeftS.cons (t := 19) rfl (Surv.v _) (LeftS.cons (t := 1000081) rfl (Surv.wrote) LeftS.nil))))))))))))))), ?_⟩
    refine RunTK.last ?_
    refine RunK.nil ?_
    refine End.sub (Sub.cons (t := 0) rfl (Sub.cons (t := 6) rfl (Sub.cons (t := 7) rfl (Sub.cons (t := 1000080) rfl (Sub.cons (t := 1000081) rfl Sub.nil))))) ?_
    refine End.normal_block ?_
    refine End.normal_then (End.code ?_)
    refine A.reg (by kernel_rfl) (by kernel_rfl) (.inl rfl) ?_
    refine RunTK.last ?_
    refine RunK.step rfl rfl (ok_bin rfl rfl rfl) ?_; refine RunK.as (.int .i64 ((i + 1 : Nat) : Int)) (by rw [wrap_i64 (by omega) (by omega)]; exact congrArg (Value.int .i64) (by omega)) ?_
    refine RunK.step rfl rfl (ok_move rfl) ?_
    refine RunK.nil ?_
    refine End.sub (Sub.cons (t := 0) rfl (Sub.cons (t := 6) rfl (Sub.cons (t := 7) rfl (Sub.cons (t := 1000080) rfl (Sub.cons (t := 1000081) rfl Sub.nil))))) ?_
    refine End.normal_then ?_
    refine End.again (i + 1) ?_ ?_ ?_
    · show _ ≤ _; omega
    · show _ - _ < _ - _; omega
    · exact (Sub.cons (t := 0) rfl (Sub.cons (t := 6) rfl (Sub.cons (t := 7) rfl (Sub.eq (t := 1000080) _ rfl (congrArg _ (mid_set rfl rfl)) (Sub.cons (t := 1000081) rfl Sub.nil)))))
  · obtain rfl : i = 16 := by simp at hc8; omega
    refine A.exit ?_
    refine End.exit_then ?_
    refine End.exit_then ?_
    refine End.exit_here ?_
    exact End.wrote (kb := 1000080) (kw := 1000081) rfl rfl (mid_full 16 _ _) rfl
theorem substitute_fnW (g : Nat) (f : Nat → Nat) (hf : By f) : FnW Try.prog 31 [] 65 g (rowV 16 (f)) (rowV 16 (subS f)) ([ptr g].map D.v) := by
  refine FnW.of (n := 18) (kb := 1000080) (kw := 1000081) Try.func31 rfl (by kernel_rfl) Try.ntmps31 (by simp) (by decide) (fun p hp => by cases hp) (by decide) (by decide) [(0, .v (ptr g))]
    (fun p hp => by simp only [List.mem_cons, List.not_mem_nil, or_false] at hp; rcases hp with rfl <;> exact ⟨_, rfl, rfl⟩) fun w₀ w₁ hw hM => ?_
  have hBg : w₀.heap.size ≤ g := Nat.le_of_eq hw
  refine A.regs (by kernel_rfl) (by kernel_rfl) (.inl rfl) ?_
  refine RunTK.last ?_
  refine RunK.step rfl rfl (ok_move rfl) ?_
  refine RunK.step rfl rfl (ok_move rfl) ?_
  refine RunK.nil ?_
  refine A.sub (Sub.cons (t := 0) rfl (Sub.cons (t := 4) rfl (Sub.cons (t := 5) rfl (Sub.cons (t := 1000080) rfl (Sub.cons (t := 1000081) rfl Sub.nil))))) ?_
  refine A.block ?_
  refine A.loop (ι := Nat) (fun i => i ≤ 16) (fun i => [(0, .v (ptr g)), (4, .v (ptr g)), (5, .v (.int .i64 ((i : Nat) : Int))), (1000080, blk g 65 (rowV 16 (mid f (subS f) i))), (1000081, wroteD 65 g w₁)]) (fun i => 16 - i) 0 ?_ ?_ ?_
  · exact Nat.zero_le _
  · exact (Sub.cons (t := 0) rfl (Sub.cons (t := 4) rfl (Sub.cons (t := 5) rfl (Sub.eq (t := 1000080) _ rfl (congrArg _ (mid_zero 16 f _)) (Sub.cons (t := 1000081) rfl Sub.nil)))))
  intro i hi'
  refine A.regs (by kernel_rfl) (by kernel_rfl) (.inl rfl) ?_
  refine RunTK.last ?_
  refine RunK.step rfl rfl (ok_bin rfl rfl rfl) ?_
  refine RunK.nil ?_
  refine A.sub (Sub.cons (t := 0) rfl (Sub.cons (t := 4) rfl (Sub.cons (t := 5) rfl (Sub.cons (t := 6) rfl (Sub.cons (t := 1000080) rfl (Sub.cons (t := 1000081) rfl Sub.nil)))))) ?_
  refine A.seq ?_
  refine A.cond rfl (fun hc6 => ?_) (fun hc6 => ?_)
  · have hi : i < 16 := by simp at hc6; omega
    refine A.skip ?_
    refine End.normal_then (End.code ?_)
    refine A.seq ?_
    refine A.block ?_
    refine A.regs (by kernel_rfl) (by kernel_rfl) (.inr (by kernel_rfl)) ?_
    refine RunTK.last ?_
    refine RunK.step rfl rfl (ok_move rfl) ?_
    refine RunK.step rfl rfl (ok_nilCheck rfl) ?_
    refine RunK.step rfl rfl (ok_index0 _ Try.underlying65 info5 rfl rfl (rfl) (by omega)) ?_
    refine RunK.step rfl rfl (ok_loadV (s := 1000080) (by decide) Try.underlying5 rfl rfl rfl (rowV_get (by omega))) ?_; refine RunK.as (.int .u8 ((f i : Nat) : Int)) (v8 (mid_at f _ i)) ?_
    refine RunK.step rfl rfl (ok_assign rfl) ?_
    refine RunK.step rfl rfl (ok_assign rfl) ?_
    refine RunK.nil ?_
    refine A.sub (Sub.cons (t := 0) rfl (Sub.cons (t := 2) rfl (Sub.cons (t := 3) rfl (Sub.cons (t := 4) rfl (Sub.cons (t := 5) rfl (Sub.cons (t := 1000080) rfl (Sub.cons (t := 1000081) rfl Sub.nil))))))) ?_
    refine A.reg (by kernel_rfl) (by kernel_rfl) (.inr (by kernel_rfl)) ?_
    refine RunTK.eff 6 (by decide) rfl (.inr (by kernel_rfl)) ?_
    refine RunK.step rfl rfl (ok_move rfl) ?_
    refine RunK.step rfl rfl (ok_move rfl) ?_
    refine RunK.step rfl rfl (ok_move rfl) ?_
    refine RunK.step rfl rfl (ok_call (Sub_fn (f i) (hf _)) (Args.cons rfl (Le.refl _) Args.nil)) ?_; refine RunK.as (.int .u8 ((subS f i : Nat) : Int)) (v8 (by rfl)) ?_
    refine RunK.step rfl rfl (ok_nilCheck rfl) ?_
    refine RunK.step rfl rfl (ok_index0 _ Try.underlying65 info5 rfl rfl (rfl) (by omega)) ?_
    refine RunK.nil ?_
    refine ⟨_, eff_storeS (n := 18) (s := 1000080) info5 rfl rfl rfl hBg rfl (by simp only [rowV_length]; omega) (LeftS.cons (t := 0) rfl (Surv.v _) (LeftS.cons (t := 2) rfl (Surv.v _) (LeftS.cons (t := 3) rfl (Surv.v _) (LeftS.cons (t := 4) rfl (Surv.v _) (LeftS.cons (t := 5) rfl (Surv.v _) (LeftS.cons (t := 11) rfl (Surv.v _) (LeftS.cons (t := 12) rfl (Surv.v _) (LeftS.cons (t := 13) rfl (Surv.v _) (LeftS.cons (t := 14) rfl (Surv.v _) (LeftS.cons (t := 15) rfl (Surv.v _) (LeftS.cons (t := 16) rfl (Surv.v _) (LeftS.cons (t := 1000081) rfl (Surv.wrote) LeftS.nil)))))))))))), ?_⟩
    refine RunTK.last ?_
    refine RunK.nil ?_
    refine End.sub (Sub.cons (t := 0) rfl (Sub.cons (t := 4) rfl (Sub.cons (t := 5) rfl (Sub.cons (t := 1000080) rfl (Sub.cons (t := 1000081) rfl Sub.nil))))) ?_
    refine End.normal_block ?_
    refine End.normal_then (End.code ?_)
    refine A.reg (by kernel_rfl) (by kernel_rfl) (.inl rfl) ?_
    refine RunTK.last ?_
    refine RunK.step rfl rfl (ok_bin rfl rfl rfl) ?_; refine RunK.as (.int .i64 ((i + 1 : Nat) : Int)) (by rw [wrap_i64 (by omega) (by omega)]; exact congrArg (Value.int .i64) (by omega)) ?_
    refine RunK.step rfl rfl (ok_move rfl) ?_
    refine RunK.nil ?_
    refine End.sub (Sub.cons (t := 0) rfl (Sub.cons (t := 4) rfl (Sub.cons (t := 5) rfl (Sub.cons (t := 1000080) rfl (Sub.cons (t := 1000081) rfl Sub.nil))))) ?_
    refine End.normal_then ?_
    refine End.again (i + 1) ?_ ?_ ?_
    · show _ ≤ _; omega
    · show _ - _ < _ - _; omega
    · exact (Sub.cons (t := 0) rfl (Sub.cons (t := 4) rfl (Sub.cons (t := 5) rfl (Sub.eq (t := 1000080) _ rfl (congrArg _ (mid_set rfl rfl)) (Sub.cons (t := 1000081) rfl Sub.nil)))))
  · obtain rfl : i = 16 := by simp at hc6; omega
    refine A.exit ?_
    refine End.exit_then ?_
    refine End.exit_then ?_
    refine End.exit_here ?_
    exact End.wrote (kb := 1000080) (kw := 1000081) rfl rfl (mid_full 16 _ _) rfl
-- (*caisson/ciphers.state).substituteBack: not at this seat
set_option maxHeartbeats 1000000 in
theorem rotate_fnW (g : Nat) (f : Nat → Nat) : FnW Try.prog 32 [] 65 g (rowV 16 (f)) (rowV 16 (rotS f)) ([ptr g].map D.v) := by
  refine FnW.of (n := 32) (kb := 1000080) (kw := 1000081) Try.func32 rfl (by kernel_rfl) Try.ntmps32 (by simp) (by decide) (fun p hp => by cases hp) (by decide) (by decide) [(0, .v (ptr g))]
    (fun p hp => by simp only [List.mem_cons, List.not_mem_nil, or_false] at hp; rcases hp with rfl <;> exact ⟨_, rfl, rfl⟩) fun w₀ w₁ hw hM => ?_
  have hBg : w₀.heap.size ≤ g := Nat.le_of_eq hw
  refine A.regs (by kernel_rfl) (by kernel_rfl) (.inl rfl) ?_
  refine RunTK.new 3 (by decide) rfl (.inl rfl) ?_
  refine RunK.step rfl rfl (ok_move rfl) ?_
  refine RunK.step rfl rfl (ok_nilCheck rfl) ?_
  refine RunK.step rfl rfl (ok_loadA (s := 1000080) (by decide) Try.underlying65 rfl (size65.of (rowV_length _ _)) rfl rfl) ?_
  refine RunK.nil ?_
  refine ⟨_, _, eff_allocW (n := 32) (d := 2) (k := 1000002) zero65 (by decide), fun b2 hb2 => ?_⟩
  have hBb2 := hb2.1
  have hlt_g_b2 : g < b2 := hb2.2.1 1000080 _ _ _ rfl
  have hw_b2 := hb2.2.2 1000081 _ _ _ rfl
  refine RunTK.eff 4 (by decide) rfl (.inl rfl) ?_
  refine RunK.nil ?_
  refine ⟨_, eff_storeA (n := 32) (s := 1000002) (size65.of (rowV_length _ _)) rfl rfl (rowV_one _ _) hBb2 rfl (by first | (simp only [rowV_length]; done) | simp only [rowV_length, List.length_replicate]) (LeftS.cons (t := 0) rfl (Surv.v _) (LeftS.cons (t := 2) rfl (Surv.v _) (LeftS.cons (t := 5) rfl (Surv.v _) (LeftS.cons (t := 6) rfl (Surv.v _) (LeftS.cons (t := 7) rfl (Surv.v _) (LeftS.cons (t := 1000080) rfl (Surv.blk (by omega)) (LeftS.cons (t := 1000081) rfl (Surv.wroteN hw_b2) LeftS.nil))))))), ?_⟩
  refine RunTK.last ?_
  refine RunK.nil ?_
  refine A.sub (Sub.cons (t := 0) rfl (Sub.cons (t := 2) rfl (Sub.cons (t := 1000002) rfl (Sub.cons (t := 1000080) rfl (Sub.cons (t := 1000081) rfl Sub.nil))))) ?_
  refine A.regs (by kernel_rfl) (by kernel_rfl) (.inl rfl) ?_
  refine RunTK.last ?_
  refine RunK.step rfl rfl (ok_move rfl) ?_
  refine RunK.nil ?_
  refine A.sub (Sub.cons (t := 0) rfl (Sub.cons (t := 2) rfl (Sub.cons (t := 8) rfl (Sub.cons (t := 1000002) rfl (Sub.cons (t := 1000080) rfl (Sub.cons (t := 1000081) rfl Sub.nil)))))) ?_
  refine A.block ?_
  refine A.loop (ι := Nat) (fun c => c ≤ 4) (fun c => [(0, .v (ptr g)), (2, .v (.pointer (some ⟨b2, 0, none⟩))), (8, .v (.int .i64 ((c : Nat) : Int))), (1000002, blk b2 65 (rowV 16 (f))), (1000080, blk g 65 (rowV 16 (mid f (rotS f) (4 * c)))), (1000081, wroteD 65 g w₁)]) (fun c => 4 - c) 0 ?_ ?_ ?_
  · exact Nat.zero_le _
  · exact (Sub.cons (t := 0) rfl (Sub.cons (t := 2) rfl (Sub.cons (t := 8) rfl (Sub.cons (t := 1000002) rfl (Sub.eq (t := 1000080) _ rfl (congrArg _ (mid_zero 16 f _)) (Sub.cons (t := 1000081) rfl Sub.nil))))))
  intro c hc
  refine A.regs (by kernel_rfl) (by kernel_rfl) (.inl rfl) ?_
  refine RunTK.last ?_
  refine RunK.step rfl rfl (ok_bin rfl rfl rfl) ?_
  refine RunK.nil ?_
  refine A.sub (Sub.cons (t := 0) rfl (Sub.cons (t := 2) rfl (Sub.cons (t := 8) rfl (Sub.cons (t := 9) rfl (Sub.cons (t := 1000002) rfl (Sub.cons (t := 1000080) rfl (Sub.cons (t := 1000081) rfl Sub.nil))))))) ?_
  refine A.seq ?_
  refine A.cond rfl (fun hc9 => ?_) (fun hc9 => ?_)
  · have hc4 : c < 4 := by simp at hc9; omega
    refine A.skip ?_
    refine End.normal_then (End.code ?_)
    refine A.seq ?_
    refine A.block ?_
    refine A.regs (by kernel_rfl) (by kernel_rfl) (.inl rfl) ?_
    refine RunTK.last ?_
    refine RunK.step rfl rfl (ok_move rfl) ?_
    refine RunK.step rfl rfl (ok_assign rfl) ?_
    refine RunK.nil ?_
    refine A.sub (Sub.cons (t := 0) rfl (Sub.cons (t := 2) rfl (Sub.cons (t := 3) rfl (Sub.cons (t := 8) rfl (Sub.cons (t := 1000002) rfl (Sub.cons (t := 1000080) rfl (Sub.cons (t := 1000081) rfl Sub.nil))))))) ?_
    refine A.regs (by kernel_rfl) (by kernel_rfl) (.inl rfl) ?_
    refine RunTK.last ?_
    refine RunK.step rfl rfl (ok_move rfl) ?_
    refine RunK.nil ?_
    refine A.sub (Sub.cons (t := 0) rfl (Sub.cons (t := 2) rfl (Sub.cons (t := 3) rfl (Sub.cons (t := 8) rfl (Sub.cons (t := 11) rfl (Sub.cons (t := 1000002) rfl (Sub.cons (t := 1000080) rfl (Sub.cons (t := 1000081) rfl Sub.nil)))))))) ?_
    refine A.block ?_
    refine A.loop (ι := Nat) (fun r => r ≤ 4) (fun r => [(0, .v (ptr g)), (2, .v (.pointer (some ⟨b2, 0, none⟩))), (3, .v (.int .i64 ((c : Nat) : Int))), (8, .v (.int .i64 ((c : Nat) : Int))), (11, .v (.int .i64 ((r : Nat) : Int))), (1000002, blk b2 65 (rowV 16 (f))), (1000080, blk g 65 (rowV 16 (mid f (rotS f) (4 * c + r)))), (1000081, wroteD 65 g w₁)]) (fun r => 4 - r) 0 ?_ ?_ ?_
    · exact Nat.zero_le _
    · exact (Sub.cons (t := 0) rfl (Sub.cons (t := 2) rfl (Sub.cons (t := 3) rfl (Sub.cons (t := 8) rfl (Sub.cons (t := 11) rfl (Sub.cons (t := 1000002) rfl (Sub.cons (t := 1000080) rfl (Sub.cons (t := 1000081) rfl Sub.nil))))))))
    intro r hr
    refine A.regs (by kernel_rfl) (by kernel_rfl) (.inl rfl) ?_
    refine RunTK.last ?_
    refine RunK.step rfl rfl (ok_bin rfl rfl rfl) ?_
    refine RunK.nil ?_
    refine A.sub (Sub.cons (t := 0) rfl (Sub.cons (t := 2) rfl (Sub.cons (t := 3) rfl (Sub.cons (t := 8) rfl (Sub.cons (t := 11) rfl (Sub.cons (t := 12) rfl (Sub.cons (t := 1000002) rfl (Sub.cons (t := 1000080) rfl (Sub.cons (t := 1000081) rfl Sub.nil))))))))) ?_
    refine A.seq ?_
    refine A.cond rfl (fun hc12 => ?_) (fun hc12 => ?_)
    · have hr4 : r < 4 := by simp at hc12; omega
      refine A.skip ?_
      refine End.normal_then (End.code ?_)
      refine A.seq ?_
      refine A.block ?_
      refine A.regs (by kernel_rfl) (by kernel_rfl) (.inl rfl) ?_
      refine RunTK.last ?_
      refine RunK.step rfl rfl (ok_move rfl) ?_
      refine RunK.step rfl rfl (ok_assign rfl) ?_
      refine RunK.nil ?_
      refine A.sub (Sub.cons (t := 0) rfl (Sub.cons (t := 2) rfl (Sub.cons (t := 3) rfl (Sub.cons (t := 4) rfl (Sub.cons (t := 8) rfl (Sub.cons (t := 11) rfl (Sub.cons (t := 1000002) rfl (Sub.cons (t := 1000080) rfl (Sub.cons (t := 1000081) rfl Sub.nil))))))))) ?_
      refine A.reg (by kernel_rfl) (by kernel_rfl) (.inr (by kernel_rfl)) ?_
      refine RunTK.eff 16 (by decide) rfl (.inr (by kernel_rfl)) ?_
      refine RunK.step rfl rfl (ok_move rfl) ?_
      refine RunK.step rfl rfl (ok_move rfl) ?_
      refine RunK.step rfl rfl (ok_bin rfl rfl rfl) ?_; refine RunK.as (.int .i64 ((4 * c : Nat) : Int)) (by rw [wrap_i64 (by omega) (by omega)]; exact congrArg (Value.int .i64) (by omega)) ?_
      refine RunK.step rfl rfl (ok_move rfl) ?_
      refine RunK.step rfl rfl (ok_bin rfl rfl rfl) ?_; refine RunK.as (.int .i64 ((4 * c + r : Nat) : Int)) (by rw [wrap_i64 (by omega) (by omega)]; exact congrArg (Value.int .i64) (by omega)) ?_
      refine RunK.step rfl rfl (ok_move rfl) ?_
      refine RunK.step rfl rfl (ok_move rfl) ?_
      refine RunK.step rfl rfl (ok_bin rfl rfl rfl) ?_; refine RunK.as (.int .i64 ((c + r : Nat) : Int)) (by rw [wrap_i64 (by omega) (by omega)]; exact congrArg (Value.int .i64) (by omega)) ?_
      refine RunK.step rfl rfl (ok_rem rfl rfl (by decide)) ?_; refine RunK.as (.int .i64 (((c + r) % 4 : Nat) : Int)) (by rw [tmod_lit _ (by decide)]; rfl) ?_
      refine RunK.step rfl rfl (ok_bin rfl rfl rfl) ?_; refine RunK.as (.int .i64 ((4 * ((c + r) % 4) : Nat) : Int)) (by rw [wrap_i64 (by omega) (by omega)]; exact congrArg (Value.int .i64) (by omega)) ?_
      refine RunK.step rfl rfl (ok_move rfl) ?_
      refine RunK.step rfl rfl (ok_bin rfl rfl rfl) ?_; refine RunK.as (.int .i64 ((4 * ((c + r) % 4) + r : Nat) : Int)) (by rw [wrap_i64 (by omega) (by omega)]; exact congrArg (Value.int .i64) (by omega)) ?_
      refine RunK.step rfl rfl (ok_index0 _ Try.underlying65 info5 rfl rfl (rfl) (by omega)) ?_
      refine RunK.step rfl rfl (ok_loadV (s := 1000002) (by decide) Try.underlying5 rfl rfl rfl (rowV_get (by omega))) ?_; refine RunK.as (.int .u8 ((rotS f (4 * c + r) : Nat) : Int)) (v8 (congrArg f (by omega))) ?_
      refine RunK.step rfl rfl (ok_nilCheck rfl) ?_
      refine RunK.step rfl rfl (ok_index0 _ Try.underlying65 info5 rfl rfl (rfl) (by omega)) ?_
      refine RunK.nil ?_
      refine ⟨_, eff_storeS (n := 32) (s := 1000080) info5 rfl rfl rfl hBg rfl (by simp only [rowV_length]; omega) (LeftS.cons (t := 0) rfl (Surv.v _) (LeftS.cons (t := 2) rfl (Surv.v _) (LeftS.cons (t := 3) rfl (Surv.v _) (LeftS.cons (t := 4) rfl (Surv.v _) (LeftS.cons (t := 8) rfl (Surv.v _) (LeftS.cons (t := 11) rfl (Surv.v _) (LeftS.cons (t := 14) rfl (Surv.v _) (LeftS.cons (t := 15) rfl (Surv.v _) (LeftS.cons (t := 16) rfl (Surv.v _) (LeftS.cons (t := 17) rfl (Surv.v _) (LeftS.cons (t := 18) rfl (Surv.v _) (LeftS.cons (t := 19) rfl (Surv.v _) (LeftS.cons (t := 20) rfl (Surv.v _) (LeftS.cons (t := 21) rfl (Surv.v _) (LeftS.cons (t := 22) rfl (Surv.v _) (LeftS.cons (t := 23) rfl (Surv.v _) (LeftS.cons (t := 24) rfl (Surv.v _) (LeftS.cons (t := 25) rfl (Surv.v _) (LeftS.cons (t := 26) rfl (Surv.v _) (LeftS.cons (t := 27) rfl (Surv.v _) (LeftS.cons (t := 28) rfl (Surv.v _) (LeftS.cons (t := 29) rfl (Surv.v _) (LeftS.cons (t := 1000002) rfl (Surv.blk (by omega)) (LeftS.cons (t := 1000081) rfl (Surv.wrote) LeftS.nil)))))))))))))))))))))))), ?_⟩
      refine RunTK.last ?_
      refine RunK.nil ?_
      refine End.sub (Sub.cons (t := 0) rfl (Sub.cons (t := 2) rfl (Sub.cons (t := 3) rfl (Sub.cons (t := 8) rfl (Sub.cons (t := 11) rfl (Sub.cons (t := 1000002) rfl (Sub.cons (t := 1000080) rfl (Sub.cons (t := 1000081) rfl Sub.nil)))))))) ?_
      refine End.normal_block ?_
      refine End.normal_then (End.code ?_)
      refine A.reg (by kernel_rfl) (by kernel_rfl) (.inl rfl) ?_
      refine RunTK.last ?_
      refine RunK.step rfl rfl (ok_bin rfl rfl rfl) ?_; refine RunK.as (.int .i64 ((r + 1 : Nat) : Int)) (by rw [wrap_i64 (by omega) (by omega)]; exact congrArg (Value.int .i64) (by omega)) ?_
      refine RunK.step rfl rfl (ok_move rfl) ?_
      refine RunK.nil ?_
      refine End.sub (Sub.cons (t := 0) rfl (Sub.cons (t := 2) rfl (Sub.cons (t := 3) rfl (Sub.cons (t := 8) rfl (Sub.cons (t := 11) rfl (Sub.cons (t := 1000002) rfl (Sub.cons (t := 1000080) rfl (Sub.cons (t := 1000081) rfl Sub.nil)))))))) ?_
      refine End.normal_then ?_
      refine End.again (r + 1) ?_ ?_ ?_
      · show _ ≤ _; omega
      · show _ - _ < _ - _; omega
      · exact (Sub.cons (t := 0) rfl (Sub.cons (t := 2) rfl (Sub.cons (t := 3) rfl (Sub.cons (t := 8) rfl (Sub.cons (t := 11) rfl (Sub.cons (t := 1000002) rfl (Sub.eq (t := 1000080) _ rfl (congrArg _ (mid_set rfl rfl)) (Sub.cons (t := 1000081) rfl Sub.nil))))))))
    · obtain rfl : r = 4 := by simp at hc12; omega
      refine A.exit ?_
      refine End.exit_then ?_
      refine End.exit_then ?_
      refine End.exit_here ?_
      refine End.normal_block ?_
      refine End.normal_then (End.code ?_)
      refine A.reg (by kernel_rfl) (by kernel_rfl) (.inl rfl) ?_
      refine RunTK.last ?_
      refine RunK.step rfl rfl (ok_bin rfl rfl rfl) ?_; refine RunK.as (.int .i64 ((c + 1 : Nat) : Int)) (by rw [wrap_i64 (by omega) (by omega)]; exact congrArg (Value.int .i64) (by omega)) ?_
      refine RunK.step rfl rfl (ok_move rfl) ?_
      refine RunK.nil ?_
      refine End.sub (Sub.cons (t := 0) rfl (Sub.cons (t := 2) rfl (Sub.cons (t := 8) rfl (Sub.cons (t := 1000002) rfl (Sub.cons (t := 1000080) rfl (Sub.cons (t := 1000081) rfl Sub.nil)))))) ?_
      refine End.normal_then ?_
      refine End.again (c + 1) ?_ ?_ ?_
      · show _ ≤ _; omega
      · show _ - _ < _ - _; omega
      · exact (Sub.cons (t := 0) rfl (Sub.cons (t := 2) rfl (Sub.cons (t := 8) rfl (Sub.cons (t := 1000002) rfl (Sub.eq (t := 1000080) _ rfl (by rw [show 4 * (c + 1) = 4 * c + 4 from by omega]) (Sub.cons (t := 1000081) rfl Sub.nil))))))
  · obtain rfl : c = 4 := by simp at hc9; omega
    refine A.exit ?_
    refine End.exit_then ?_
    refine End.exit_then ?_
    refine End.exit_here ?_
    exact End.wrote (kb := 1000080) (kw := 1000081) rfl rfl (mid_full 16 _ _) rfl
-- (*caisson/ciphers.state).rotateBack: not at this seat
theorem mixAt_fn (f : Nat → Nat) (p q c r : Nat) (hc : c < 4) (hr : r < 8) : FnM Try.prog 44 [(1000002, blk p 65 (rowV 16 f)), (1000003, blk q 3 [.int .i64 ((c : Nat) : Int)])] [.v (.int .i64 ((r : Nat) : Int)), .v (ptr p), .v (ptr q)] (.v (.int .u8 ((f (4 * c + r % 4) : Nat) : Int))) := by
  refine FnM.of (n := 12) Try.func44 rfl (by kernel_rfl) Try.ntmps44 (by simp) (by decide) (fun w => [(0, .v (.int .i64 ((r : Nat) : Int))), (1, .v (ptr p)), (2, .v (ptr q)), (1000002, blk p 65 (rowV 16 f)), (1000003, blk q 3 [.int .i64 ((c : Nat) : Int)])])
    (fun w => StartM.v rfl (StartM.v rfl (StartM.v rfl (StartM.m (by simp) (by decide) (StartM.m (by simp) (by decide) StartM.nil))))) fun w₀ hM => ?_
  refine A.regs (by kernel_rfl) (by kernel_rfl) (.inl rfl) ?_
  refine RunTK.last ?_
  refine RunK.step rfl rfl (ok_assign rfl) ?_
  refine RunK.nil ?_
  refine A.sub (Sub.cons (t := 0) rfl (Sub.cons (t := 1) rfl (Sub.cons (t := 2) rfl (Sub.cons (t := 1000002) rfl (Sub.cons (t := 1000003) rfl Sub.nil))))) ?_
  refine A.regs (by kernel_rfl) (by kernel_rfl) (.inl rfl) ?_
  refine RunTK.last ?_
  refine RunK.step rfl rfl (ok_loadV (s := 1000003) (by decide) Try.underlying3 rfl rfl rfl (rfl)) ?_
  refine RunK.step rfl rfl (ok_bin rfl rfl rfl) ?_; refine RunK.as (.int .i64 ((4 * c : Nat) : Int)) (by rw [wrap_i64 (by omega) (by omega)]; exact congrArg (Value.int .i64) (by omega)) ?_
  refine RunK.step rfl rfl (ok_move rfl) ?_
  refine RunK.step rfl rfl (ok_rem rfl rfl (by decide)) ?_; refine RunK.as (.int .i64 ((r % 4 : Nat) : Int)) (by rw [tmod_lit _ (by decide)]; rfl) ?_
  refine RunK.step rfl rfl (ok_bin rfl rfl rfl) ?_; refine RunK.as (.int .i64 ((4 * c + r % 4 : Nat) : Int)) (by rw [wrap_i64 (by omega) (by omega)]; exact congrArg (Value.int .i64) (by omega)) ?_
  refine RunK.step rfl rfl (ok_index0 _ Try.underlying65 info5 rfl rfl (rfl) (by omega)) ?_
  refine RunK.step rfl rfl (ok_loadV (s := 1000002) (by decide) Try.underlying5 rfl rfl rfl (rowV_get (by omega))) ?_; refine RunK.as (.int .u8 ((f (4 * c + r % 4) : Nat) : Int)) (v8 (by rfl)) ?_
  refine RunK.step rfl rfl (ok_assign rfl) ?_
  refine RunK.nil ?_
  refine A.sub (Sub.cons (t := 4) rfl (Sub.cons (t := 1000002) rfl (Sub.cons (t := 1000003) rfl Sub.nil))) ?_
  refine A.ret ?_
  exact End.ret1 rfl rfl (by first | exact Le.refl _ | exact Le.old _ _)
theorem mixAt_v {f : Nat → Nat} {p q c : Nat} : ∀ x ∈ ([(1000002, blk p 65 (rowV 16 f)), (1000003, blk q 3 [.int .i64 ((c : Nat) : Int)])] : Env), vbase ≤ x.1 := fun x hx => by
  simp only [List.mem_cons, List.not_mem_nil, or_false] at hx
  rcases hx with rfl | rfl
  · exact vle rfl
  · exact vle rfl
theorem zero3 : ZeroIs Try.prog 3 [.int .i64 0] := by unfold ZeroIs; kernel_rfl
set_option maxHeartbeats 2000000 in
theorem mix_fnW (g : Nat) (f : Nat → Nat) (hf : By f) : FnW Try.prog 33 [] 65 g (rowV 16 (f)) (rowV 16 (mixS f)) ([ptr g].map D.v) := by
  refine FnW.of (n := 49) (kb := 1000080) (kw := 1000081) Try.func33 rfl (by kernel_rfl) Try.ntmps33 (by simp) (by decide) (fun p hp => by cases hp) (by decide) (by decide) [(0, .v (ptr g))]
    (fun p hp => by simp only [List.mem_cons, List.not_mem_nil, or_false] at hp; rcases hp with rfl <;> exact ⟨_, rfl, rfl⟩) fun w₀ w₁ hw hM => ?_
  have hBg : w₀.heap.size ≤ g := Nat.le_of_eq hw
  refine A.regs (by kernel_rfl) (by kernel_rfl) (.inl rfl) ?_
  refine RunTK.new 3 (by decide) rfl (.inl rfl) ?_
  refine RunK.step rfl rfl (ok_move rfl) ?_
  refine RunK.step rfl rfl (ok_nilCheck rfl) ?_
  refine RunK.step rfl rfl (ok_loadA (s := 1000080) (by decide) Try.underlying65 rfl (size65.of (rowV_length _ _)) rfl rfl) ?_
  refine RunK.nil ?_
  refine ⟨_, _, eff_allocW (n := 49) (d := 2) (k := 1000002) zero65 (by decide), fun b2 hb2 => ?_⟩
  have hBb2 := hb2.1
  have hlt_g_b2 : g < b2 := hb2.2.1 1000080 _ _ _ rfl
  have hw_b2 := hb2.2.2 1000081 _ _ _ rfl
  refine RunTK.eff 4 (by decide) rfl (.inl rfl) ?_
  refine RunK.nil ?_
  refine ⟨_, eff_storeA (n := 49) (s := 1000002) (size65.of (rowV_length _ _)) rfl rfl (rowV_one _ _) hBb2 rfl (by first | (simp only [rowV_length]; done) | simp only [rowV_length, List.length_replicate]) (LeftS.cons (t := 0) rfl (Surv.v _) (LeftS.cons (t := 2) rfl (Surv.v _) (LeftS.cons (t := 6) rfl (Surv.v _) (LeftS.cons (t := 7) rfl (Surv.v _) (LeftS.cons (t := 8) rfl (Surv.v _) (LeftS.cons (t := 1000080) rfl (Surv.blk (by omega)) (LeftS.cons (t := 1000081) rfl (Surv.wroteN hw_b2) LeftS.nil))))))), ?_⟩
  refine RunTK.last ?_
  refine RunK.nil ?_
  refine A.sub (Sub.cons (t := 0) rfl (Sub.cons (t := 2) rfl (Sub.cons (t := 1000002) rfl (Sub.cons (t := 1000080) rfl (Sub.cons (t := 1000081) rfl Sub.nil))))) ?_
  refine A.regs (by kernel_rfl) (by kernel_rfl) (.inl rfl) ?_
  refine RunTK.last ?_
  refine RunK.step rfl rfl (ok_move rfl) ?_
  refine RunK.nil ?_
  refine A.sub (Sub.cons (t := 0) rfl (Sub.cons (t := 2) rfl (Sub.cons (t := 9) rfl (Sub.cons (t := 1000002) rfl (Sub.cons (t := 1000080) rfl (Sub.cons (t := 1000081) rfl Sub.nil)))))) ?_
  refine A.block ?_
  refine A.loop (ι := Nat) (fun c => c ≤ 4) (fun c => [(0, .v (ptr g)), (2, .v (.pointer (some ⟨b2, 0, none⟩))), (9, .v (.int .i64 ((c : Nat) : Int))), (1000002, blk b2 65 (rowV 16 (f))), (1000080, blk g 65 (rowV 16 (mid f (mixS f) (4 * c)))), (1000081, wroteD 65 g w₁)]) (fun c => 4 - c) 0 ?_ ?_ ?_
  · exact Nat.zero_le _
  · exact (Sub.cons (t := 0) rfl (Sub.cons (t := 2) rfl (Sub.cons (t := 9) rfl (Sub.cons (t := 1000002) rfl (Sub.eq (t := 1000080) _ rfl (congrArg _ (mid_zero 16 f _)) (Sub.cons (t := 1000081) rfl Sub.nil))))))
  intro c hc
  refine A.regs (by kernel_rfl) (by kernel_rfl) (.inl rfl) ?_
  refine RunTK.last ?_
  refine RunK.step rfl rfl (ok_bin rfl rfl rfl) ?_
  refine RunK.nil ?_
  refine A.sub (Sub.cons (t := 0) rfl (Sub.cons (t := 2) rfl (Sub.cons (t := 9) rfl (Sub.cons (t := 10) rfl (Sub.cons (t := 1000002) rfl (Sub.cons (t := 1000080) rfl (Sub.cons (t := 1000081) rfl Sub.nil))))))) ?_
  refine A.seq ?_
  refine A.cond rfl (fun hc10 => ?_) (fun hc10 => ?_)
  · have hc4 : c < 4 := by simp at hc10; omega
    refine A.skip ?_
    refine End.normal_then (End.code ?_)
    refine A.seq ?_
    refine A.block ?_
    refine A.regs (by kernel_rfl) (by kernel_rfl) (.inl rfl) ?_
    refine RunTK.new 1 (by decide) rfl (.inl rfl) ?_
    refine RunK.step rfl rfl (ok_move rfl) ?_
    refine RunK.nil ?_
    refine ⟨_, _, eff_allocW (n := 49) (d := 3) (k := 1000003) zero3 (by decide), fun b3 hb3 => ?_⟩
    have hBb3 := hb3.1
    have hlt_b2_b3 : b2 < b3 := hb3.2.1 1000002 _ _ _ rfl
    have hlt_g_b3 : g < b3 := hb3.2.1 1000080 _ _ _ rfl
    have hw_b3 := hb3.2.2 1000081 _ _ _ rfl
    refine RunTK.eff 2 (by decide) rfl (.inl rfl) ?_
    refine RunK.nil ?_
    refine ⟨_, eff_storeS (n := 49) (s := 1000003) info3 rfl rfl rfl hBb3 rfl (by decide) (LeftS.cons (t := 0) rfl (Surv.v _) (LeftS.cons (t := 2) rfl (Surv.v _) (LeftS.cons (t := 3) rfl (Surv.v _) (LeftS.cons (t := 9) rfl (Surv.v _) (LeftS.cons (t := 10) rfl (Surv.v _) (LeftS.cons (t := 11) rfl (Surv.v _) (LeftS.cons (t := 1000002) rfl (Surv.blkT (by decide)) (LeftS.cons (t := 1000080) rfl (Surv.blkT (by decide)) (LeftS.cons (t := 1000081) rfl (Surv.wroteN hw_b3) LeftS.nil))))))))), ?_⟩
    refine RunTK.last ?_
    refine RunK.nil ?_
    refine A.sub (Sub.cons (t := 0) rfl (Sub.cons (t := 2) rfl (Sub.cons (t := 3) rfl (Sub.cons (t := 9) rfl (Sub.cons (t := 1000002) rfl (Sub.cons (t := 1000003) rfl (Sub.cons (t := 1000080) rfl (Sub.cons (t := 1000081) rfl Sub.nil)))))))) ?_
    refine A.regs (by kernel_rfl) (by kernel_rfl) (.inl rfl) ?_
    refine RunTK.last ?_
    refine RunK.step rfl rfl (ok_makeFuncN [ptr b2, ptr b3] ⟨rfl, rfl, trivial⟩) ?_
    refine RunK.step rfl rfl (ok_assign rfl) ?_
    refine RunK.nil ?_
    refine A.sub (Sub.cons (t := 0) rfl (Sub.cons (t := 2) rfl (Sub.cons (t := 3) rfl (Sub.cons (t := 4) rfl (Sub.cons (t := 9) rfl (Sub.cons (t := 1000002) rfl (Sub.cons (t := 1000003) rfl (Sub.cons (t := 1000080) rfl (Sub.cons (t := 1000081) rfl Sub.nil))))))))) ?_
    refine A.regs (by kernel_rfl) (by kernel_rfl) (.inl rfl) ?_
    refine RunTK.last ?_
    refine RunK.step rfl rfl (ok_move rfl) ?_
    refine RunK.nil ?_
    refine A.sub (Sub.cons (t := 0) rfl (Sub.cons (t := 2) rfl (Sub.cons (t := 3) rfl (Sub.cons (t := 4) rfl (Sub.cons (t := 9) rfl (Sub.cons (t := 13) rfl (Sub.cons (t := 1000002) rfl (Sub.cons (t := 1000003) rfl (Sub.cons (t := 1000080) rfl (Sub.cons (t := 1000081) rfl Sub.nil)))))))))) ?_
    refine A.block ?_
    refine A.loop (ι := Nat) (fun r => r ≤ 4) (fun r => [(0, .v (ptr g)), (2, .v (.pointer (some ⟨b2, 0, none⟩))), (3, .v (.pointer (some ⟨b3, 0, none⟩))), (4, .v (.func (.func 44) #[] #[ptr b2, ptr b3])), (9, .v (.int .i64 ((c : Nat) : Int))), (13, .v (.int .i64 ((r : Nat) : Int))), (1000002, blk b2 65 (rowV 16 (f))), (1000003, blk b3 3 [.int .i64 ((c : Nat) : Int)]), (1000080, blk g 65 (rowV 16 (mid f (mixS f) (4 * c + r)))), (1000081, wroteD 65 g w₁)]) (fun r => 4 - r) 0 ?_ ?_ ?_
    · exact Nat.zero_le _
    · exact (Sub.cons (t := 0) rfl (Sub.cons (t := 2) rfl (Sub.cons (t := 3) rfl (Sub.cons (t := 4) rfl (Sub.cons (t := 9) rfl (Sub.cons (t := 13) rfl (Sub.cons (t := 1000002) rfl (Sub.cons (t := 1000003) rfl (Sub.cons (t := 1000080) rfl (Sub.cons (t := 1000081) rfl Sub.nil))))))))))
    intro r hr
    refine A.regs (by kernel_rfl) (by kernel_rfl) (.inl rfl) ?_
    refine RunTK.last ?_
    refine RunK.step rfl rfl (ok_bin rfl rfl rfl) ?_
    refine RunK.nil ?_
    refine A.sub (Sub.cons (t := 0) rfl (Sub.cons (t := 2) rfl (Sub.cons (t := 3) rfl (Sub.cons (t := 4) rfl (Sub.cons (t := 9) rfl (Sub.cons (t := 13) rfl (Sub.cons (t := 14) rfl (Sub.cons (t := 1000002) rfl (Sub.cons (t := 1000003) rfl (Sub.cons (t := 1000080) rfl (Sub.cons (t := 1000081) rfl Sub.nil))))))))))) ?_
    refine A.seq ?_
    refine A.cond rfl (fun hc14 => ?_) (fun hc14 => ?_)
    · have hr4 : r < 4 := by simp at hc14; omega
      refine A.skip ?_
      refine End.normal_then (End.code ?_)
      refine A.seq ?_
      refine A.block ?_
      refine A.regs (by kernel_rfl) (by kernel_rfl) (.inl rfl) ?_
      refine RunTK.last ?_
      refine RunK.step rfl rfl (ok_move rfl) ?_
      refine RunK.step rfl rfl (ok_assign rfl) ?_
      refine RunK.nil ?_
      refine A.sub (Sub.cons (t := 0) rfl (Sub.cons (t := 2) rfl (Sub.cons (t := 3) rfl (Sub.cons (t := 4) rfl (Sub.cons (t := 5) rfl (Sub.cons (t := 9) rfl (Sub.cons (t := 13) rfl (Sub.cons (t := 1000002) rfl (Sub.cons (t := 1000003) rfl (Sub.cons (t := 1000080) rfl (Sub.cons (t := 1000081) rfl Sub.nil))))))))))) ?_
      refine A.reg (by kernel_rfl) (by kernel_rfl) (.inr (by kernel_rfl)) ?_
      refine RunTK.eff 31 (by decide) rfl (.inr (by kernel_rfl)) ?_
      refine RunK.step rfl rfl (ok_move rfl) ?_
      refine RunK.step rfl rfl (ok_loadV (s := 1000003) (by decide) Try.underlying3 rfl rfl rfl (rfl)) ?_
      refine RunK.step rfl rfl (ok_bin rfl rfl rfl) ?_; refine RunK.as (.int .i64 ((4 * c : Nat) : Int)) (by rw [wrap_i64 (by omega) (by omega)]; exact congrArg (Value.int .i64) (by omega)) ?_
      refine RunK.step rfl rfl (ok_move rfl) ?_
      refine RunK.step rfl rfl (ok_bin rfl rfl rfl) ?_; refine RunK.as (.int .i64 ((4 * c + r : Nat) : Int)) (by rw [wrap_i64 (by omega) (by omega)]; exact congrArg (Value.int .i64) (by omega)) ?_
      refine RunK.step rfl rfl (ok_move rfl) ?_
      refine RunK.step rfl rfl (ok_move rfl) ?_
      refine RunK.step rfl rfl (ok_callVM (mixAt_fn f b2 b3 c (r + 0) hc4 (by omega)) (Sub.cons (t := 1000002) rfl (Sub.cons (t := 1000003) rfl Sub.nil)) mixAt_v rfl (Args.cons rfl (Le.refl _) Args.nil)) ?_
      refine RunK.step rfl rfl (ok_move rfl) ?_
      refine RunK.step rfl rfl (ok_move rfl) ?_
      refine RunK.step rfl rfl (ok_bin rfl rfl rfl) ?_; refine RunK.as (.int .i64 ((r + 1 : Nat) : Int)) (by rw [wrap_i64 (by omega) (by omega)]; exact congrArg (Value.int .i64) (by omega)) ?_
      refine RunK.step rfl rfl (ok_callVM (mixAt_fn f b2 b3 c (r + 1) hc4 (by omega)) (Sub.cons (t := 1000002) rfl (Sub.cons (t := 1000003) rfl Sub.nil)) mixAt_v rfl (Args.cons rfl (Le.refl _) Args.nil)) ?_
      refine RunK.step rfl rfl (ok_bin rfl rfl rfl) ?_; refine RunK.as (.int .u8 ((f (4 * c + (r + 0) % 4) ^^^ f (4 * c + (r + 1) % 4) : Nat) : Int)) (by rw [show IntKind.u8.bits = 8 from rfl, xor_u8N (hf _) (hf _)]) ?_
      refine RunK.step rfl rfl (ok_call (Mul_fn 2 (f (4 * c + (r + 0) % 4) ^^^ f (4 * c + (r + 1) % 4)) (by decide) (xor_lt _ _ (hf _) (hf _))) (Args.cons rfl (Le.refl _) (Args.cons rfl (Le.refl _) Args.nil))) ?_
      refine RunK.step rfl rfl (ok_move rfl) ?_
      refine RunK.step rfl rfl (ok_move rfl) ?_
      refine RunK.step rfl rfl (ok_bin rfl rfl rfl) ?_; refine RunK.as (.int .i64 ((r + 1 : Nat) : Int)) (by rw [wrap_i64 (by omega) (by omega)]; exact congrArg (Value.int .i64) (by omega)) ?_
      refine RunK.step rfl rfl (ok_callVM (mixAt_fn f b2 b3 c (r + 1) hc4 (by omega)) (Sub.cons (t := 1000002) rfl (Sub.cons (t := 1000003) rfl Sub.nil)) mixAt_v rfl (Args.cons rfl (Le.refl _) Args.nil)) ?_
      refine RunK.step rfl rfl (ok_bin rfl rfl rfl) ?_; refine RunK.as (.int .u8 ((gm 2 (f (4 * c + (r + 0) % 4) ^^^ f (4 * c + (r + 1) % 4)) ^^^ f (4 * c + (r + 1) % 4) : Nat) : Int)) (by rw [show IntKind.u8.bits = 8 from rfl, xor_u8N (gm_lt _ (by decide)) (hf _)]) ?_
      refine RunK.step rfl rfl (ok_move rfl) ?_
      refine RunK.step rfl rfl (ok_move rfl) ?_
      refine RunK.step rfl rfl (ok_bin rfl rfl rfl) ?_; refine RunK.as (.int .i64 ((r + 2 : Nat) : Int)) (by rw [wrap_i64 (by omega) (by omega)]; exact congrArg (Value.int .i64) (by omega)) ?_
      refine RunK.step rfl rfl (ok_callVM (mixAt_fn f b2 b3 c (r + 2) hc4 (by omega)) (Sub.cons (t := 1000002) rfl (Sub.cons (t := 1000003) rfl Sub.nil)) mixAt_v rfl (Args.cons rfl (Le.refl _) Args.nil)) ?_
      refine RunK.step rfl rfl (ok_bin rfl rfl rfl) ?_; refine RunK.as (.int .u8 ((gm 2 (f (4 * c + (r + 0) % 4) ^^^ f (4 * c + (r + 1) % 4)) ^^^ f (4 * c + (r + 1) % 4) ^^^ f (4 * c + (r + 2) % 4) : Nat) : Int)) (by rw [show IntKind.u8.bits = 8 from rfl, xor_u8N (xor_lt _ _ (gm_lt _ (by decide)) (hf _)) (hf _)]) ?_
      refine RunK.step rfl rfl (ok_move rfl) ?_
      refine RunK.step rfl rfl (ok_move rfl) ?_
      refine RunK.step rfl rfl (ok_bin rfl rfl rfl) ?_; refine RunK.as (.int .i64 ((r + 3 : Nat) : Int)) (by rw [wrap_i64 (by omega) (by omega)]; exact congrArg (Value.int .i64) (by omega)) ?_
      refine RunK.step rfl rfl (ok_callVM (mixAt_fn f b2 b3 c (r + 3) hc4 (by omega)) (Sub.cons (t := 1000002) rfl (Sub.cons (t := 1000003) rfl Sub.nil)) mixAt_v rfl (Args.cons rfl (Le.refl _) Args.nil)) ?_
      refine RunK.step rfl rfl (ok_bin rfl rfl rfl) ?_; refine RunK.as (.int .u8 ((mixS f (4 * c + r) : Nat) : Int)) (by rw [show IntKind.u8.bits = 8 from rfl, xor_u8N (xor_lt _ _ (xor_lt _ _ (gm_lt _ (by decide)) (hf _)) (hf _)) (hf _), mixS_at f c hr4]) ?_
      refine RunK.step rfl rfl (ok_nilCheck rfl) ?_
      refine RunK.step rfl rfl (ok_index0 _ Try.underlying65 info5 rfl rfl (rfl) (by omega)) ?_
      refine RunK.nil ?_
      refine ⟨_, eff_storeS (n := 49) (s := 1000080) info5 rfl rfl rfl hBg rfl (by simp only [rowV_length]; omega) (LeftS.cons (t := 0) rfl (Surv.v _) (LeftS.cons (t := 2) rfl (Surv.v _) (LeftS.cons (t := 3) rfl (Surv.v _) (LeftS.cons (t := 4) rfl (Surv.v _) (LeftS.cons (t := 5) rfl (Surv.v _) (LeftS.cons (t := 9) rfl (Surv.v _) (LeftS.cons (t := 13) rfl (Surv.v _) (LeftS.cons (t := 16) rfl (Surv.v _) (LeftS.cons (t := 17) rfl (Surv.v _) (LeftS.cons (t := 18) rfl (Surv.v _) (LeftS.cons (t := 19) rfl (Surv.v _) (LeftS.cons (t := 20) rfl (Surv.v _) (LeftS.cons (t := 21) rfl (Surv.v _) (LeftS.cons (t := 22) rfl (Surv.v _) (LeftS.cons (t := 23) rfl (Surv.v _) (LeftS.cons (t := 24) rfl (Surv.v _) (LeftS.cons (t := 25) rfl (Surv.v _) (LeftS.cons (t := 26) rfl (Surv.v _) (LeftS.cons (t := 27) rfl (Surv.v _) (LeftS.cons (t := 28) rfl (Surv.v _) (LeftS.cons (t := 29) rfl (Surv.v _) (LeftS.cons (t := 30) rfl (Surv.v _) (LeftS.cons (t := 31) rfl (Surv.v _) (LeftS.cons (t := 32) rfl (Surv.v _) (LeftS.cons (t := 33) rfl (Surv.v _) (LeftS.cons (t := 34) rfl (Surv.v _) (LeftS.cons (t := 35) rfl (Surv.v _) (LeftS.cons (t := 36) rfl (Surv.v _) (LeftS.cons (t := 37) rfl (Surv.v _) (LeftS.cons (t := 38) rfl (Surv.v _) (LeftS.cons (t := 39) rfl (Surv.v _) (LeftS.cons (t := 40) rfl (Surv.v _) (LeftS.cons (t := 41) rfl (Surv.v _) (LeftS.cons (t := 42) rfl (Surv.v _) (LeftS.cons (t := 43) rfl (Surv.v _) (LeftS.cons (t := 44) rfl (Surv.v _) (LeftS.cons (t := 45) rfl (Surv.v _) (LeftS.cons (t := 46) rfl (Surv.v _) (LeftS.cons (t := 1000002) rfl (Surv.blk (by omega)) (LeftS.cons (t := 1000003) rfl (Surv.blkT (by decide)) (LeftS.cons (t := 1000081) rfl (Surv.wrote) LeftS.nil))))))))))))))))))))))))))))))))))))))))), ?_⟩
      refine RunTK.last ?_
      refine RunK.nil ?_
      refine End.sub (Sub.cons (t := 0) rfl (Sub.cons (t := 2) rfl (Sub.cons (t := 3) rfl (Sub.cons (t := 4) rfl (Sub.cons (t := 9) rfl (Sub.cons (t := 13) rfl (Sub.cons (t := 1000002) rfl (Sub.cons (t := 1000003) rfl (Sub.cons (t := 1000080) rfl (Sub.cons (t := 1000081) rfl Sub.nil)))))))))) ?_
      refine End.normal_block ?_
      refine End.normal_then (End.code ?_)
      refine A.reg (by kernel_rfl) (by kernel_rfl) (.inl rfl) ?_
      refine RunTK.last ?_
      refine RunK.step rfl rfl (ok_bin rfl rfl rfl) ?_; refine RunK.as (.int .i64 ((r + 1 : Nat) : Int)) (by rw [wrap_i64 (by omega) (by omega)]; exact congrArg (Value.int .i64) (by omega)) ?_
      refine RunK.step rfl rfl (ok_move rfl) ?_
      refine RunK.nil ?_
      refine End.sub (Sub.cons (t := 0) rfl (Sub.cons (t := 2) rfl (Sub.cons (t := 3) rfl (Sub.cons (t := 4) rfl (Sub.cons (t := 9) rfl (Sub.cons (t := 13) rfl (Sub.cons (t := 1000002) rfl (Sub.cons (t := 1000003) rfl (Sub.cons (t := 1000080) rfl (Sub.cons (t := 1000081) rfl Sub.nil)))))))))) ?_
      refine End.normal_then ?_
      refine End.again (r + 1) ?_ ?_ ?_
      · show _ ≤ _; omega
      · show _ - _ < _ - _; omega
      · exact (Sub.cons (t := 0) rfl (Sub.cons (t := 2) rfl (Sub.cons (t := 3) rfl (Sub.cons (t := 4) rfl (Sub.cons (t := 9) rfl (Sub.cons (t := 13) rfl (Sub.cons (t := 1000002) rfl (Sub.cons (t := 1000003) rfl (Sub.eq (t := 1000080) _ rfl (congrArg _ (mid_set rfl rfl)) (Sub.cons (t := 1000081) rfl Sub.nil))))))))))
    · obtain rfl : r = 4 := by simp at hc14; omega
      refine A.exit ?_
      refine End.exit_then ?_
      refine End.exit_then ?_
      refine End.exit_here ?_
      refine End.normal_block ?_
      refine End.normal_then (End.code ?_)
      refine A.reg (by kernel_rfl) (by kernel_rfl) (.inl rfl) ?_
      refine RunTK.last ?_
      refine RunK.step rfl rfl (ok_bin rfl rfl rfl) ?_; refine RunK.as (.int .i64 ((c + 1 : Nat) : Int)) (by rw [wrap_i64 (by omega) (by omega)]; exact congrArg (Value.int .i64) (by omega)) ?_
      refine RunK.step rfl rfl (ok_move rfl) ?_
      refine RunK.nil ?_
      refine End.sub (Sub.cons (t := 0) rfl (Sub.cons (t := 2) rfl (Sub.cons (t := 9) rfl (Sub.cons (t := 1000002) rfl (Sub.cons (t := 1000003) rfl (Sub.cons (t := 1000080) rfl (Sub.cons (t := 1000081) rfl Sub.nil))))))) ?_
      refine End.normal_then ?_
      refine End.again (c + 1) ?_ ?_ ?_
      · show _ ≤ _; omega
      · show _ - _ < _ - _; omega
      · exact (Sub.cons (t := 0) rfl (Sub.cons (t := 2) rfl (Sub.cons (t := 9) rfl (Sub.cons (t := 1000002) rfl (Sub.eq (t := 1000080) _ rfl (by rw [show 4 * (c + 1) = 4 * c + 4 from by omega]) (Sub.cons (t := 1000081) rfl Sub.nil))))))
  · obtain rfl : c = 4 := by simp at hc10; omega
    refine A.exit ?_
    refine End.exit_then ?_
    refine End.exit_then ?_
    refine End.exit_here ?_
    exact End.wrote (kb := 1000080) (kw := 1000081) rfl rfl (mid_full 16 _ _) rfl
/-- i times the columns' step. -/
def mixN (f : Sta) : Nat → Sta
  | 0 => f
  | i + 1 => mixS (mixN f i)
theorem mixN_by {f : Sta} (h : By f) : ∀ i, By (mixN f i)
  | 0 => h
  | i + 1 => mixS_by (mixN_by h i)
-- (*caisson/ciphers.state).mixBack: not at this seat
theorem carryOut_fnW (g : Nat) (us : List Value) (cs : Nat → List Value) (hl : us.length ≤ 1000) (h : ∀ (i : Nat) (u : Value), us[i]? = some u → Does Try.prog 65 g u (cs i) (cs (i + 1))) : FnW Try.prog 30 [] 65 g (cs 0) (cs us.length) [fresh 0 1 us us.length] := by
  refine FnW.ofD (n := 13) (kb := 1000080) (kw := 1000081) Try.func30 rfl (by kernel_rfl) Try.ntmps30 (by simp) (by decide) (fun p hp => by cases hp) (by decide) (by decide) [(0, fresh 0 1 us us.length)]
    (fun p hp => by simp only [List.mem_cons, List.not_mem_nil, or_false] at hp; rcases hp with rfl; rfl) fun w₀ w₁ hw hM => ?_
  have hBg : w₀.heap.size ≤ g := Nat.le_of_eq hw
  refine A.openAt (t := 0) (k := 1000070) rfl fun b => ?_
  refine A.regs (by kernel_rfl) (by kernel_rfl) (.inl rfl) ?_
  refine RunTK.last ?_
  refine RunK.step rfl rfl (ok_move rfl) ?_
  refine RunK.step rfl rfl (ok_lenV Try.underlying80 rfl) ?_
  refine RunK.step rfl rfl (ok_move rfl) ?_
  refine RunK.nil ?_
  refine A.sub (Sub.cons (t := 4) rfl (Sub.cons (t := 5) rfl (Sub.cons (t := 6) rfl (Sub.cons (t := 1000070) rfl (Sub.cons (t := 1000080) rfl (Sub.cons (t := 1000081) rfl Sub.nil)))))) ?_
  refine A.block ?_
  refine A.loop (ι := Nat) (fun i => i ≤ us.length) (fun i => [(4, .v (.slice (some ⟨b, 0, none⟩) us.length us.length)), (5, .v (.int .i64 ((us.length : Nat) : Int))), (6, .v (.int .i64 ((i : Nat) : Int))), (1000070, blk b 1 us), (1000080, blk g 65 (cs i)), (1000081, wroteD 65 g w₁)]) (fun i => us.length - i) 0 ?_ ?_ ?_
  · exact Nat.zero_le _
  · exact (Sub.cons (t := 4) rfl (Sub.cons (t := 5) rfl (Sub.cons (t := 6) rfl (Sub.cons (t := 1000070) rfl (Sub.cons (t := 1000080) rfl (Sub.cons (t := 1000081) rfl Sub.nil))))))
  intro i hi'
  refine A.regs (by kernel_rfl) (by kernel_rfl) (.inl rfl) ?_
  refine RunTK.last ?_
  refine RunK.step rfl rfl (ok_bin rfl rfl rfl) ?_
  refine RunK.nil ?_
  refine A.sub (Sub.cons (t := 4) rfl (Sub.cons (t := 5) rfl (Sub.cons (t := 6) rfl (Sub.cons (t := 7) rfl (Sub.cons (t := 1000070) rfl (Sub.cons (t := 1000080) rfl (Sub.cons (t := 1000081) rfl Sub.nil))))))) ?_
  refine A.seq ?_
  refine A.cond rfl (fun hc7 => ?_) (fun hc7 => ?_)
  · have hi : i < us.length := by simp at hc7; omega
    obtain ⟨u, hu⟩ : ∃ u, us[i]? = some u := ⟨_, List.getElem?_eq_getElem hi⟩
    refine A.skip ?_
    refine End.normal_then (End.code ?_)
    refine A.seq ?_
    refine A.block ?_
    refine A.regs (by kernel_rfl) (by kernel_rfl) (.inl rfl) ?_
    refine RunTK.last ?_
    refine RunK.step rfl rfl (ok_indexV i Try.underlying80 info1 rfl rfl rfl hi) ?_
    refine RunK.step rfl rfl (ok_loadV (s := 1000070) (by decide) Try.underlying1 rfl rfl rfl (by rw [Nat.zero_add]; exact hu)) ?_
    refine RunK.step rfl rfl (ok_assign rfl) ?_
    refine RunK.nil ?_
    refine A.sub (Sub.cons (t := 3) rfl (Sub.cons (t := 4) rfl (Sub.cons (t := 5) rfl (Sub.cons (t := 6) rfl (Sub.cons (t := 1000070) rfl (Sub.cons (t := 1000080) rfl (Sub.cons (t := 1000081) rfl Sub.nil))))))) ?_
    refine A.reg (by kernel_rfl) (by kernel_rfl) (.inl rfl) ?_
    refine RunTK.eff 1 (by decide) rfl (.inl rfl) ?_
    refine RunK.step rfl rfl (ok_move rfl) ?_
    refine RunK.nil ?_
    refine ⟨_, eff_callF (n := 13) (s := 1000080) (h i u hu) rfl hBg rfl (by decide) (LeftS.cons (t := 3) rfl (Surv.v _) (LeftS.cons (t := 4) rfl (Surv.v _) (LeftS.cons (t := 5) rfl (Surv.v _) (LeftS.cons (t := 6) rfl (Surv.v _) (LeftS.cons (t := 10) rfl (Surv.v _) (LeftS.cons (t := 1000070) rfl (Surv.blkT (by decide)) (LeftS.cons (t := 1000081) rfl (Surv.wrote) LeftS.nil))))))), ?_⟩
    refine RunTK.last ?_
    refine RunK.nil ?_
    refine End.sub (Sub.cons (t := 4) rfl (Sub.cons (t := 5) rfl (Sub.cons (t := 6) rfl (Sub.cons (t := 1000070) rfl (Sub.cons (t := 1000080) rfl (Sub.cons (t := 1000081) rfl Sub.nil)))))) ?_
    refine End.normal_block ?_
    refine End.normal_then (End.code ?_)
    refine A.reg (by kernel_rfl) (by kernel_rfl) (.inl rfl) ?_
    refine RunTK.last ?_
    refine RunK.step rfl rfl (ok_bin rfl rfl rfl) ?_; refine RunK.as (.int .i64 ((i + 1 : Nat) : Int)) (by rw [wrap_i64 (by omega) (by omega)]; exact congrArg (Value.int .i64) (by omega)) ?_
    refine RunK.step rfl rfl (ok_move rfl) ?_
    refine RunK.nil ?_
    refine End.sub (Sub.cons (t := 4) rfl (Sub.cons (t := 5) rfl (Sub.cons (t := 6) rfl (Sub.cons (t := 1000070) rfl (Sub.cons (t := 1000080) rfl (Sub.cons (t := 1000081) rfl Sub.nil)))))) ?_
    refine End.normal_then ?_
    refine End.again (i + 1) ?_ ?_ ?_
    · show _ ≤ _; omega
    · show _ - _ < _ - _; omega
    · exact (Sub.cons (t := 4) rfl (Sub.cons (t := 5) rfl (Sub.cons (t := 6) rfl (Sub.cons (t := 1000070) rfl (Sub.cons (t := 1000080) rfl (Sub.cons (t := 1000081) rfl Sub.nil))))))
  · obtain rfl : i = us.length := by simp at hc7; omega
    refine A.exit ?_
    refine End.exit_then ?_
    refine End.exit_then ?_
    refine End.exit_here ?_
    exact End.wrote (kb := 1000080) (kw := 1000081) rfl rfl rfl rfl
theorem carry2 (g : Nat) {u₁ u₂ : Value} {x₀ x₁ x₂ : List Value} (h₁ : Does Try.prog 65 g u₁ x₀ x₁) (h₂ : Does Try.prog 65 g u₂ x₁ x₂) : FnW Try.prog 30 [] 65 g x₀ x₂ [fresh 0 1 [u₁, u₂] 2] :=
  carryOut_fnW g [u₁, u₂] (fun i => match i with | 0 => x₀ | 1 => x₁ | _ => x₂) (show 2 ≤ 1000 by decide) fun i u hu => by
    match i, hu with
    | 0, hu => simp at hu; subst hu; exact h₁
    | 1, hu => simp at hu; subst hu; exact h₂
    | i + 2, hu => simp at hu
theorem carry3 (g : Nat) {u₁ u₂ u₃ : Value} {x₀ x₁ x₂ x₃ : List Value} (h₁ : Does Try.prog 65 g u₁ x₀ x₁) (h₂ : Does Try.prog 65 g u₂ x₁ x₂) (h₃ : Does Try.prog 65 g u₃ x₂ x₃) : FnW Try.prog 30 [] 65 g x₀ x₃ [fresh 0 1 [u₁, u₂, u₃] 3] :=
  carryOut_fnW g [u₁, u₂, u₃] (fun i => match i with | 0 => x₀ | 1 => x₁ | 2 => x₂ | _ => x₃) (show 3 ≤ 1000 by decide) fun i u hu => by
    match i, hu with
    | 0, hu => simp at hu; subst hu; exact h₁
    | 1, hu => simp at hu; subst hu; exact h₂
    | 2, hu => simp at hu; subst hu; exact h₃
    | i + 3, hu => simp at hu
set_option maxHeartbeats 2000000 in
theorem Encrypt_fn (s f : Nat → Nat) (hs : ∀ i, s i < 256) (hf : By f) : Fn Try.prog 19 [.v (aggV (rowV 176 (s))), .v (aggV (rowV 16 (f)))] (.v (aggV (rowV 16 (enc s f)))) := by
  refine Fn.of Try.func19 rfl (by kernel_rfl) Try.ntmps19 (by simp) (fun w => [(0, .v (aggV (rowV 176 (s)))), (1, .v (aggV (rowV 16 (f))))]) (fun w => (Start.v rfl (Start.v rfl Start.nil))) fun w₀ => ?_
  refine A.regs (by kernel_rfl) (by kernel_rfl) (.inl rfl) ?_
  refine RunTK.new 0 (by decide) rfl (.inl rfl) ?_
  refine RunK.nil ?_
  refine ⟨_, _, eff_box (n := 32) (d := 2) (k := 1000002) rfl (by decide), fun b2 hb2 => ?_⟩
  have hBb2 := hb2.1
  refine RunTK.new 1 (by decide) rfl (.inl rfl) ?_
  refine RunK.nil ?_
  refine ⟨_, _, eff_box (n := 32) (d := 3) (k := 1000003) rfl (by decide), fun b3 hb3 => ?_⟩
  have hBb3 := hb3.1
  have hlt_b2_b3 : b2 < b3 := hb3.2 1000002 _ _ _ rfl
  refine RunTK.new 2 (by decide) rfl (.inl rfl) ?_
  refine RunK.nil ?_
  refine ⟨_, _, eff_alloc (n := 32) (d := 4) (k := 1000004) zero22 (by decide), fun b4 hb4 => ?_⟩
  have hBb4 := hb4.1
  have hlt_b2_b4 : b2 < b4 := hb4.2 1000002 _ _ _ rfl
  have hlt_b3_b4 : b3 < b4 := hb4.2 1000003 _ _ _ rfl
  refine RunTK.last ?_
  refine RunK.nil ?_
  refine A.sub (Sub.cons (t := 2) rfl (Sub.cons (t := 3) rfl (Sub.cons (t := 4) rfl (Sub.cons (t := 1000002) rfl (Sub.cons (t := 1000003) rfl (Sub.cons (t := 1000004) rfl Sub.nil)))))) ?_
  refine A.regs (by kernel_rfl) (by kernel_rfl) (.inl rfl) ?_
  refine RunTK.new 1 (by decide) rfl (.inl rfl) ?_
  refine RunK.step rfl rfl (ok_loadA (s := 1000003) (by decide) Try.underlying22 rfl (size22.of (rowV_length _ _)) rfl rfl) ?_
  refine RunK.nil ?_
  refine ⟨_, _, eff_alloc (n := 32) (d := 5) (k := 1000005) zero65 (by decide), fun b5 hb5 => ?_⟩
  have hBb5 := hb5.1
  have hlt_b2_b5 : b2 < b5 := hb5.2 1000002 _ _ _ rfl
  have hlt_b3_b5 : b3 < b5 := hb5.2 1000003 _ _ _ rfl
  have hlt_b4_b5 : b4 < b5 := hb5.2 1000004 _ _ _ rfl
  refine RunTK.eff 2 (by decide) rfl (.inl rfl) ?_
  refine RunK.nil ?_
  refine ⟨_, eff_storeA (n := 32) (s := 1000005) (size65.of (rowV_length _ _)) rfl rfl (rowV_one _ _) hBb5 rfl (by first | (simp only [rowV_length]; done) | simp only [rowV_length, List.length_replicate]) (LeftS.cons (t := 2) rfl (Surv.v _) (LeftS.cons (t := 3) rfl (Surv.v _) (LeftS.cons (t := 4) rfl (Surv.v _) (LeftS.cons (t := 5) rfl (Surv.v _) (LeftS.cons (t := 7) rfl (Surv.v _) (LeftS.cons (t := 1000002) rfl (Surv.blkT (by decide)) (LeftS.cons (t := 1000003) rfl (Surv.blkT (by decide)) (LeftS.cons (t := 1000004) rfl (Surv.blkT (by decide)) LeftS.nil)))))))), ?_⟩
  refine RunTK.last ?_
  refine RunK.nil ?_
  refine A.sub (Sub.cons (t := 2) rfl (Sub.cons (t := 4) rfl (Sub.cons (t := 5) rfl (Sub.cons (t := 1000002) rfl (Sub.cons (t := 1000003) rfl (Sub.cons (t := 1000004) rfl (Sub.cons (t := 1000005) rfl Sub.nil))))))) ?_
  refine A.regs (by kernel_rfl) (by kernel_rfl) (.inl rfl) ?_
  refine RunTK.eff 2 (by decide) rfl (.inl rfl) ?_
  refine RunK.step rfl rfl (ok_indexN (0) Try.underlying50 size22 rfl rfl (rfl) (by decide)) ?_
  refine RunK.step rfl rfl (ok_loadP (s := 1000002) (by decide) Try.underlying22 rfl size22 rfl rfl (by simp only [rowV_length]; omega) (rowV_part (g := keyS s (0)) (by omega) (fun i _ => congrArg s (by omega)))) ?_
  refine RunK.nil ?_
  refine ⟨_, eff_callW (n := 32) (s := 1000005) (add_fnW b5 (f) (keyS s (0)) hf (keyS_by hs _)) (fun p hp => by cases hp) (Args.cons rfl (Le.refl _) (Args.cons rfl (Le.refl _) Args.nil)) hBb5 rfl (by decide) (LeftS.cons (t := 2) rfl (Surv.v _) (LeftS.cons (t := 4) rfl (Surv.v _) (LeftS.cons (t := 5) rfl (Surv.v _) (LeftS.cons (t := 8) rfl (Surv.v _) (LeftS.cons (t := 9) rfl (Surv.v _) (LeftS.cons (t := 1000002) rfl (Surv.blkT (by decide)) (LeftS.cons (t := 1000003) rfl (Surv.blkT (by decide)) (LeftS.cons (t := 1000004) rfl (Surv.blkT (by decide)) LeftS.nil)))))))), ?_⟩
  refine RunTK.last ?_
  refine RunK.nil ?_
  refine A.sub (Sub.cons (t := 2) rfl (Sub.cons (t := 4) rfl (Sub.cons (t := 5) rfl (Sub.cons (t := 1000002) rfl (Sub.cons (t := 1000003) rfl (Sub.cons (t := 1000004) rfl (Sub.cons (t := 1000005) rfl Sub.nil))))))) ?_
  refine A.seq ?_
  refine A.regs (by kernel_rfl) (by kernel_rfl) (.inl rfl) ?_
  refine RunTK.last ?_
  refine RunK.step rfl rfl (ok_assign rfl) ?_
  refine RunK.nil ?_
  refine A.sub (Sub.cons (t := 2) rfl (Sub.cons (t := 4) rfl (Sub.cons (t := 5) rfl (Sub.cons (t := 6) rfl (Sub.cons (t := 1000002) rfl (Sub.cons (t := 1000003) rfl (Sub.cons (t := 1000004) rfl (Sub.cons (t := 1000005) rfl Sub.nil)))))))) ?_
  refine A.block ?_
  refine A.loop (ι := Nat) (fun q => q ≤ 9) (fun q => [(2, .v (.pointer (some ⟨b2, 0, none⟩))), (4, .v (.pointer (some ⟨b4, 0, none⟩))), (5, .v (.pointer (some ⟨b5, 0, none⟩))), (1000002, blk b2 50 (rowV 176 (s))), (1000004, blk b4 22 (List.replicate 16 (.int .u8 0))), (6, .v (.int .i64 ((q + 1 : Nat) : Int))), (1000005, blk b5 65 (rowV 16 (encR s f q)))]) (fun q => 9 - q) 0 ?_ ?_ ?_
  · exact Nat.zero_le _
  · exact (Sub.cons (t := 2) rfl (Sub.cons (t := 4) rfl (Sub.cons (t := 5) rfl (Sub.cons (t := 1000002) rfl (Sub.cons (t := 1000004) rfl (Sub.cons (t := 6) rfl (Sub.cons (t := 1000005) rfl Sub.nil)))))))
  intro q hq'
  refine A.seq ?_
  refine A.regs (by kernel_rfl) (by kernel_rfl) (.inl rfl) ?_
  refine RunTK.last ?_
  refine RunK.step rfl rfl (ok_move rfl) ?_
  refine RunK.step rfl rfl (ok_bin rfl rfl rfl) ?_
  refine RunK.nil ?_
  refine A.sub (Sub.cons (t := 2) rfl (Sub.cons (t := 4) rfl (Sub.cons (t := 5) rfl (Sub.cons (t := 6) rfl (Sub.cons (t := 12) rfl (Sub.cons (t := 1000002) rfl (Sub.cons (t := 1000004) rfl (Sub.cons (t := 1000005) rfl Sub.nil)))))))) ?_
  refine A.cond rfl (fun hc12 => ?_) (fun hc12 => ?_)
  · have hq : q < 9 := by simp at hc12; omega
    refine A.skip ?_
    refine End.normal_then (End.code ?_)
    refine A.seq ?_
    refine A.block ?_
    refine A.regs (by kernel_rfl) (by kernel_rfl) (.inl rfl) ?_
    refine RunTK.eff 4 (by decide) rfl (.inl rfl) ?_
    refine RunK.step rfl rfl (ok_makeFuncM rfl) ?_
    refine RunK.step rfl rfl (ok_makeFuncM rfl) ?_
    refine RunK.step rfl rfl (ok_makeFuncM rfl) ?_
    refine RunK.step rfl rfl (ok_buildF [.func (.func 31) #[ptr b5] #[], .func (.func 32) #[ptr b5] #[], .func (.func 33) #[ptr b5] #[]] Try.underlying80 info1 rfl (by decide) (by decide) rfl ⟨rfl, rfl, rfl, rfl, rfl, rfl, trivial⟩ rfl) ?_
    refine RunK.nil ?_
    refine ⟨_, eff_callW (n := 32) (s := 1000005) (carry3 b5 (substitute_fnW b5 (encR s f q) (encR_by hs hf q)).does (rotate_fnW b5 (subS (encR s f q))).does (mix_fnW b5 (rotS (subS (encR s f q))) (rotS_by (subS_by _))).does) (fun p hp => by cases hp) (Args.cons rfl (fresh_mono _ _ (Nat.zero_le _)) Args.nil) hBb5 rfl (by decide) (LeftS.cons (t := 2) rfl (Surv.v _) (LeftS.cons (t := 4) rfl (Surv.v _) (LeftS.cons (t := 5) rfl (Surv.v _) (LeftS.cons (t := 6) rfl (Surv.v _) (LeftS.cons (t := 12) rfl (Surv.v _) (LeftS.cons (t := 15) rfl (Surv.v _) (LeftS.cons (t := 16) rfl (Surv.v _) (LeftS.cons (t := 17) rfl (Surv.v _) (LeftS.cons (t := 18) rfl (Surv.fresh (by decide)) (LeftS.cons (t := 1000002) rfl (Surv.blkT (by decide)) (LeftS.cons (t := 1000004) rfl (Surv.blkT (by decide)) LeftS.nil))))))))))), ?_⟩
    refine RunTK.last ?_
    refine RunK.nil ?_
    refine A.sub (Sub.cons (t := 2) rfl (Sub.cons (t := 4) rfl (Sub.cons (t := 5) rfl (Sub.cons (t := 6) rfl (Sub.cons (t := 1000002) rfl (Sub.cons (t := 1000004) rfl (Sub.cons (t := 1000005) rfl Sub.nil))))))) ?_
    refine A.reg (by kernel_rfl) (by kernel_rfl) (.inl rfl) ?_
    refine RunTK.eff 3 (by decide) rfl (.inl rfl) ?_
    refine RunK.step rfl rfl (ok_move rfl) ?_
    refine RunK.step rfl rfl (ok_indexN _ Try.underlying50 size22 rfl rfl (rfl) (by omega)) ?_
    refine RunK.step rfl rfl (ok_loadP (s := 1000002) (by decide) Try.underlying22 rfl size22 rfl rfl (by simp only [rowV_length]; omega) (rowV_part (g := keyS s (q + 1)) (by omega) (fun i _ => congrArg s (by omega)))) ?_
    refine RunK.nil ?_
    refine ⟨_, eff_callW (n := 32) (s := 1000005) (add_fnW b5 (mixS (rotS (subS (encR s f q)))) (keyS s (q + 1)) (mixS_by (rotS_by (subS_by _))) (keyS_by hs _)) (fun p hp => by cases hp) (Args.cons rfl (Le.refl _) (Args.cons rfl (Le.refl _) Args.nil)) hBb5 rfl (by decide) (LeftS.cons (t := 2) rfl (Surv.v _) (LeftS.cons (t := 4) rfl (Surv.v _) (LeftS.cons (t := 5) rfl (Surv.v _) (LeftS.cons (t := 6) rfl (Surv.v _) (LeftS.cons (t := 20) rfl (Surv.v _) (LeftS.cons (t := 21) rfl (Surv.v _) (LeftS.cons (t := 22) rfl (Surv.v _) (LeftS.cons (t := 1000002) rfl (Surv.blkT (by decide)) (LeftS.cons (t := 1000004) rfl (Surv.blkT (by decide)) LeftS.nil))))))))), ?_⟩
    refine RunTK.last ?_
    refine RunK.nil ?_
    refine End.sub (Sub.cons (t := 2) rfl (Sub.cons (t := 4) rfl (Sub.cons (t := 5) rfl (Sub.cons (t := 6) rfl (Sub.cons (t := 1000002) rfl (Sub.cons (t := 1000004) rfl (Sub.cons (t := 1000005) rfl Sub.nil))))))) ?_
    refine End.normal_block ?_
    refine End.normal_then (End.code ?_)
    refine A.reg (by kernel_rfl) (by kernel_rfl) (.inl rfl) ?_
    refine RunTK.last ?_
    refine RunK.step rfl rfl (ok_move rfl) ?_
    refine RunK.step rfl rfl (ok_bin rfl rfl rfl) ?_; refine RunK.as (.int .i64 ((q + 1 + 1 : Nat) : Int)) (by rw [wrap_i64 (by omega) (by omega)]; exact congrArg (Value.int .i64) (by omega)) ?_
    refine RunK.step rfl rfl (ok_assign rfl) ?_
    refine RunK.nil ?_
    refine End.sub (Sub.cons (t := 2) rfl (Sub.cons (t := 4) rfl (Sub.cons (t := 5) rfl (Sub.cons (t := 6) rfl (Sub.cons (t := 1000002) rfl (Sub.cons (t := 1000004) rfl (Sub.cons (t := 1000005) rfl Sub.nil))))))) ?_
    refine End.normal_then ?_
    refine End.again (q + 1) ?_ ?_ ?_
    · show _ ≤ _; omega
    · show _ - _ < _ - _; omega
    · exact (Sub.cons (t := 2) rfl (Sub.cons (t := 4) rfl (Sub.cons (t := 5) rfl (Sub.cons (t := 1000002) rfl (Sub.cons (t := 1000004) rfl (Sub.cons (t := 6) rfl (Sub.cons (t := 1000005) rfl Sub.nil)))))))
  · obtain rfl : q = 9 := by simp at hc12; omega
    refine A.exit ?_
    refine End.exit_then ?_
    refine End.exit_then ?_
    refine End.exit_here ?_
    refine End.normal_then (End.code ?_)
    refine A.regs (by kernel_rfl) (by kernel_rfl) (.inl rfl) ?_
    refine RunTK.eff 3 (by decide) rfl (.inl rfl) ?_
    refine RunK.step rfl rfl (ok_makeFuncM rfl) ?_
    refine RunK.step rfl rfl (ok_makeFuncM rfl) ?_
    refine RunK.step rfl rfl (ok_buildF [.func (.func 31) #[ptr b5] #[], .func (.func 32) #[ptr b5] #[]] Try.underlying80 info1 rfl (by decide) (by decide) rfl ⟨rfl, rfl, rfl, rfl, trivial⟩ rfl) ?_
    refine RunK.nil ?_
    refine ⟨_, eff_callW (n := 32) (s := 1000005) (carry2 b5 (substitute_fnW b5 (encR s f 9) (encR_by hs hf 9)).does (rotate_fnW b5 (subS (encR s f 9))).does) (fun p hp => by cases hp) (Args.cons rfl (fresh_mono _ _ (Nat.zero_le _)) Args.nil) hBb5 rfl (by decide) (LeftS.cons (t := 2) rfl (Surv.v _) (LeftS.cons (t := 4) rfl (Surv.v _) (LeftS.cons (t := 5) rfl (Surv.v _) (LeftS.cons (t := 6) rfl (Surv.v _) (LeftS.cons (t := 12) rfl (Surv.v _) (LeftS.cons (t := 24) rfl (Surv.v _) (LeftS.cons (t := 25) rfl (Surv.v _) (LeftS.cons (t := 26) rfl (Surv.fresh (by decide)) (LeftS.cons (t := 1000002) rfl (Surv.blkT (by decide)) (LeftS.cons (t := 1000004) rfl (Surv.blkT (by decide)) LeftS.nil)))))))))), ?_⟩
    refine RunTK.last ?_
    refine RunK.nil ?_
    refine A.sub (Sub.cons (t := 2) rfl (Sub.cons (t := 4) rfl (Sub.cons (t := 5) rfl (Sub.cons (t := 1000002) rfl (Sub.cons (t := 1000004) rfl (Sub.cons (t := 1000005) rfl Sub.nil)))))) ?_
    refine A.regs (by kernel_rfl) (by kernel_rfl) (.inl rfl) ?_
    refine RunTK.eff 2 (by decide) rfl (.inl rfl) ?_
    refine RunK.step rfl rfl (ok_indexN (10) Try.underlying50 size22 rfl rfl (rfl) (by decide)) ?_
    refine RunK.step rfl rfl (ok_loadP (s := 1000002) (by decide) Try.underlying22 rfl size22 rfl rfl (by simp only [rowV_length]; omega) (rowV_part (g := keyS s (10)) (by omega) (fun i _ => congrArg s (by omega)))) ?_
    refine RunK.nil ?_
    refine ⟨_, eff_callW (n := 32) (s := 1000005) (add_fnW b5 (rotS (subS (encR s f 9))) (keyS s (10)) (rotS_by (subS_by _)) (keyS_by hs _)) (fun p hp => by cases hp) (Args.cons rfl (Le.refl _) (Args.cons rfl (Le.refl _) Args.nil)) hBb5 rfl (by decide) (LeftS.cons (t := 2) rfl (Surv.v _) (LeftS.cons (t := 4) rfl (Surv.v _) (LeftS.cons (t := 5) rfl (Surv.v _) (LeftS.cons (t := 28) rfl (Surv.v _) (LeftS.cons (t := 29) rfl (Surv.v _) (LeftS.cons (t := 1000002) rfl (Surv.blkT (by decide)) (LeftS.cons (t := 1000004) rfl (Surv.blkT (by decide)) LeftS.nil))))))), ?_⟩
    refine RunTK.last ?_
    refine RunK.nil ?_
    refine A.sub (Sub.cons (t := 4) rfl (Sub.cons (t := 5) rfl (Sub.cons (t := 1000002) rfl (Sub.cons (t := 1000004) rfl (Sub.cons (t := 1000005) rfl Sub.nil))))) ?_
    refine A.regs (by kernel_rfl) (by kernel_rfl) (.inl rfl) ?_
    refine RunTK.eff 1 (by decide) rfl (.inl rfl) ?_
    refine RunK.step rfl rfl (ok_loadA (s := 1000005) (by decide) Try.underlying65 rfl (size65.of (rowV_length _ _)) rfl rfl) ?_
    refine RunK.nil ?_
    refine ⟨_, eff_storeA (n := 32) (s := 1000004) (size22.of (rowV_length _ _)) rfl rfl (rowV_one _ _) hBb4 rfl (by first | (simp only [rowV_length]; done) | simp only [rowV_length, List.length_replicate]) (LeftS.cons (t := 4) rfl (Surv.v _) (LeftS.cons (t := 5) rfl (Surv.v _) (LeftS.cons (t := 31) rfl (Surv.v _) (LeftS.cons (t := 1000002) rfl (Surv.blkT (by decide)) (LeftS.cons (t := 1000005) rfl (Surv.blkT (by decide)) LeftS.nil))))), ?_⟩
    refine RunTK.last ?_
    refine RunK.nil ?_
    refine A.sub (Sub.cons (t := 4) rfl (Sub.cons (t := 1000002) rfl (Sub.cons (t := 1000004) rfl (Sub.cons (t := 1000005) rfl Sub.nil)))) ?_
    refine A.ret ?_
    exact End.cell1 (s := 1000004) rfl Try.underlying22 rfl (size22.of (rowV_length _ _)) rfl rfl (Le.refl _)
-- (caisson/ciphers.Schedule).Decrypt: without a body at this seat
set_option maxHeartbeats 1000000 in
theorem next_fn (k : Nat → Nat) (p : Nat) (hk : By k) (hp : p < 256) : Fn Try.prog 27 [.v (aggV (rowV 16 (k))), .v (.int .u8 ((p : Nat) : Int))] (.v (aggV (rowV 16 (nextS k p)))) := by
  refine Fn.of Try.func27 rfl (by kernel_rfl) Try.ntmps27 (by simp) (fun w => [(0, .v (aggV (rowV 16 (k)))), (1, .v (.int .u8 ((p : Nat) : Int)))]) (fun w => (Start.v rfl (Start.v rfl Start.nil))) fun w₀ => ?_
  refine A.regs (by kernel_rfl) (by kernel_rfl) (.inl rfl) ?_
  refine RunTK.new 0 (by decide) rfl (.inl rfl) ?_
  refine RunK.nil ?_
  refine ⟨_, _, eff_box (n := 55) (d := 2) (k := 1000002) rfl (by decide), fun b2 hb2 => ?_⟩
  have hBb2 := hb2.1
  refine RunTK.new 1 (by decide) rfl (.inl rfl) ?_
  refine RunK.nil ?_
  refine ⟨_, _, eff_alloc (n := 55) (d := 4) (k := 1000004) zero22 (by decide), fun b4 hb4 => ?_⟩
  have hBb4 := hb4.1
  have hlt_b2_b4 : b2 < b4 := hb4.2 1000002 _ _ _ rfl
  refine RunTK.last ?_
  refine RunK.nil ?_
  refine A.sub (Sub.cons (t := 1) rfl (Sub.cons (t := 2) rfl (Sub.cons (t := 4) rfl (Sub.cons (t := 1000002) rfl (Sub.cons (t := 1000004) rfl Sub.nil))))) ?_
  refine A.regs (by kernel_rfl) (by kernel_rfl) (.inl rfl) ?_
  refine RunTK.new 3 (by decide) rfl (.inl rfl) ?_
  refine RunK.step rfl rfl (ok_sliceX (l := 12) (h := 16) (m := 16) Try.underlying22 info5 rfl (.inl ⟨_, _, rfl, rfl⟩) (.inr ⟨rfl, rfl, rfl⟩) (.inr ⟨rfl, rfl⟩) (by decide) (by decide) (by decide) (.inl (by decide))) ?_
  refine RunK.step rfl rfl (ok_arrayAt Try.underlying71 rfl (by decide)) ?_
  refine RunK.step rfl rfl (ok_loadP (s := 1000002) (by decide) Try.underlying71 rfl size71 rfl rfl (by simp only [rowV_length]; omega) (rowV_part (g := fun r => k (12 + r)) (by decide) (fun i _ => congrArg k (by omega)))) ?_
  refine RunK.nil ?_
  refine ⟨_, _, eff_alloc (n := 55) (d := 5) (k := 1000005) zero71 (by decide), fun b5 hb5 => ?_⟩
  have hBb5 := hb5.1
  have hlt_b2_b5 : b2 < b5 := hb5.2 1000002 _ _ _ rfl
  have hlt_b4_b5 : b4 < b5 := hb5.2 1000004 _ _ _ rfl
  refine RunTK.eff 4 (by decide) rfl (.inl rfl) ?_
  refine RunK.nil ?_
  refine ⟨_, eff_storeA (n := 55) (s := 1000005) (size71.of (rowV_length _ _)) rfl rfl (rowV_one _ _) hBb5 rfl (by first | (simp only [rowV_length]; done) | simp only [rowV_length, List.length_replicate]) (LeftS.cons (t := 1) rfl (Surv.v _) (LeftS.cons (t := 2) rfl (Surv.v _) (LeftS.cons (t := 4) rfl (Surv.v _) (LeftS.cons (t := 5) rfl (Surv.v _) (LeftS.cons (t := 9) rfl (Surv.v _) (LeftS.cons (t := 10) rfl (Surv.v _) (LeftS.cons (t := 11) rfl (Surv.v _) (LeftS.cons (t := 1000002) rfl (Surv.blkT (by decide)) (LeftS.cons (t := 1000004) rfl (Surv.blkT (by decide)) LeftS.nil))))))))), ?_⟩
  refine RunTK.last ?_
  refine RunK.nil ?_
  refine A.sub (Sub.cons (t := 1) rfl (Sub.cons (t := 2) rfl (Sub.cons (t := 4) rfl (Sub.cons (t := 5) rfl (Sub.cons (t := 1000002) rfl (Sub.cons (t := 1000004) rfl (Sub.cons (t := 1000005) rfl Sub.nil))))))) ?_
  refine A.regs (by kernel_rfl) (by kernel_rfl) (.inr (by kernel_rfl)) ?_
  refine RunTK.new 16 (by decide) rfl (.inr (by kernel_rfl)) ?_
  refine RunK.step rfl rfl (ok_index0 (1) Try.underlying71 info5 rfl rfl (rfl) (by decide)) ?_
  refine RunK.step rfl rfl (ok_loadV (s := 1000005) (by decide) Try.underlying5 rfl rfl rfl (rowV_get (by decide))) ?_; refine RunK.as (.int .u8 ((k 13 : Nat) : Int)) (v8 (by rfl)) ?_
  refine RunK.step rfl rfl (ok_call (Sub_fn (k 13) (hk _)) (Args.cons rfl (Le.refl _) Args.nil)) ?_
  refine RunK.step rfl rfl (ok_move rfl) ?_
  refine RunK.step rfl rfl (ok_bin rfl rfl rfl) ?_; refine RunK.as (.int .u8 ((sub8 (k 13) ^^^ p : Nat) : Int)) (by rw [show IntKind.u8.bits = 8 from rfl, xor_u8N (sub8_lt _) hp]) ?_
  refine RunK.step rfl rfl (ok_index0 (2) Try.underlying71 info5 rfl rfl (rfl) (by decide)) ?_
  refine RunK.step rfl rfl (ok_loadV (s := 1000005) (by decide) Try.underlying5 rfl rfl rfl (rowV_get (by decide))) ?_; refine RunK.as (.int .u8 ((k 14 : Nat) : Int)) (v8 (by rfl)) ?_
  refine RunK.step rfl rfl (ok_call (Sub_fn (k 14) (hk _)) (Args.cons rfl (Le.refl _) Args.nil)) ?_
  refine RunK.step rfl rfl (ok_index0 (3) Try.underlying71 info5 rfl rfl (rfl) (by decide)) ?_
  refine RunK.step rfl rfl (ok_loadV (s := 1000005) (by decide) Try.underlying5 rfl rfl rfl (rowV_get (by decide))) ?_; refine RunK.as (.int .u8 ((k 15 : Nat) : Int)) (v8 (by rfl)) ?_
  refine RunK.step rfl rfl (ok_call (Sub_fn (k 15) (hk _)) (Args.cons rfl (Le.refl _) Args.nil)) ?_
  refine RunK.step rfl rfl (ok_index0 (0) Try.underlying71 info5 rfl rfl (rfl) (by decide)) ?_
  refine RunK.step rfl rfl (ok_loadV (s := 1000005) (by decide) Try.underlying5 rfl rfl rfl (rowV_get (by decide))) ?_; refine RunK.as (.int .u8 ((k 12 : Nat) : Int)) (v8 (by rfl)) ?_
  refine RunK.step rfl rfl (ok_call (Sub_fn (k 12) (hk _)) (Args.cons rfl (Le.refl _) Args.nil)) ?_
  refine RunK.step rfl rfl (ok_litA [_, _, _, _] Try.underlying71 info5 zero71 rfl ⟨rfl, rfl, rfl, rfl, rfl, rfl, rfl, rfl, trivial⟩ rfl) ?_; refine RunK.as (aggV (rowV 4 (wordS k p))) (congrArg aggV (word_row k p)) ?_
  refine RunK.step rfl rfl (ok_allocF [b2, b4, b5] zero71 (Named.cons (s := 1000002) (by decide) rfl (Named.cons (s := 1000004) (by decide) rfl (Named.cons (s := 1000005) (by decide) rfl Named.nil)))) ?_
  refine RunK.nil ?_
  refine ⟨_, _, eff_storeF (n := 55) (d := 6) (k := 1000006) (size71.of (rowV_length _ _)) rfl rfl (rowV_one _ _) (by first | (simp only [rowV_length]; done) | simp only [rowV_length, List.length_replicate]) (fun b hb => (LeftS.cons (t := 1) rfl (Surv.v _) (LeftS.cons (t := 2) rfl (Surv.v _) (LeftS.cons (t := 4) rfl (Surv.v _) (LeftS.cons (t := 5) rfl (Surv.v _) (LeftS.cons (t := 12) rfl (Surv.v _) (LeftS.cons (t := 13) rfl (Surv.v _) (LeftS.cons (t := 14) rfl (Surv.v _) (LeftS.cons (t := 15) rfl (Surv.v _) (LeftS.cons (t := 16) rfl (Surv.v _) (LeftS.cons (t := 17) rfl (Surv.v _) (LeftS.cons (t := 18) rfl (Surv.v _) (LeftS.cons (t := 19) rfl (Surv.v _) (LeftS.cons (t := 20) rfl (Surv.v _) (LeftS.cons (t := 21) rfl (Surv.v _) (LeftS.cons (t := 22) rfl (Surv.v _) (LeftS.cons (t := 23) rfl (Surv.v _) (LeftS.cons (t := 24) rfl (Surv.v _) (LeftS.cons (t := 25) rfl (Surv.v _) (LeftS.cons (t := 26) rfl (Surv.v _) (LeftS.cons (t := 1000002) rfl (Surv.blkT (by decide)) (LeftS.cons (t := 1000004) rfl (Surv.blkT (by decide)) (LeftS.cons (t := 1000005) rfl (Surv.blk (Nat.ne_of_lt (hb.2 _ (by simp)))) LeftS.nil))))))))))))))))))))))), fun b6 hb6 => ?_⟩
  have hBb6 := hb6.1
  have hlt_b2_b6 : b2 < b6 := hb6.2 _ (by simp)
  have hlt_b4_b6 : b4 < b6 := hb6.2 _ (by simp)
  have hlt_b5_b6 : b5 < b6 := hb6.2 _ (by simp)
  refine RunTK.last ?_
  refine RunK.nil ?_
  refine A.sub (Sub.cons (t := 2) rfl (Sub.cons (t := 4) rfl (Sub.cons (t := 6) rfl (Sub.cons (t := 1000002) rfl (Sub.cons (t := 1000004) rfl (Sub.cons (t := 1000005) rfl (Sub.cons (t := 1000006) rfl Sub.nil))))))) ?_
  refine A.seq ?_
  refine A.regs (by kernel_rfl) (by kernel_rfl) (.inl rfl) ?_
  refine RunTK.last ?_
  refine RunK.step rfl rfl (ok_move rfl) ?_
  refine RunK.nil ?_
  refine A.sub (Sub.cons (t := 2) rfl (Sub.cons (t := 4) rfl (Sub.cons (t := 6) rfl (Sub.cons (t := 27) rfl (Sub.cons (t := 1000002) rfl (Sub.cons (t := 1000004) rfl (Sub.cons (t := 1000005) rfl (Sub.cons (t := 1000006) rfl Sub.nil)))))))) ?_
  refine A.block ?_
  refine A.loop (ι := Nat) (fun c => c ≤ 4) (fun c => [(2, .v (.pointer (some ⟨b2, 0, none⟩))), (4, .v (.pointer (some ⟨b4, 0, none⟩))), (6, .v (.pointer (some ⟨b6, 0, none⟩))), (27, .v (.int .i64 ((c : Nat) : Int))), (1000004, blk b4 22 (List.replicate 16 (.int .u8 0))), (1000002, blk b2 22 (rowV 16 (mid k (nextS k p) (4 * c)))), (1000006, blk b6 71 (rowV 4 (fun q => accS k p q c)))]) (fun c => 4 - c) 0 ?_ ?_ ?_
  · exact Nat.zero_le _
  · exact (Sub.cons (t := 2) rfl (Sub.cons (t := 4) rfl (Sub.cons (t := 6) rfl (Sub.cons (t := 27) rfl (Sub.cons (t := 1000004) rfl (Sub.eq (t := 1000002) _ rfl (congrArg _ (mid_zero 16 k _)) (Sub.cons (t := 1000006) rfl Sub.nil)))))))
  intro c hc
  refine A.regs (by kernel_rfl) (by kernel_rfl) (.inl rfl) ?_
  refine RunTK.last ?_
  refine RunK.step rfl rfl (ok_bin rfl rfl rfl) ?_
  refine RunK.nil ?_
  refine A.sub (Sub.cons (t := 2) rfl (Sub.cons (t := 4) rfl (Sub.cons (t := 6) rfl (Sub.cons (t := 27) rfl (Sub.cons (t := 28) rfl (Sub.cons (t := 1000002) rfl (Sub.cons (t := 1000004) rfl (Sub.cons (t := 1000006) rfl Sub.nil)))))))) ?_
  refine A.seq ?_
  refine A.cond rfl (fun hc28 => ?_) (fun hc28 => ?_)
  · have hc4 : c < 4 := by simp at hc28; omega
    refine A.skip ?_
    refine End.normal_then (End.code ?_)
    refine A.seq ?_
    refine A.block ?_
    refine A.regs (by kernel_rfl) (by kernel_rfl) (.inl rfl) ?_
    refine RunTK.last ?_
    refine RunK.step rfl rfl (ok_move rfl) ?_
    refine RunK.step rfl rfl (ok_assign rfl) ?_
    refine RunK.nil ?_
    refine A.sub (Sub.cons (t := 2) rfl (Sub.cons (t := 4) rfl (Sub.cons (t := 6) rfl (Sub.cons (t := 7) rfl (Sub.cons (t := 27) rfl (Sub.cons (t := 1000002) rfl (Sub.cons (t := 1000004) rfl (Sub.cons (t := 1000006) rfl Sub.nil)))))))) ?_
    refine A.regs (by kernel_rfl) (by kernel_rfl) (.inl rfl) ?_
    refine RunTK.last ?_
    refine RunK.step rfl rfl (ok_move rfl) ?_
    refine RunK.nil ?_
    refine A.sub (Sub.cons (t := 2) rfl (Sub.cons (t := 4) rfl (Sub.cons (t := 6) rfl (Sub.cons (t := 7) rfl (Sub.cons (t := 27) rfl (Sub.cons (t := 30) rfl (Sub.cons (t := 1000002) rfl (Sub.cons (t := 1000004) rfl (Sub.cons (t := 1000006) rfl Sub.nil))))))))) ?_
    refine A.block ?_
    refine A.loop (ι := Nat) (fun r => r ≤ 4) (fun r => [(2, .v (.pointer (some ⟨b2, 0, none⟩))), (4, .v (.pointer (some ⟨b4, 0, none⟩))), (6, .v (.pointer (some ⟨b6, 0, none⟩))), (7, .v (.int .i64 ((c : Nat) : Int))), (27, .v (.int .i64 ((c : Nat) : Int))), (30, .v (.int .i64 ((r : Nat) : Int))), (1000004, blk b4 22 (List.replicate 16 (.int .u8 0))), (1000002, blk b2 22 (rowV 16 (mid k (nextS k p) (4 * c + r)))), (1000006, blk b6 71 (rowV 4 (mid (fun q => accS k p q c) (fun q => accS k p q (c + 1)) r)))]) (fun r => 4 - r) 0 ?_ ?_ ?_
    · exact Nat.zero_le _
    · exact (Sub.cons (t := 2) rfl (Sub.cons (t := 4) rfl (Sub.cons (t := 6) rfl (Sub.cons (t := 7) rfl (Sub.cons (t := 27) rfl (Sub.cons (t := 30) rfl (Sub.cons (t := 1000004) rfl (Sub.cons (t := 1000002) rfl (Sub.eq (t := 1000006) _ rfl (congrArg _ (mid_zero 4 _ _)) Sub.nil)))))))))
    intro r hr
    refine A.regs (by kernel_rfl) (by kernel_rfl) (.inl rfl) ?_
    refine RunTK.last ?_
    refine RunK.step rfl rfl (ok_bin rfl rfl rfl) ?_
    refine RunK.nil ?_
    refine A.sub (Sub.cons (t := 2) rfl (Sub.cons (t := 4) rfl (Sub.cons (t := 6) rfl (Sub.cons (t := 7) rfl (Sub.cons (t := 27) rfl (Sub.cons (t := 30) rfl (Sub.cons (t := 31) rfl (Sub.cons (t := 1000002) rfl (Sub.cons (t := 1000004) rfl (Sub.cons (t := 1000006) rfl Sub.nil)))))))))) ?_
    refine A.seq ?_
    refine A.cond rfl (fun hc31 => ?_) (fun hc31 => ?_)
    · have hr4 : r < 4 := by simp at hc31; omega
      refine A.skip ?_
      refine End.normal_then (End.code ?_)
      refine A.seq ?_
      refine A.block ?_
      refine A.regs (by kernel_rfl) (by kernel_rfl) (.inl rfl) ?_
      refine RunTK.last ?_
      refine RunK.step rfl rfl (ok_move rfl) ?_
      refine RunK.step rfl rfl (ok_assign rfl) ?_
      refine RunK.nil ?_
      refine A.sub (Sub.cons (t := 2) rfl (Sub.cons (t := 4) rfl (Sub.cons (t := 6) rfl (Sub.cons (t := 7) rfl (Sub.cons (t := 8) rfl (Sub.cons (t := 27) rfl (Sub.cons (t := 30) rfl (Sub.cons (t := 1000002) rfl (Sub.cons (t := 1000004) rfl (Sub.cons (t := 1000006) rfl Sub.nil)))))))))) ?_
      refine A.regs (by kernel_rfl) (by kernel_rfl) (.inr (by kernel_rfl)) ?_
      refine RunTK.eff 11 (by decide) rfl (.inr (by kernel_rfl)) ?_
      refine RunK.step rfl rfl (ok_move rfl) ?_
      refine RunK.step rfl rfl (ok_bin rfl rfl rfl) ?_; refine RunK.as (.int .i64 ((4 * c : Nat) : Int)) (by rw [wrap_i64 (by omega) (by omega)]; exact congrArg (Value.int .i64) (by omega)) ?_
      refine RunK.step rfl rfl (ok_move rfl) ?_
      refine RunK.step rfl rfl (ok_bin rfl rfl rfl) ?_; refine RunK.as (.int .i64 ((4 * c + r : Nat) : Int)) (by rw [wrap_i64 (by omega) (by omega)]; exact congrArg (Value.int .i64) (by omega)) ?_
      refine RunK.step rfl rfl (ok_index0 _ Try.underlying22 info5 rfl rfl (rfl) (by omega)) ?_
      refine RunK.step rfl rfl (ok_loadV (s := 1000002) (by decide) Try.underlying5 rfl rfl rfl (rowV_get (by omega))) ?_; refine RunK.as (.int .u8 ((k (4 * c + r) : Nat) : Int)) (v8 (mid_at k _ _)) ?_
      refine RunK.step rfl rfl (ok_move rfl) ?_
      refine RunK.step rfl rfl (ok_index0 _ Try.underlying71 info5 rfl rfl (rfl) (by omega)) ?_
      refine RunK.step rfl rfl (ok_loadV (s := 1000006) (by decide) Try.underlying5 rfl rfl rfl (rowV_get (by omega))) ?_; refine RunK.as (.int .u8 ((accS k p r c : Nat) : Int)) (v8 (mid_at (fun q => accS k p q c) _ _)) ?_
      refine RunK.step rfl rfl (ok_bin rfl rfl rfl) ?_; refine RunK.as (.int .u8 ((nextS k p (4 * c + r) : Nat) : Int)) (by rw [show IntKind.u8.bits = 8 from rfl, xor_u8N (hk _) (accS_lt hk hp _ _), nextS_col k p hr4]) ?_
      refine RunK.step rfl rfl (ok_index0 _ Try.underlying22 info5 rfl rfl (rfl) (by omega)) ?_
      refine RunK.nil ?_
      refine ⟨_, eff_storeS (n := 55) (s := 1000002) info5 rfl rfl rfl hBb2 rfl (by simp only [rowV_length]; omega) (LeftS.cons (t := 2) rfl (Surv.v _) (LeftS.cons (t := 4) rfl (Surv.v _) (LeftS.cons (t := 6) rfl (Surv.v _) (LeftS.cons (t := 7) rfl (Surv.v _) (LeftS.cons (t := 8) rfl (Surv.v _) (LeftS.cons (t := 27) rfl (Surv.v _) (LeftS.cons (t := 30) rfl (Surv.v _) (LeftS.cons (t := 33) rfl (Surv.v _) (LeftS.cons (t := 34) rfl (Surv.v _) (LeftS.cons (t := 35) rfl (Surv.v _) (LeftS.cons (t := 36) rfl (Surv.v _) (LeftS.cons (t := 37) rfl (Surv.v _) (LeftS.cons (t := 38) rfl (Surv.v _) (LeftS.cons (t := 39) rfl (Surv.v _) (LeftS.cons (t := 40) rfl (Surv.v _) (LeftS.cons (t := 41) rfl (Surv.v _) (LeftS.cons (t := 42) rfl (Surv.v _) (LeftS.cons (t := 43) rfl (Surv.v _) (LeftS.cons (t := 1000004) rfl (Surv.blk (by omega)) (LeftS.cons (t := 1000006) rfl (Surv.blkT (by decide)) LeftS.nil)))))))))))))))))))), ?_⟩
      refine RunTK.last ?_
      refine RunK.nil ?_
      refine A.sub (Sub.cons (t := 2) rfl (Sub.cons (t := 4) rfl (Sub.cons (t := 6) rfl (Sub.cons (t := 7) rfl (Sub.cons (t := 8) rfl (Sub.cons (t := 27) rfl (Sub.cons (t := 30) rfl (Sub.eq (t := 1000002) _ rfl (show blk b2 22 _ = blk b2 22 (rowV 16 (mid k (nextS k p) (4 * c + r + 1))) from congrArg _ (mid_set rfl rfl)) (Sub.cons (t := 1000004) rfl (Sub.cons (t := 1000006) rfl Sub.nil)))))))))) ?_
      refine A.reg (by kernel_rfl) (by kernel_rfl) (.inl rfl) ?_
      refine RunTK.eff 8 (by decide) rfl (.inl rfl) ?_
      refine RunK.step rfl rfl (ok_move rfl) ?_
      refine RunK.step rfl rfl (ok_move rfl) ?_
      refine RunK.step rfl rfl (ok_bin rfl rfl rfl) ?_; refine RunK.as (.int .i64 ((4 * c : Nat) : Int)) (by rw [wrap_i64 (by omega) (by omega)]; exact congrArg (Value.int .i64) (by omega)) ?_
      refine RunK.step rfl rfl (ok_move rfl) ?_
      refine RunK.step rfl rfl (ok_bin rfl rfl rfl) ?_; refine RunK.as (.int .i64 ((4 * c + r : Nat) : Int)) (by rw [wrap_i64 (by omega) (by omega)]; exact congrArg (Value.int .i64) (by omega)) ?_
      refine RunK.step rfl rfl (ok_index0 _ Try.underlying22 info5 rfl rfl (rfl) (by omega)) ?_
      refine RunK.step rfl rfl (ok_loadV (s := 1000002) (by decide) Try.underlying5 rfl rfl rfl (rowV_get (by omega))) ?_; refine RunK.as (.int .u8 ((nextS k p (4 * c + r) : Nat) : Int)) (v8 (if_pos (Nat.lt_succ_self _))) ?_
      refine RunK.step rfl rfl (ok_index0 _ Try.underlying71 info5 rfl rfl (rfl) (by omega)) ?_
      refine RunK.nil ?_
      refine ⟨_, eff_storeS (n := 55) (s := 1000006) info5 rfl rfl rfl hBb6 rfl (by simp only [rowV_length]; omega) (LeftS.cons (t := 2) rfl (Surv.v _) (LeftS.cons (t := 4) rfl (Surv.v _) (LeftS.cons (t := 6) rfl (Surv.v _) (LeftS.cons (t := 7) rfl (Surv.v _) (LeftS.cons (t := 8) rfl (Surv.v _) (LeftS.cons (t := 27) rfl (Surv.v _) (LeftS.cons (t := 30) rfl (Surv.v _) (LeftS.cons (t := 44) rfl (Surv.v _) (LeftS.cons (t := 45) rfl (Surv.v _) (LeftS.cons (t := 46) rfl (Surv.v _) (LeftS.cons (t := 47) rfl (Surv.v _) (LeftS.cons (t := 48) rfl (Surv.v _) (LeftS.cons (t := 49) rfl (Surv.v _) (LeftS.cons (t := 50) rfl (Surv.v _) (LeftS.cons (t := 51) rfl (Surv.v _) (LeftS.cons (t := 1000002) rfl (Surv.blkT (by decide)) (LeftS.cons (t := 1000004) rfl (Surv.blkT (by decide)) LeftS.nil))))))))))))))))), ?_⟩
      refine RunTK.last ?_
      refine RunK.nil ?_
      refine End.sub (Sub.cons (t := 2) rfl (Sub.cons (t := 4) rfl (Sub.cons (t := 6) rfl (Sub.cons (t := 7) rfl (Sub.cons (t := 27) rfl (Sub.cons (t := 30) rfl (Sub.cons (t := 1000002) rfl (Sub.cons (t := 1000004) rfl (Sub.cons (t := 1000006) rfl Sub.nil))))))))) ?_
      refine End.normal_block ?_
      refine End.normal_then (End.code ?_)
      refine A.reg (by kernel_rfl) (by kernel_rfl) (.inl rfl) ?_
      refine RunTK.last ?_
      refine RunK.step rfl rfl (ok_bin rfl rfl rfl) ?_; refine RunK.as (.int .i64 ((r + 1 : Nat) : Int)) (by rw [wrap_i64 (by omega) (by omega)]; exact congrArg (Value.int .i64) (by omega)) ?_
      refine RunK.step rfl rfl (ok_move rfl) ?_
      refine RunK.nil ?_
      refine End.sub (Sub.cons (t := 2) rfl (Sub.cons (t := 4) rfl (Sub.cons (t := 6) rfl (Sub.cons (t := 7) rfl (Sub.cons (t := 27) rfl (Sub.cons (t := 30) rfl (Sub.cons (t := 1000002) rfl (Sub.cons (t := 1000004) rfl (Sub.cons (t := 1000006) rfl Sub.nil))))))))) ?_
      refine End.normal_then ?_
      refine End.again (r + 1) ?_ ?_ ?_
      · show _ ≤ _; omega
      · show _ - _ < _ - _; omega
      · exact (Sub.cons (t := 2) rfl (Sub.cons (t := 4) rfl (Sub.cons (t := 6) rfl (Sub.cons (t := 7) rfl (Sub.cons (t := 27) rfl (Sub.cons (t := 30) rfl (Sub.cons (t := 1000004) rfl (Sub.cons (t := 1000002) rfl (Sub.eq (t := 1000006) _ rfl (congrArg _ (mid_set rfl (nextS_at k p hr4))) Sub.nil)))))))))
    · obtain rfl : r = 4 := by simp at hc31; omega
      refine A.exit ?_
      refine End.exit_then ?_
      refine End.exit_then ?_
      refine End.exit_here ?_
      refine End.normal_block ?_
      refine End.normal_then (End.code ?_)
      refine A.reg (by kernel_rfl) (by kernel_rfl) (.inl rfl) ?_
      refine RunTK.last ?_
      refine RunK.step rfl rfl (ok_bin rfl rfl rfl) ?_; refine RunK.as (.int .i64 ((c + 1 : Nat) : Int)) (by rw [wrap_i64 (by omega) (by omega)]; exact congrArg (Value.int .i64) (by omega)) ?_
      refine RunK.step rfl rfl (ok_move rfl) ?_
      refine RunK.nil ?_
      refine End.sub (Sub.cons (t := 2) rfl (Sub.cons (t := 4) rfl (Sub.cons (t := 6) rfl (Sub.cons (t := 27) rfl (Sub.cons (t := 1000002) rfl (Sub.cons (t := 1000004) rfl (Sub.cons (t := 1000006) rfl Sub.nil))))))) ?_
      refine End.normal_then ?_
      refine End.again (c + 1) ?_ ?_ ?_
      · show _ ≤ _; omega
      · show _ - _ < _ - _; omega
      · exact (Sub.cons (t := 2) rfl (Sub.cons (t := 4) rfl (Sub.cons (t := 6) rfl (Sub.cons (t := 27) rfl (Sub.cons (t := 1000004) rfl (Sub.eq (t := 1000002) _ rfl (by rw [show 4 * (c + 1) = 4 * c + 4 from by omega]) (Sub.eq (t := 1000006) _ rfl (congrArg _ (mid_full 4 _ _)) Sub.nil)))))))
  · obtain rfl : c = 4 := by simp at hc28; omega
    refine A.exit ?_
    refine End.exit_then ?_
    refine End.exit_then ?_
    refine End.exit_here ?_
    refine End.normal_then (End.code ?_)
    refine A.regs (by kernel_rfl) (by kernel_rfl) (.inl rfl) ?_
    refine RunTK.eff 1 (by decide) rfl (.inl rfl) ?_
    refine RunK.step rfl rfl (ok_loadA (s := 1000002) (by decide) Try.underlying22 rfl (size22.of (rowV_length _ _)) rfl rfl) ?_
    refine RunK.nil ?_
    refine ⟨_, eff_storeA (n := 55) (s := 1000004) (size22.of (rowV_length _ _)) rfl rfl (rowV_one _ _) hBb4 rfl (by first | (simp only [rowV_length]; done) | simp only [rowV_length, List.length_replicate]) (LeftS.cons (t := 2) rfl (Surv.v _) (LeftS.cons (t := 4) rfl (Surv.v _) (LeftS.cons (t := 6) rfl (Surv.v _) (LeftS.cons (t := 27) rfl (Surv.v _) (LeftS.cons (t := 28) rfl (Surv.v _) (LeftS.cons (t := 54) rfl (Surv.v _) (LeftS.cons (t := 1000002) rfl (Surv.blk (by omega)) (LeftS.cons (t := 1000006) rfl (Surv.blkT (by decide)) LeftS.nil)))))))), ?_⟩
    refine RunTK.last ?_
    refine RunK.nil ?_
    refine A.sub (Sub.cons (t := 4) rfl (Sub.cons (t := 1000002) rfl (Sub.cons (t := 1000004) rfl (Sub.cons (t := 1000006) rfl Sub.nil)))) ?_
    refine A.ret ?_
    exact End.cell1 (s := 1000004) rfl Try.underlying22 rfl (size22.of (rowV_length _ _)) rfl rfl (Le.v (congrArg aggV (mid_full 16 _ _)))
theorem build50 (k : Nat → Nat) : Try.prog.built 50 (([aggV (rowV 16 k)].zipIdx 0).map fun x => (x.2, x.1)) = some (rowV 176 (fun j => if j < 16 then k j else 0)).toArray := by kernel_rfl
set_option maxHeartbeats 1000000 in
theorem Expand_fn (k : Nat → Nat) (hk : By k) : Fn Try.prog 18 [.v (aggV (rowV 16 (k)))] (.v (aggV (rowV 176 (expand k)))) := by
  refine Fn.of Try.func18 rfl (by kernel_rfl) Try.ntmps18 (by simp) (fun w => [(0, .v (aggV (rowV 16 (k))))]) (fun w => (Start.v rfl Start.nil)) fun w₀ => ?_
  refine A.regs (by kernel_rfl) (by kernel_rfl) (.inl rfl) ?_
  refine RunTK.new 0 (by decide) rfl (.inl rfl) ?_
  refine RunK.nil ?_
  refine ⟨_, _, eff_box (n := 22) (d := 1) (k := 1000001) rfl (by decide), fun b1 hb1 => ?_⟩
  have hBb1 := hb1.1
  refine RunTK.new 1 (by decide) rfl (.inl rfl) ?_
  refine RunK.nil ?_
  refine ⟨_, _, eff_alloc (n := 22) (d := 2) (k := 1000002) zero50 (by decide), fun b2 hb2 => ?_⟩
  have hBb2 := hb2.1
  have hlt_b1_b2 : b1 < b2 := hb2.2 1000001 _ _ _ rfl
  refine RunTK.last ?_
  refine RunK.nil ?_
  refine A.sub (Sub.cons (t := 1) rfl (Sub.cons (t := 2) rfl (Sub.cons (t := 1000001) rfl (Sub.cons (t := 1000002) rfl Sub.nil)))) ?_
  refine A.regs (by kernel_rfl) (by kernel_rfl) (.inl rfl) ?_
  refine RunTK.new 2 (by decide) rfl (.inl rfl) ?_
  refine RunK.step rfl rfl (ok_loadA (s := 1000001) (by decide) Try.underlying22 rfl (size22.of (rowV_length _ _)) rfl rfl) ?_
  refine RunK.step rfl rfl (ok_litU [aggV (rowV 16 k)] _ ⟨rfl, rfl, trivial⟩ (build50 k)) ?_
  refine RunK.nil ?_
  refine ⟨_, _, eff_alloc (n := 22) (d := 3) (k := 1000003) zero50 (by decide), fun b3 hb3 => ?_⟩
  have hBb3 := hb3.1
  have hlt_b1_b3 : b1 < b3 := hb3.2 1000001 _ _ _ rfl
  have hlt_b2_b3 : b2 < b3 := hb3.2 1000002 _ _ _ rfl
  refine RunTK.eff 3 (by decide) rfl (.inl rfl) ?_
  refine RunK.nil ?_
  refine ⟨_, eff_storeA (n := 22) (s := 1000003) (size50.of (rowV_length _ _)) rfl rfl (rowV_one _ _) hBb3 rfl (by first | (simp only [rowV_length]; done) | simp only [rowV_length, List.length_replicate]) (LeftS.cons (t := 1) rfl (Surv.v _) (LeftS.cons (t := 2) rfl (Surv.v _) (LeftS.cons (t := 3) rfl (Surv.v _) (LeftS.cons (t := 5) rfl (Surv.v _) (LeftS.cons (t := 6) rfl (Surv.v _) (LeftS.cons (t := 1000001) rfl (Surv.blkT (by decide)) (LeftS.cons (t := 1000002) rfl (Surv.blk (by omega)) LeftS.nil))))))), ?_⟩
  refine RunTK.last ?_
  refine RunK.nil ?_
  refine A.sub (Sub.cons (t := 2) rfl (Sub.cons (t := 3) rfl (Sub.cons (t := 1000001) rfl (Sub.cons (t := 1000002) rfl (Sub.cons (t := 1000003) rfl Sub.nil))))) ?_
  refine A.seq ?_
  refine A.regs (by kernel_rfl) (by kernel_rfl) (.inl rfl) ?_
  refine RunTK.last ?_
  refine RunK.step rfl rfl (ok_assign rfl) ?_
  refine RunK.nil ?_
  refine A.sub (Sub.cons (t := 2) rfl (Sub.cons (t := 3) rfl (Sub.cons (t := 4) rfl (Sub.cons (t := 1000001) rfl (Sub.cons (t := 1000002) rfl (Sub.cons (t := 1000003) rfl Sub.nil)))))) ?_
  refine A.block ?_
  refine A.loop (ι := Nat) (fun q => q ≤ 10) (fun q => [(2, .v (.pointer (some ⟨b2, 0, none⟩))), (3, .v (.pointer (some ⟨b3, 0, none⟩))), (4, .v (.int .i64 ((q + 1 : Nat) : Int))), (1000002, blk b2 50 (List.replicate 176 (.int .u8 0))), (1000003, blk b3 50 (rowV 176 (cutF (expand k) (16 * (q + 1)))))]) (fun q => 10 - q) 0 ?_ ?_ ?_
  · exact Nat.zero_le _
  · exact (Sub.cons (t := 2) rfl (Sub.cons (t := 3) rfl (Sub.cons (t := 4) rfl (Sub.cons (t := 1000002) rfl (Sub.eq (t := 1000003) _ rfl (congrArg _ (expand_start k)) Sub.nil)))))
  intro q hq'
  refine A.seq ?_
  refine A.regs (by kernel_rfl) (by kernel_rfl) (.inl rfl) ?_
  refine RunTK.last ?_
  refine RunK.step rfl rfl (ok_move rfl) ?_
  refine RunK.step rfl rfl (ok_bin rfl rfl rfl) ?_
  refine RunK.nil ?_
  refine A.sub (Sub.cons (t := 2) rfl (Sub.cons (t := 3) rfl (Sub.cons (t := 4) rfl (Sub.cons (t := 8) rfl (Sub.cons (t := 1000002) rfl (Sub.cons (t := 1000003) rfl Sub.nil)))))) ?_
  refine A.cond rfl (fun hc8 => ?_) (fun hc8 => ?_)
  · have hq : q < 10 := by simp at hc8; omega
    refine A.skip ?_
    refine End.normal_then (End.code ?_)
    refine A.seq ?_
    refine A.block ?_
    refine A.reg (by kernel_rfl) (by kernel_rfl) (.inr (by kernel_rfl)) ?_
    refine RunTK.eff 10 (by decide) rfl (.inr (by kernel_rfl)) ?_
    refine RunK.step rfl rfl (ok_move rfl) ?_
    refine RunK.step rfl rfl (ok_move rfl) ?_
    refine RunK.step rfl rfl (ok_bin rfl rfl rfl) ?_; refine RunK.as (.int .i64 ((q : Nat) : Int)) (by rw [wrap_i64 (by omega) (by omega)]; exact congrArg (Value.int .i64) (by omega)) ?_
    refine RunK.step rfl rfl (ok_indexN _ Try.underlying50 size22 rfl rfl (rfl) (by omega)) ?_
    refine RunK.step rfl rfl (ok_loadP (s := 1000003) (by decide) Try.underlying22 rfl size22 rfl rfl (by simp only [rowV_length]; omega) (rowV_part (g := roundK k q) (by omega) (fun i hi => expand_at k (by omega) hi))) ?_
    refine RunK.step rfl rfl (ok_move rfl) ?_
    refine RunK.step rfl rfl (ok_bin rfl rfl rfl) ?_; refine RunK.as (.int .i64 ((q : Nat) : Int)) (by rw [wrap_i64 (by omega) (by omega)]; exact congrArg (Value.int .i64) (by omega)) ?_
    refine RunK.step rfl rfl (ok_call (Power_fn 2 ((q : Nat) : Int) (by decide)) (Args.cons rfl (Le.refl _) (Args.cons rfl (Le.refl _) Args.nil))) ?_; refine RunK.as (.int .u8 ((gpow 2 q : Nat) : Int)) (v8 (gpz_nat (by decide) q)) ?_
    refine RunK.step rfl rfl (ok_call (next_fn (roundK k q) (gpow 2 q) (roundK_by hk q) (gpow_lt q)) (Args.cons rfl (Le.refl _) (Args.cons rfl (Le.refl _) Args.nil))) ?_
    refine RunK.step rfl rfl (ok_indexN _ Try.underlying50 size22 rfl rfl (rfl) (by omega)) ?_
    refine RunK.nil ?_
    refine ⟨_, eff_storeP (n := 22) (s := 1000003) (size22.of (rowV_length _ _)) rfl rfl (rowV_one _ _) hBb3 rfl (by simp only [rowV_length]; omega) (LeftS.cons (t := 2) rfl (Surv.v _) (LeftS.cons (t := 3) rfl (Surv.v _) (LeftS.cons (t := 4) rfl (Surv.v _) (LeftS.cons (t := 8) rfl (Surv.v _) (LeftS.cons (t := 11) rfl (Surv.v _) (LeftS.cons (t := 12) rfl (Surv.v _) (LeftS.cons (t := 13) rfl (Surv.v _) (LeftS.cons (t := 14) rfl (Surv.v _) (LeftS.cons (t := 15) rfl (Surv.v _) (LeftS.cons (t := 16) rfl (Surv.v _) (LeftS.cons (t := 17) rfl (Surv.v _) (LeftS.cons (t := 18) rfl (Surv.v _) (LeftS.cons (t := 19) rfl (Surv.v _) (LeftS.cons (t := 20) rfl (Surv.v _) (LeftS.cons (t := 1000002) rfl (Surv.blk (by omega)) LeftS.nil))))))))))))))), ?_⟩
    refine RunTK.last ?_
    refine RunK.nil ?_
    refine End.sub (Sub.cons (t := 2) rfl (Sub.cons (t := 3) rfl (Sub.cons (t := 4) rfl (Sub.cons (t := 1000002) rfl (Sub.cons (t := 1000003) rfl Sub.nil))))) ?_
    refine End.normal_block ?_
    refine End.normal_then (End.code ?_)
    refine A.reg (by kernel_rfl) (by kernel_rfl) (.inl rfl) ?_
    refine RunTK.last ?_
    refine RunK.step rfl rfl (ok_move rfl) ?_
    refine RunK.step rfl rfl (ok_bin rfl rfl rfl) ?_; refine RunK.as (.int .i64 ((q + 1 + 1 : Nat) : Int)) (by rw [wrap_i64 (by omega) (by omega)]; exact congrArg (Value.int .i64) (by omega)) ?_
    refine RunK.step rfl rfl (ok_assign rfl) ?_
    refine RunK.nil ?_
    refine End.sub (Sub.cons (t := 2) rfl (Sub.cons (t := 3) rfl (Sub.cons (t := 4) rfl (Sub.cons (t := 1000002) rfl (Sub.cons (t := 1000003) rfl Sub.nil))))) ?_
    refine End.normal_then ?_
    refine End.again (q + 1) ?_ ?_ ?_
    · show _ ≤ _; omega
    · show _ - _ < _ - _; omega
    · exact (Sub.cons (t := 2) rfl (Sub.cons (t := 3) rfl (Sub.cons (t := 4) rfl (Sub.cons (t := 1000002) rfl (Sub.eq (t := 1000003) _ rfl (congrArg _ (expand_put k (by omega))) Sub.nil)))))
  · obtain rfl : q = 10 := by simp at hc8; omega
    refine A.exit ?_
    refine End.exit_then ?_
    refine End.exit_then ?_
    refine End.exit_here ?_
    refine End.normal_then (End.code ?_)
    refine A.regs (by kernel_rfl) (by kernel_rfl) (.inl rfl) ?_
    refine RunTK.eff 1 (by decide) rfl (.inl rfl) ?_
    refine RunK.step rfl rfl (ok_loadA (s := 1000003) (by decide) Try.underlying50 rfl (size50.of (rowV_length _ _)) rfl rfl) ?_
    refine RunK.nil ?_
    refine ⟨_, eff_storeA (n := 22) (s := 1000002) (size50.of (rowV_length _ _)) rfl rfl (rowV_one _ _) hBb2 rfl (by first | (simp only [rowV_length]; done) | simp only [rowV_length, List.length_replicate]) (LeftS.cons (t := 2) rfl (Surv.v _) (LeftS.cons (t := 3) rfl (Surv.v _) (LeftS.cons (t := 4) rfl (Surv.v _) (LeftS.cons (t := 8) rfl (Surv.v _) (LeftS.cons (t := 21) rfl (Surv.v _) (LeftS.cons (t := 1000003) rfl (Surv.blk (by omega)) LeftS.nil)))))), ?_⟩
    refine RunTK.last ?_
    refine RunK.nil ?_
    refine A.sub (Sub.cons (t := 2) rfl (Sub.cons (t := 1000002) rfl (Sub.cons (t := 1000003) rfl Sub.nil))) ?_
    refine A.ret ?_
    exact End.cell1 (s := 1000002) rfl Try.underlying50 rfl (size50.of (rowV_length _ _)) rfl rfl (Le.v (congrArg aggV (cutF_full 176 _)))
end Go.Proofs.Ythggljahgnjcbaa
