/-
  Package streams by facts.
-/
import Derived.Test.YthggljahgnjcbaaC07a
import Derived.Test.YthggljahgnjcbaaRangeX
namespace Go.Proofs.Ythggljahgnjcbaa
open Go Go.RowKit
set_option linter.unusedVariables false
theorem zero32 : ZeroIs Try.prog 32 [.slice none 0 0] := by unfold ZeroIs; kernel_rfl
theorem build46 (s c f l : Nat) : Try.prog.built 46 (([aggV [.int .u32 ((s : Nat) : Int), .int .u64 ((c : Nat) : Int)], .int .u32 ((f : Nat) : Int), .int .u32 ((l : Nat) : Int)].zipIdx 0).map fun x => (x.2, x.1)) = some ([.int .u32 ((s : Nat) : Int), .int .u64 ((c : Nat) : Int), .int .u32 ((f : Nat) : Int), .int .u32 ((l : Nat) : Int)] : List Value).toArray := by kernel_rfl

theorem counterBlock_fn (s c t : Nat) (hs : s < 4294967296) (hc : c < 18446744073709551616) (ht : t < 4294967296) : Fn Try.prog 20 [.v (aggV ([.int .u32 ((s : Nat) : Int), .int .u64 ((c : Nat) : Int)])), .v (.int .u32 ((t : Nat) : Int))] (.v (aggV (rowV 16 (byL (ctrL s c t))))) := by
  refine Fn.of Try.func20 rfl (by kernel_rfl) Try.ntmps20 (by simp) (fun w => [(0, .v (aggV ([.int .u32 ((s : Nat) : Int), .int .u64 ((c : Nat) : Int)]))), (1, .v (.int .u32 ((t : Nat) : Int)))]) (fun w => (Start.v rfl (Start.v rfl Start.nil))) fun w₀ => ?_
  refine A.regs (by kernel_rfl) (by kernel_rfl) (.inl rfl) ?_
  refine RunTK.new 0 (by decide) rfl (.inl rfl) ?_
  refine RunK.nil ?_
  refine ⟨_, _, eff_box (n := 17) (d := 2) (k := 1000002) rfl (by decide), fun b2 hb2 => ?_⟩
  have hBb2 := hb2.1
  refine RunTK.new 1 (by decide) rfl (.inl rfl) ?_
  refine RunK.nil ?_
  refine ⟨_, _, eff_alloc (n := 17) (d := 4) (k := 1000004) zero22 (by decide), fun b4 hb4 => ?_⟩
  have hBb4 := hb4.1
  have hlt_b2_b4 : b2 < b4 := hb4.2 1000002 _ _ _ rfl
  refine RunTK.last ?_
  refine RunK.nil ?_
  refine A.sub (Sub.cons (t := 1) rfl (Sub.cons (t := 2) rfl (Sub.cons (t := 4) rfl (Sub.cons (t := 1000002) rfl (Sub.cons (t := 1000004) rfl Sub.nil))))) ?_
  refine A.regs (by kernel_rfl) (by kernel_rfl) (.inr (by kernel_rfl)) ?_
  refine RunTK.eff 12 (by decide) rfl (.inr (by kernel_rfl)) ?_
  refine RunK.step rfl rfl (ok_field field26_0 (by decide) rfl) ?_
  refine RunK.step rfl rfl (ok_loadV (s := 1000002) (by decide) Try.underlying23 rfl rfl rfl (rfl)) ?_
  refine RunK.step rfl rfl (ok_call ((Put32_fn ((s : Nat) : Int) (by omega) (by omega)).le (d' := bytes (be 4 s) 4) (Le.refl _)) (Args.cons rfl (Le.refl _) Args.nil)) ?_
  refine RunK.step rfl rfl (ok_field field26_1 (by decide) rfl) ?_
  refine RunK.step rfl rfl (ok_loadV (s := 1000002) (by decide) Try.underlying24 rfl rfl rfl (rfl)) ?_
  refine RunK.step rfl rfl (ok_call ((Put64_fn ((c : Nat) : Int) (by omega) (by omega)).le (d' := bytes (be 8 c) 8) (Le.refl _)) (Args.cons rfl (Le.refl _) Args.nil)) ?_
  refine RunK.step rfl rfl (ok_move rfl) ?_
  refine RunK.step rfl rfl (ok_call ((Put32_fn ((t : Nat) : Int) (by omega) (by omega)).le (d' := bytes (be 4 t) 4) (Le.refl _)) (Args.cons rfl (Le.refl _) Args.nil)) ?_
  refine RunK.step rfl rfl (ok_build [bytes (be 4 s) 4, bytes (be 8 c) 8, bytes (be 4 t) 4] Try.underlying82 info32 rfl (by decide) (by decide) rfl ⟨rfl, rfl, rfl, rfl, rfl, rfl, trivial⟩ (fun d hd w x h => by simp only [List.mem_cons, List.not_mem_nil, or_false] at hd; rcases hd with rfl | rfl | rfl <;> exact list_one h)) ?_
  refine RunK.step rfl rfl ((ok_callB (Join_fnB [be 4 s, be 8 c, be 4 t] (by simp) (by simp [be_length])) (fun _ _ => fresh_mono _ _) (Args.cons rfl (list_lst3 (le_byt _ 4) (le_byt _ 8) (le_byt _ 4)) Args.nil)).le (d' := fresh w₀.heap.size 5 ((ctrL s c t).map byteV) 16) (Le.eq (by rw [ctr_flat, ctrL_length]))) ?_
  refine RunK.step rfl rfl (ok_arrayF Try.underlying22 rfl (by decide)) ?_
  refine RunK.step rfl rfl (ok_loadF Try.underlying22 rfl (size22.of (by rw [List.length_map, ctrL_length])) rfl) ?_; refine RunK.as (aggV (rowV 16 (byL (ctrL s c t)))) (congrArg aggV (rowV_byL (ctrL_length s c t))) ?_
  refine RunK.nil ?_
  refine ⟨_, eff_storeA (n := 17) (s := 1000004) (size22.of (rowV_length _ _)) rfl rfl (rowV_one _ _) hBb4 rfl (by first | (simp only [rowV_length]; done) | simp only [rowV_length, List.length_replicate]) (LeftS.cons (t := 1) rfl (Surv.v _) (LeftS.cons (t := 2) rfl (Surv.v _) (LeftS.cons (t := 4) rfl (Surv.v _) (LeftS.cons (t := 5) rfl (Surv.v _) (LeftS.cons (t := 6) rfl (Surv.v _) (LeftS.cons (t := 8) rfl (Surv.v _) (LeftS.cons (t := 9) rfl (Surv.v _) (LeftS.cons (t := 11) rfl (Surv.v _) (LeftS.cons (t := 16) rfl (Surv.v _) (LeftS.cons (t := 1000002) rfl (Surv.blkT (by decide)) LeftS.nil)))))))))), ?_⟩
  refine RunTK.last ?_
  refine RunK.nil ?_
  refine A.sub (Sub.cons (t := 4) rfl (Sub.cons (t := 1000002) rfl (Sub.cons (t := 1000004) rfl Sub.nil))) ?_
  refine A.ret ?_
  exact End.cell1 (s := 1000004) rfl Try.underlying22 rfl (size22.of (rowV_length _ _)) rfl rfl (Le.refl _)
theorem Block_fn7 (k : Nat → Nat) (hk : By k) (s c t : Nat) (hs : s < 4294967296) (hc : c < 18446744073709551616) (ht : t < 4294967296) : Fn Try.prog 9 [.v (aggV (rowV 16 (k))), .v (aggV ([.int .u32 ((s : Nat) : Int), .int .u64 ((c : Nat) : Int)])), .v (.int .u32 ((t : Nat) : Int))] (.v (aggV (rowV 16 (ksB k s c t)))) := by
  refine Fn.of Try.func9 rfl (by kernel_rfl) Try.ntmps9 (by simp) (fun w => [(0, .v (aggV (rowV 16 (k)))), (1, .v (aggV ([.int .u32 ((s : Nat) : Int), .int .u64 ((c : Nat) : Int)]))), (2, .v (.int .u32 ((t : Nat) : Int)))]) (fun w => (Start.v rfl (Start.v rfl (Start.v rfl Start.nil)))) fun w₀ => ?_
  refine A.regs (by kernel_rfl) (by kernel_rfl) (.inl rfl) ?_
  refine RunTK.new 0 (by decide) rfl (.inl rfl) ?_
  refine RunK.nil ?_
  refine ⟨_, _, eff_box (n := 13) (d := 3) (k := 1000003) rfl (by decide), fun b3 hb3 => ?_⟩
  have hBb3 := hb3.1
  refine RunTK.new 1 (by decide) rfl (.inl rfl) ?_
  refine RunK.nil ?_
  refine ⟨_, _, eff_box (n := 13) (d := 4) (k := 1000004) rfl (by decide), fun b4 hb4 => ?_⟩
  have hBb4 := hb4.1
  have hlt_b3_b4 : b3 < b4 := hb4.2 1000003 _ _ _ rfl
  refine RunTK.new 2 (by decide) rfl (.inl rfl) ?_
  refine RunK.nil ?_
  refine ⟨_, _, eff_alloc (n := 13) (d := 6) (k := 1000006) zero22 (by decide), fun b6 hb6 => ?_⟩
  have hBb6 := hb6.1
  have hlt_b3_b6 : b3 < b6 := hb6.2 1000003 _ _ _ rfl
  have hlt_b4_b6 : b4 < b6 := hb6.2 1000004 _ _ _ rfl
  refine RunTK.last ?_
  refine RunK.nil ?_
  refine A.sub (Sub.cons (t := 2) rfl (Sub.cons (t := 3) rfl (Sub.cons (t := 4) rfl (Sub.cons (t := 6) rfl (Sub.cons (t := 1000003) rfl (Sub.cons (t := 1000004) rfl (Sub.cons (t := 1000006) rfl Sub.nil))))))) ?_
  refine A.regs (by kernel_rfl) (by kernel_rfl) (.inr (by kernel_rfl)) ?_
  refine RunTK.eff 6 (by decide) rfl (.inr (by kernel_rfl)) ?_
  refine RunK.step rfl rfl (ok_loadA (s := 1000003) (by decide) Try.underlying22 rfl (size22.of (rowV_length _ _)) rfl rfl) ?_
  refine RunK.step rfl rfl (ok_call (Expand_fn k hk) (Args.cons rfl (Le.refl _) Args.nil)) ?_
  refine RunK.step rfl rfl (ok_loadA (s := 1000004) (by decide) Try.underlying26 rfl (size26.of (rfl)) rfl rfl) ?_
  refine RunK.step rfl rfl (ok_move rfl) ?_
  refine RunK.step rfl rfl (ok_call (counterBlock_fn s c t hs hc ht) (Args.cons rfl (Le.refl _) (Args.cons rfl (Le.refl _) Args.nil))) ?_
  refine RunK.step rfl rfl (ok_call (Encrypt_fn (expand k) (byL (ctrL s c t)) (expand_lt hk) (byL_lt _)) (Args.cons rfl (Le.refl _) (Args.cons rfl (Le.refl _) Args.nil))) ?_
  refine RunK.nil ?_
  refine ⟨_, eff_storeA (n := 13) (s := 1000006) (size22.of (rowV_length _ _)) rfl rfl (rowV_one _ _) hBb6 rfl (by first | (simp only [rowV_length]; done) | simp only [rowV_length, List.length_replicate]) (LeftS.cons (t := 2) rfl (Surv.v _) (LeftS.cons (t := 3) rfl (Surv.v _) (LeftS.cons (t := 4) rfl (Surv.v _) (LeftS.cons (t := 6) rfl (Surv.v _) (LeftS.cons (t := 7) rfl (Surv.v _) (LeftS.cons (t := 8) rfl (Surv.v _) (LeftS.cons (t := 9) rfl (Surv.v _) (LeftS.cons (t := 10) rfl (Surv.v _) (LeftS.cons (t := 11) rfl (Surv.v _) (LeftS.cons (t := 12) rfl (Surv.v _) (LeftS.cons (t := 1000003) rfl (Surv.blk (by omega)) (LeftS.cons (t := 1000004) rfl (Surv.blkT (by decide)) LeftS.nil)))))))))))), ?_⟩
  refine RunTK.last ?_
  refine RunK.nil ?_
  refine A.sub (Sub.cons (t := 6) rfl (Sub.cons (t := 1000003) rfl (Sub.cons (t := 1000004) rfl (Sub.cons (t := 1000006) rfl Sub.nil)))) ?_
  refine A.ret ?_
  exact End.cell1 (s := 1000006) rfl Try.underlying22 rfl (size22.of (rowV_length _ _)) rfl rfl (Le.refl _)
theorem counterOf_fn (x : Nat) (hx : x ≤ 1048576) : Fn Try.prog 40 [.v (.int .i64 ((x : Nat) : Int))] (.v (.int .u32 ((x / 16 : Nat) : Int))) := by
  refine Fn.of Try.func40 rfl (by kernel_rfl) Try.ntmps40 (by simp) (fun w => [(0, .v (.int .i64 ((x : Nat) : Int)))]) (fun w => (Start.v rfl Start.nil)) fun w₀ => ?_
  refine A.regs (by kernel_rfl) (by kernel_rfl) (.inl rfl) ?_
  refine RunTK.last ?_
  refine RunK.step rfl rfl (ok_assign rfl) ?_
  refine RunK.nil ?_
  refine A.sub (Sub.cons (t := 0) rfl Sub.nil) ?_
  refine A.regs (by kernel_rfl) (by kernel_rfl) (.inl rfl) ?_
  refine RunTK.last ?_
  refine RunK.step rfl rfl (ok_move rfl) ?_
  refine RunK.step rfl rfl (ok_div rfl rfl (by decide)) ?_; refine RunK.as (.int .i64 ((x / 16 : Nat) : Int)) (by rw [tdiv_lit _ (by decide), show Int.toNat 16 = 16 from rfl, wrapN_i64 (by omega)]) ?_
  refine RunK.step rfl rfl (ok_conv Try.underlying3 Try.underlying23 rfl) ?_; refine RunK.as (.int .u32 ((x / 16 : Nat) : Int)) (by rw [wrapN_u32 (by omega)]) ?_
  refine RunK.step rfl rfl (ok_assign rfl) ?_
  refine RunK.nil ?_
  refine A.sub (Sub.cons (t := 2) rfl Sub.nil) ?_
  refine A.ret ?_
  exact End.ret1 rfl rfl (by first | exact Le.refl _ | exact Le.old _ _)
theorem Used_negO (s c : Nat) (o n : Int) (h : o < 0) : Fn Try.prog 24 [.v (aggV ([.int .u32 ((s : Nat) : Int), .int .u64 ((c : Nat) : Int)])), .v (.int .i64 o), .v (.int .i64 n)] (tup [.v (aggV ([.int .u32 0, .int .u64 0, .int .u32 0, .int .u32 0])), .v (.int .i64 1)]) := by
  refine Fn.of Try.func24 rfl (by kernel_rfl) Try.ntmps24 (by simp) (fun w => [(0, .v (aggV ([.int .u32 ((s : Nat) : Int), .int .u64 ((c : Nat) : Int)]))), (1, .v (.int .i64 o)), (2, .v (.int .i64 n))]) (fun w => (Start.v rfl (Start.v rfl (Start.v rfl Start.nil)))) fun w₀ => ?_
  refine A.regs (by kernel_rfl) (by kernel_rfl) (.inl rfl) ?_
  refine RunTK.new 0 (by decide) rfl (.inl rfl) ?_
  refine RunK.nil ?_
  refine ⟨_, _, eff_box (n := 35) (d := 3) (k := 1000003) rfl (by decide), fun b3 hb3 => ?_⟩
  have hBb3 := hb3.1
  refine RunTK.new 1 (by decide) rfl (.inl rfl) ?_
  refine RunK.nil ?_
  refine ⟨_, _, eff_alloc (n := 35) (d := 6) (k := 1000006) zero46 (by decide), fun b6 hb6 => ?_⟩
  have hBb6 := hb6.1
  have hlt_b3_b6 : b3 < b6 := hb6.2 1000003 _ _ _ rfl
  refine RunTK.last ?_
  refine RunK.step rfl rfl (ok_assign rfl) ?_
  refine RunK.nil ?_
  refine A.sub (Sub.cons (t := 1) rfl (Sub.cons (t := 2) rfl (Sub.cons (t := 3) rfl (Sub.cons (t := 6) rfl (Sub.cons (t := 1000003) rfl (Sub.cons (t := 1000006) rfl Sub.nil)))))) ?_
  refine A.seq ?_
  refine A.block ?_
  refine A.regs (by kernel_rfl) (by kernel_rfl) (.inl rfl) ?_
  refine RunTK.last ?_
  refine RunK.step rfl rfl (ok_move rfl) ?_
  refine RunK.step rfl rfl (ok_bin rfl rfl rfl) ?_; refine RunK.as (.bool true) (by simp; omega) ?_
  refine RunK.step rfl rfl (ok_move rfl) ?_
  refine RunK.skipped rfl rfl rfl rfl rfl ?_
  refine RunK.skipped rfl rfl rfl rfl rfl ?_
  refine RunK.step rfl rfl (ok_pick rfl rfl) ?_
  refine RunK.step rfl rfl (ok_assign rfl) ?_
  refine RunK.nil ?_
  refine A.sub (Sub.cons (t := 1) rfl (Sub.cons (t := 2) rfl (Sub.cons (t := 3) rfl (Sub.cons (t := 6) rfl (Sub.cons (t := 8) rfl (Sub.cons (t := 1000003) rfl (Sub.cons (t := 1000006) rfl Sub.nil))))))) ?_
  refine A.yes rfl ?_
  refine A.regs (by kernel_rfl) (by kernel_rfl) (.inl rfl) ?_
  refine RunTK.eff 1 (by decide) rfl (.inl rfl) ?_
  refine RunK.step rfl rfl (ok_lit [] ([.int .u32 0] ++ [.int .u64 0] ++ [.int .u32 0] ++ [.int .u32 0]) (fun _ _ => rfl) (by kernel_rfl)) ?_
  refine RunK.nil ?_
  refine ⟨_, eff_storeA (n := 35) (s := 1000006) (size46.of (rfl)) rfl rfl (rfl) hBb6 rfl (rfl) (LeftS.cons (t := 1) rfl (Surv.v _) (LeftS.cons (t := 2) rfl (Surv.v _) (LeftS.cons (t := 3) rfl (Surv.v _) (LeftS.cons (t := 6) rfl (Surv.v _) (LeftS.cons (t := 8) rfl (Surv.v _) (LeftS.cons (t := 15) rfl (Surv.v _) (LeftS.cons (t := 1000003) rfl (Surv.blkT (by decide)) LeftS.nil))))))), ?_⟩
  refine RunTK.last ?_
  refine RunK.step rfl rfl (ok_assign rfl) ?_
  refine RunK.nil ?_
  refine A.sub (Sub.cons (t := 6) rfl (Sub.cons (t := 7) rfl (Sub.cons (t := 1000003) rfl (Sub.cons (t := 1000006) rfl Sub.nil)))) ?_
  refine A.ret ?_
  refine End.ret_block ?_
  refine End.ret_then ?_
  exact End.cellT (s := 1000006) rfl Try.underlying46 rfl (size46.of (rfl)) rfl rfl (Le.v rfl) rfl (Le.refl _)
theorem Used_negN (s c : Nat) (o n : Int) (h : 0 ≤ o) (h2 : n < 0) : Fn Try.prog 24 [.v (aggV ([.int .u32 ((s : Nat) : Int), .int .u64 ((c : Nat) : Int)])), .v (.int .i64 o), .v (.int .i64 n)] (tup [.v (aggV ([.int .u32 0, .int .u64 0, .int .u32 0, .int .u32 0])), .v (.int .i64 1)]) := by
  refine Fn.of Try.func24 rfl (by kernel_rfl) Try.ntmps24 (by simp) (fun w => [(0, .v (aggV ([.int .u32 ((s : Nat) : Int), .int .u64 ((c : Nat) : Int)]))), (1, .v (.int .i64 o)), (2, .v (.int .i64 n))]) (fun w => (Start.v rfl (Start.v rfl (Start.v rfl Start.nil)))) fun w₀ => ?_
  refine A.regs (by kernel_rfl) (by kernel_rfl) (.inl rfl) ?_
  refine RunTK.new 0 (by decide) rfl (.inl rfl) ?_
  refine RunK.nil ?_
  refine ⟨_, _, eff_box (n := 35) (d := 3) (k := 1000003) rfl (by decide), fun b3 hb3 => ?_⟩
  have hBb3 := hb3.1
  refine RunTK.new 1 (by decide) rfl (.inl rfl) ?_
  refine RunK.nil ?_
  refine ⟨_, _, eff_alloc (n := 35) (d := 6) (k := 1000006) zero46 (by decide), fun b6 hb6 => ?_⟩
  have hBb6 := hb6.1
  have hlt_b3_b6 : b3 < b6 := hb6.2 1000003 _ _ _ rfl
  refine RunTK.last ?_
  refine RunK.step rfl rfl (ok_assign rfl) ?_
  refine RunK.nil ?_
  refine A.sub (Sub.cons (t := 1) rfl (Sub.cons (t := 2) rfl (Sub.cons (t := 3) rfl (Sub.cons (t := 6) rfl (Sub.cons (t := 1000003) rfl (Sub.cons (t := 1000006) rfl Sub.nil)))))) ?_
  refine A.seq ?_
  refine A.block ?_
  refine A.regs (by kernel_rfl) (by kernel_rfl) (.inl rfl) ?_
  refine RunTK.last ?_
  refine RunK.step rfl rfl (ok_move rfl) ?_
  refine RunK.step rfl rfl (ok_bin rfl rfl rfl) ?_; refine RunK.as (.bool false) (by simp; omega) ?_
  refine RunK.step rfl rfl (ok_move rfl) ?_
  refine RunK.guarded rfl rfl rfl rfl (ok_move rfl) ?_
  refine RunK.guarded rfl rfl rfl rfl (ok_bin rfl rfl rfl) ?_; refine RunK.as (.bool true) (by simp; omega) ?_
  refine RunK.step rfl rfl (ok_pick rfl rfl) ?_
  refine RunK.step rfl rfl (ok_assign rfl) ?_
  refine RunK.nil ?_
  refine A.sub (Sub.cons (t := 1) rfl (Sub.cons (t := 2) rfl (Sub.cons (t := 3) rfl (Sub.cons (t := 6) rfl (Sub.cons (t := 8) rfl (Sub.cons (t := 1000003) rfl (Sub.cons (t := 1000006) rfl Sub.nil))))))) ?_
  refine A.yes rfl ?_
  refine A.regs (by kernel_rfl) (by kernel_rfl) (.inl rfl) ?_
  refine RunTK.eff 1 (by decide) rfl (.inl rfl) ?_
  refine RunK.step rfl rfl (ok_lit [] ([.int .u32 0] ++ [.int .u64 0] ++ [.int .u32 0] ++ [.int .u32 0]) (fun _ _ => rfl) (by kernel_rfl)) ?_
  refine RunK.nil ?_
  refine ⟨_, eff_storeA (n := 35) (s := 1000006) (size46.of (rfl)) rfl rfl (rfl) hBb6 rfl (rfl) (LeftS.cons (t := 1) rfl (Surv.v _) (LeftS.cons (t := 2) rfl (Surv.v _) (LeftS.cons (t := 3) rfl (Surv.v _) (LeftS.cons (t := 6) rfl (Surv.v _) (LeftS.cons (t := 8) rfl (Surv.v _) (LeftS.cons (t := 15) rfl (Surv.v _) (LeftS.cons (t := 1000003) rfl (Surv.blkT (by decide)) LeftS.nil))))))), ?_⟩
  refine RunTK.last ?_
  refine RunK.step rfl rfl (ok_assign rfl) ?_
  refine RunK.nil ?_
  refine A.sub (Sub.cons (t := 6) rfl (Sub.cons (t := 7) rfl (Sub.cons (t := 1000003) rfl (Sub.cons (t := 1000006) rfl Sub.nil)))) ?_
  refine A.ret ?_
  refine End.ret_block ?_
  refine End.ret_then ?_
  exact End.cellT (s := 1000006) rfl Try.underlying46 rfl (size46.of (rfl)) rfl rfl (Le.v rfl) rfl (Le.refl _)
theorem Used_big (s c : Nat) (o n : Int) (h : 0 ≤ o) (hm : o ≤ 9223372036854775807) (h2 : 0 ≤ n) (h3 : 1048576 - o < n) : Fn Try.prog 24 [.v (aggV ([.int .u32 ((s : Nat) : Int), .int .u64 ((c : Nat) : Int)])), .v (.int .i64 o), .v (.int .i64 n)] (tup [.v (aggV ([.int .u32 0, .int .u64 0, .int .u32 0, .int .u32 0])), .v (.int .i64 3)]) := by
  refine Fn.of Try.func24 rfl (by kernel_rfl) Try.ntmps24 (by simp) (fun w => [(0, .v (aggV ([.int .u32 ((s : Nat) : Int), .int .u64 ((c : Nat) : Int)]))), (1, .v (.int .i64 o)), (2, .v (.int .i64 n))]) (fun w => (Start.v rfl (Start.v rfl (Start.v rfl Start.nil)))) fun w₀ => ?_
  refine A.regs (by kernel_rfl) (by kernel_rfl) (.inl rfl) ?_
  refine RunTK.new 0 (by decide) rfl (.inl rfl) ?_
  refine RunK.nil ?_
  refine ⟨_, _, eff_box (n := 35) (d := 3) (k := 1000003) rfl (by decide), fun b3 hb3 => ?_⟩
  have hBb3 := hb3.1
  refine RunTK.new 1 (by decide) rfl (.inl rfl) ?_
  refine RunK.nil ?_
  refine ⟨_, _, eff_alloc (n := 35) (d := 6) (k := 1000006) zero46 (by decide), fun b6 hb6 => ?_⟩
  have hBb6 := hb6.1
  have hlt_b3_b6 : b3 < b6 := hb6.2 1000003 _ _ _ rfl
  refine RunTK.last ?_
  refine RunK.step rfl rfl (ok_assign rfl) ?_
  refine RunK.nil ?_
  refine A.sub (Sub.cons (t := 1) rfl (Sub.cons (t := 2) rfl (Sub.cons (t := 3) rfl (Sub.cons (t := 6) rfl (Sub.cons (t := 1000003) rfl (Sub.cons (t := 1000006) rfl Sub.nil)))))) ?_
  refine A.seq ?_
  refine A.block ?_
  refine A.regs (by kernel_rfl) (by kernel_rfl) (.inl rfl) ?_
  refine RunTK.last ?_
  refine RunK.step rfl rfl (ok_move rfl) ?_
  refine RunK.step rfl rfl (ok_bin rfl rfl rfl) ?_; refine RunK.as (.bool false) (by simp; omega) ?_
  refine RunK.step rfl rfl (ok_move rfl) ?_
  refine RunK.guarded rfl rfl rfl rfl (ok_move rfl) ?_
  refine RunK.guarded rfl rfl rfl rfl (ok_bin rfl rfl rfl) ?_; refine RunK.as (.bool false) (by simp; omega) ?_
  refine RunK.step rfl rfl (ok_pick rfl rfl) ?_
  refine RunK.step rfl rfl (ok_assign rfl) ?_
  refine RunK.nil ?_
  refine A.sub (Sub.cons (t := 1) rfl (Sub.cons (t := 2) rfl (Sub.cons (t := 3) rfl (Sub.cons (t := 6) rfl (Sub.cons (t := 8) rfl (Sub.cons (t := 1000003) rfl (Sub.cons (t := 1000006) rfl Sub.nil))))))) ?_
  refine A.no rfl ?_
  refine A.regs (by kernel_rfl) (by kernel_rfl) (.inl rfl) ?_
  refine RunTK.last ?_
  refine RunK.step rfl rfl (ok_move rfl) ?_
  refine RunK.step rfl rfl (ok_move rfl) ?_
  refine RunK.step rfl rfl (ok_bin rfl rfl rfl) ?_; refine RunK.as (.int .i64 (1048576 - o)) (by rw [wrap_i64 (by omega) (by omega)]) ?_
  refine RunK.step rfl rfl (ok_bin rfl rfl rfl) ?_; refine RunK.as (.bool true) (by simp; omega) ?_
  refine RunK.step rfl rfl (ok_assign rfl) ?_
  refine RunK.nil ?_
  refine A.sub (Sub.cons (t := 1) rfl (Sub.cons (t := 2) rfl (Sub.cons (t := 3) rfl (Sub.cons (t := 6) rfl (Sub.cons (t := 16) rfl (Sub.cons (t := 1000003) rfl (Sub.cons (t := 1000006) rfl Sub.nil))))))) ?_
  refine A.yes rfl ?_
  refine A.regs (by kernel_rfl) (by kernel_rfl) (.inl rfl) ?_
  refine RunTK.eff 1 (by decide) rfl (.inl rfl) ?_
  refine RunK.step rfl rfl (ok_lit [] ([.int .u32 0] ++ [.int .u64 0] ++ [.int .u32 0] ++ [.int .u32 0]) (fun _ _ => rfl) (by kernel_rfl)) ?_
  refine RunK.nil ?_
  refine ⟨_, eff_storeA (n := 35) (s := 1000006) (size46.of (rfl)) rfl rfl (rfl) hBb6 rfl (rfl) (LeftS.cons (t := 1) rfl (Surv.v _) (LeftS.cons (t := 2) rfl (Surv.v _) (LeftS.cons (t := 3) rfl (Surv.v _) (LeftS.cons (t := 6) rfl (Surv.v _) (LeftS.cons (t := 16) rfl (Surv.v _) (LeftS.cons (t := 21) rfl (Surv.v _) (LeftS.cons (t := 1000003) rfl (Surv.blkT (by decide)) LeftS.nil))))))), ?_⟩
  refine RunTK.last ?_
  refine RunK.step rfl rfl (ok_assign rfl) ?_
  refine RunK.nil ?_
  refine A.sub (Sub.cons (t := 6) rfl (Sub.cons (t := 7) rfl (Sub.cons (t := 1000003) rfl (Sub.cons (t := 1000006) rfl Sub.nil)))) ?_
  refine A.ret ?_
  refine End.ret_block ?_
  refine End.ret_then ?_
  exact End.cellT (s := 1000006) rfl Try.underlying46 rfl (size46.of (rfl)) rfl rfl (Le.v rfl) rfl (Le.refl _)
theorem Used_empty (s c : Nat) (o n : Int) (h : 0 ≤ o) (h1 : o ≤ 1048576) (h2 : n = 0) : Fn Try.prog 24 [.v (aggV ([.int .u32 ((s : Nat) : Int), .int .u64 ((c : Nat) : Int)])), .v (.int .i64 o), .v (.int .i64 n)] (tup [.v (aggV ([.int .u32 0, .int .u64 0, .int .u32 0, .int .u32 0])), .v (.int .i64 16)]) := by
  refine Fn.of Try.func24 rfl (by kernel_rfl) Try.ntmps24 (by simp) (fun w => [(0, .v (aggV ([.int .u32 ((s : Nat) : Int), .int .u64 ((c : Nat) : Int)]))), (1, .v (.int .i64 o)), (2, .v (.int .i64 n))]) (fun w => (Start.v rfl (Start.v rfl (Start.v rfl Start.nil)))) fun w₀ => ?_
  refine A.regs (by kernel_rfl) (by kernel_rfl) (.inl rfl) ?_
  refine RunTK.new 0 (by decide) rfl (.inl rfl) ?_
  refine RunK.nil ?_
  refine ⟨_, _, eff_box (n := 35) (d := 3) (k := 1000003) rfl (by decide), fun b3 hb3 => ?_⟩
  have hBb3 := hb3.1
  refine RunTK.new 1 (by decide) rfl (.inl rfl) ?_
  refine RunK.nil ?_
  refine ⟨_, _, eff_alloc (n := 35) (d := 6) (k := 1000006) zero46 (by decide), fun b6 hb6 => ?_⟩
  have hBb6 := hb6.1
  have hlt_b3_b6 : b3 < b6 := hb6.2 1000003 _ _ _ rfl
  refine RunTK.last ?_
  refine RunK.step rfl rfl (ok_assign rfl) ?_
  refine RunK.nil ?_
  refine A.sub (Sub.cons (t := 1) rfl (Sub.cons (t := 2) rfl (Sub.cons (t := 3) rfl (Sub.cons (t := 6) rfl (Sub.cons (t := 1000003) rfl (Sub.cons (t := 1000006) rfl Sub.nil)))))) ?_
  refine A.seq ?_
  refine A.block ?_
  refine A.regs (by kernel_rfl) (by kernel_rfl) (.inl rfl) ?_
  refine RunTK.last ?_
  refine RunK.step rfl rfl (ok_move rfl) ?_
  refine RunK.step rfl rfl (ok_bin rfl rfl rfl) ?_; refine RunK.as (.bool false) (by simp; omega) ?_
  refine RunK.step rfl rfl (ok_move rfl) ?_
  refine RunK.guarded rfl rfl rfl rfl (ok_move rfl) ?_
  refine RunK.guarded rfl rfl rfl rfl (ok_bin rfl rfl rfl) ?_; refine RunK.as (.bool false) (by simp; omega) ?_
  refine RunK.step rfl rfl (ok_pick rfl rfl) ?_
  refine RunK.step rfl rfl (ok_assign rfl) ?_
  refine RunK.nil ?_
  refine A.sub (Sub.cons (t := 1) rfl (Sub.cons (t := 2) rfl (Sub.cons (t := 3) rfl (Sub.cons (t := 6) rfl (Sub.cons (t := 8) rfl (Sub.cons (t := 1000003) rfl (Sub.cons (t := 1000006) rfl Sub.nil))))))) ?_
  refine A.no rfl ?_
  refine A.regs (by kernel_rfl) (by kernel_rfl) (.inl rfl) ?_
  refine RunTK.last ?_
  refine RunK.step rfl rfl (ok_move rfl) ?_
  refine RunK.step rfl rfl (ok_move rfl) ?_
  refine RunK.step rfl rfl (ok_bin rfl rfl rfl) ?_; refine RunK.as (.int .i64 (1048576 - o)) (by rw [wrap_i64 (by omega) (by omega)]) ?_
  refine RunK.step rfl rfl (ok_bin rfl rfl rfl) ?_; refine RunK.as (.bool false) (by simp; omega) ?_
  refine RunK.step rfl rfl (ok_assign rfl) ?_
  refine RunK.nil ?_
  refine A.sub (Sub.cons (t := 1) rfl (Sub.cons (t := 2) rfl (Sub.cons (t := 3) rfl (Sub.cons (t := 6) rfl (Sub.cons (t := 16) rfl (Sub.cons (t := 1000003) rfl (Sub.cons (t := 1000006) rfl Sub.nil))))))) ?_
  refine A.no rfl ?_
  refine A.regs (by kernel_rfl) (by kernel_rfl) (.inl rfl) ?_
  refine RunTK.last ?_
  refine RunK.step rfl rfl (ok_move rfl) ?_
  refine RunK.step rfl rfl (ok_bin rfl rfl rfl) ?_; refine RunK.as (.bool true) (by simp; omega) ?_
  refine RunK.step rfl rfl (ok_assign rfl) ?_
  refine RunK.nil ?_
  refine A.sub (Sub.cons (t := 1) rfl (Sub.cons (t := 2) rfl (Sub.cons (t := 3) rfl (Sub.cons (t := 6) rfl (Sub.cons (t := 22) rfl (Sub.cons (t := 1000003) rfl (Sub.cons (t := 1000006) rfl Sub.nil))))))) ?_
  refine A.yes rfl ?_
  refine A.regs (by kernel_rfl) (by kernel_rfl) (.inl rfl) ?_
  refine RunTK.eff 1 (by decide) rfl (.inl rfl) ?_
  refine RunK.step rfl rfl (ok_lit [] ([.int .u32 0] ++ [.int .u64 0] ++ [.int .u32 0] ++ [.int .u32 0]) (fun _ _ => rfl) (by kernel_rfl)) ?_
  refine RunK.nil ?_
  refine ⟨_, eff_storeA (n := 35) (s := 1000006) (size46.of (rfl)) rfl rfl (rfl) hBb6 rfl (rfl) (LeftS.cons (t := 1) rfl (Surv.v _) (LeftS.cons (t := 2) rfl (Surv.v _) (LeftS.cons (t := 3) rfl (Surv.v _) (LeftS.cons (t := 6) rfl (Surv.v _) (LeftS.cons (t := 22) rfl (Surv.v _) (LeftS.cons (t := 25) rfl (Surv.v _) (LeftS.cons (t := 1000003) rfl (Surv.blkT (by decide)) LeftS.nil))))))), ?_⟩
  refine RunTK.last ?_
  refine RunK.step rfl rfl (ok_assign rfl) ?_
  refine RunK.nil ?_
  refine A.sub (Sub.cons (t := 6) rfl (Sub.cons (t := 7) rfl (Sub.cons (t := 1000003) rfl (Sub.cons (t := 1000006) rfl Sub.nil)))) ?_
  refine A.ret ?_
  refine End.ret_block ?_
  refine End.ret_then ?_
  exact End.cellT (s := 1000006) rfl Try.underlying46 rfl (size46.of (rfl)) rfl rfl (Le.v rfl) rfl (Le.refl _)
theorem Used_fn (s c o n : Nat) (h0 : 0 < n) (h : o + n ≤ 1048576) : Fn Try.prog 24 [.v (aggV ([.int .u32 ((s : Nat) : Int), .int .u64 ((c : Nat) : Int)])), .v (.int .i64 ((o : Nat) : Int)), .v (.int .i64 ((n : Nat) : Int))] (tup [.v (aggV ([.int .u32 ((s : Nat) : Int), .int .u64 ((c : Nat) : Int), .int .u32 ((o / 16 : Nat) : Int), .int .u32 (((o + n - 1) / 16 : Nat) : Int)])), .v (.int .i64 0)]) := by
  refine Fn.of Try.func24 rfl (by kernel_rfl) Try.ntmps24 (by simp) (fun w => [(0, .v (aggV ([.int .u32 ((s : Nat) : Int), .int .u64 ((c : Nat) : Int)]))), (1, .v (.int .i64 ((o : Nat) : Int))), (2, .v (.int .i64 ((n : Nat) : Int)))]) (fun w => (Start.v rfl (Start.v rfl (Start.v rfl Start.nil)))) fun w₀ => ?_
  refine A.regs (by kernel_rfl) (by kernel_rfl) (.inl rfl) ?_
  refine RunTK.new 0 (by decide) rfl (.inl rfl) ?_
  refine RunK.nil ?_
  refine ⟨_, _, eff_box (n := 35) (d := 3) (k := 1000003) rfl (by decide), fun b3 hb3 => ?_⟩
  have hBb3 := hb3.1
  refine RunTK.new 1 (by decide) rfl (.inl rfl) ?_
  refine RunK.nil ?_
  refine ⟨_, _, eff_alloc (n := 35) (d := 6) (k := 1000006) zero46 (by decide), fun b6 hb6 => ?_⟩
  have hBb6 := hb6.1
  have hlt_b3_b6 : b3 < b6 := hb6.2 1000003 _ _ _ rfl
  refine RunTK.last ?_
  refine RunK.step rfl rfl (ok_assign rfl) ?_
  refine RunK.nil ?_
  refine A.sub (Sub.cons (t := 1) rfl (Sub.cons (t := 2) rfl (Sub.cons (t := 3) rfl (Sub.cons (t := 6) rfl (Sub.cons (t := 1000003) rfl (Sub.cons (t := 1000006) rfl Sub.nil)))))) ?_
  refine A.seq ?_
  refine A.block ?_
  refine A.regs (by kernel_rfl) (by kernel_rfl) (.inl rfl) ?_
  refine RunTK.last ?_
  refine RunK.step rfl rfl (ok_move rfl) ?_
  refine RunK.step rfl rfl (ok_bin rfl rfl rfl) ?_; refine RunK.as (.bool false) (by simp) ?_
  refine RunK.step rfl rfl (ok_move rfl) ?_
  refine RunK.guarded rfl rfl rfl rfl (ok_move rfl) ?_
  refine RunK.guarded rfl rfl rfl rfl (ok_bin rfl rfl rfl) ?_; refine RunK.as (.bool false) (by simp) ?_
  refine RunK.step rfl rfl (ok_pick rfl rfl) ?_
  refine RunK.step rfl rfl (ok_assign rfl) ?_
  refine RunK.nil ?_
  refine A.sub (Sub.cons (t := 1) rfl (Sub.cons (t := 2) rfl (Sub.cons (t := 3) rfl (Sub.cons (t := 6) rfl (Sub.cons (t := 8) rfl (Sub.cons (t := 1000003) rfl (Sub.cons (t := 1000006) rfl Sub.nil))))))) ?_
  refine A.no rfl ?_
  refine A.regs (by kernel_rfl) (by kernel_rfl) (.inl rfl) ?_
  refine RunTK.last ?_
  refine RunK.step rfl rfl (ok_move rfl) ?_
  refine RunK.step rfl rfl (ok_move rfl) ?_
  refine RunK.step rfl rfl (ok_bin rfl rfl rfl) ?_; refine RunK.as (.int .i64 (1048576 - (o : Int))) (by rw [wrap_i64 (by omega) (by omega)]) ?_
  refine RunK.step rfl rfl (ok_bin rfl rfl rfl) ?_; refine RunK.as (.bool false) (by simp; omega) ?_
  refine RunK.step rfl rfl (ok_assign rfl) ?_
  refine RunK.nil ?_
  refine A.sub (Sub.cons (t := 1) rfl (Sub.cons (t := 2) rfl (Sub.cons (t := 3) rfl (Sub.cons (t := 6) rfl (Sub.cons (t := 16) rfl (Sub.cons (t := 1000003) rfl (Sub.cons (t := 1000006) rfl Sub.nil))))))) ?_
  refine A.no rfl ?_
  refine A.regs (by kernel_rfl) (by kernel_rfl) (.inl rfl) ?_
  refine RunTK.last ?_
  refine RunK.step rfl rfl (ok_move rfl) ?_
  refine RunK.step rfl rfl (ok_bin rfl rfl rfl) ?_; refine RunK.as (.bool false) (by simp; omega) ?_
  refine RunK.step rfl rfl (ok_assign rfl) ?_
  refine RunK.nil ?_
  refine A.sub (Sub.cons (t := 1) rfl (Sub.cons (t := 2) rfl (Sub.cons (t := 3) rfl (Sub.cons (t := 6) rfl (Sub.cons (t := 22) rfl (Sub.cons (t := 1000003) rfl (Sub.cons (t := 1000006) rfl Sub.nil))))))) ?_
  refine A.no rfl ?_
  refine A.skip ?_
  refine End.normal_block ?_
  refine End.normal_then (End.code ?_)
  refine A.regs (by kernel_rfl) (by kernel_rfl) (.inr (by kernel_rfl)) ?_
  refine RunTK.eff 9 (by decide) rfl (.inr (by kernel_rfl)) ?_
  refine RunK.step rfl rfl (ok_loadA (s := 1000003) (by decide) Try.underlying26 rfl (size26.of (rfl)) rfl rfl) ?_
  refine RunK.step rfl rfl (ok_move rfl) ?_
  refine RunK.step rfl rfl (ok_call (counterOf_fn o (by omega)) (Args.cons rfl (Le.refl _) Args.nil)) ?_
  refine RunK.step rfl rfl (ok_move rfl) ?_
  refine RunK.step rfl rfl (ok_move rfl) ?_
  refine RunK.step rfl rfl (ok_bin rfl rfl rfl) ?_; refine RunK.as (.int .i64 ((o + n : Nat) : Int)) (by rw [wrap_i64 (by omega) (by omega)]; exact congrArg (Value.int .i64) (by omega)) ?_
  refine RunK.step rfl rfl (ok_bin rfl rfl rfl) ?_; refine RunK.as (.int .i64 ((o + n - 1 : Nat) : Int)) (by rw [wrap_i64 (by omega) (by omega)]; exact congrArg (Value.int .i64) (by omega)) ?_
  refine RunK.step rfl rfl (ok_call (counterOf_fn (o + n - 1) (by omega)) (Args.cons rfl (Le.refl _) Args.nil)) ?_
  refine RunK.step rfl rfl (ok_litU [aggV [.int .u32 ((s : Nat) : Int), .int .u64 ((c : Nat) : Int)], .int .u32 ((o / 16 : Nat) : Int), .int .u32 (((o + n - 1) / 16 : Nat) : Int)] _ ⟨rfl, rfl, rfl, rfl, rfl, rfl, trivial⟩ (build46 s c (o / 16) ((o + n - 1) / 16))) ?_
  refine RunK.nil ?_
  refine ⟨_, eff_storeA (n := 35) (s := 1000006) (size46.of (rfl)) rfl rfl (rfl) hBb6 rfl (rfl) (LeftS.cons (t := 1) rfl (Surv.v _) (LeftS.cons (t := 2) rfl (Surv.v _) (LeftS.cons (t := 3) rfl (Surv.v _) (LeftS.cons (t := 6) rfl (Surv.v _) (LeftS.cons (t := 22) rfl (Surv.v _) (LeftS.cons (t := 26) rfl (Surv.v _) (LeftS.cons (t := 27) rfl (Surv.v _) (LeftS.cons (t := 28) rfl (Surv.v _) (LeftS.cons (t := 29) rfl (Surv.v _) (LeftS.cons (t := 30) rfl (Surv.v _) (LeftS.cons (t := 31) rfl (Surv.v _) (LeftS.cons (t := 32) rfl (Surv.v _) (LeftS.cons (t := 33) rfl (Surv.v _) (LeftS.cons (t := 34) rfl (Surv.v _) (LeftS.cons (t := 1000003) rfl (Surv.blkT (by decide)) LeftS.nil))))))))))))))), ?_⟩
  refine RunTK.last ?_
  refine RunK.step rfl rfl (ok_assign rfl) ?_
  refine RunK.nil ?_
  refine A.sub (Sub.cons (t := 6) rfl (Sub.cons (t := 7) rfl (Sub.cons (t := 1000003) rfl (Sub.cons (t := 1000006) rfl Sub.nil)))) ?_
  refine A.ret ?_
  exact End.cellT (s := 1000006) rfl Try.underlying46 rfl (size46.of (rfl)) rfl rfl (Le.refl _) rfl (Le.refl _)
theorem Over_A (s c f l s' c' f' l' : Nat) (he : ¬ (s = s' ∧ c = c')) : Fn Try.prog 17 [.v (aggV ([.int .u32 ((s : Nat) : Int), .int .u64 ((c : Nat) : Int), .int .u32 ((f : Nat) : Int), .int .u32 ((l : Nat) : Int)])), .v (aggV ([.int .u32 ((s' : Nat) : Int), .int .u64 ((c' : Nat) : Int), .int .u32 ((f' : Nat) : Int), .int .u32 ((l' : Nat) : Int)]))] (.v (.bool false)) := by
  refine Fn.of Try.func17 rfl (by kernel_rfl) Try.ntmps17 (by simp) (fun w => [(0, .v (aggV ([.int .u32 ((s : Nat) : Int), .int .u64 ((c : Nat) : Int), .int .u32 ((f : Nat) : Int), .int .u32 ((l : Nat) : Int)]))), (1, .v (aggV ([.int .u32 ((s' : Nat) : Int), .int .u64 ((c' : Nat) : Int), .int .u32 ((f' : Nat) : Int), .int .u32 ((l' : Nat) : Int)])))]) (fun w => (Start.v rfl (Start.v rfl Start.nil))) fun w₀ => ?_
  refine A.regs (by kernel_rfl) (by kernel_rfl) (.inl rfl) ?_
  refine RunTK.new 0 (by decide) rfl (.inl rfl) ?_
  refine RunK.nil ?_
  refine ⟨_, _, eff_box (n := 23) (d := 2) (k := 1000002) rfl (by decide), fun b2 hb2 => ?_⟩
  have hBb2 := hb2.1
  refine RunTK.new 1 (by decide) rfl (.inl rfl) ?_
  refine RunK.nil ?_
  refine ⟨_, _, eff_box (n := 23) (d := 3) (k := 1000003) rfl (by decide), fun b3 hb3 => ?_⟩
  have hBb3 := hb3.1
  have hlt_b2_b3 : b2 < b3 := hb3.2 1000002 _ _ _ rfl
  refine RunTK.last ?_
  refine RunK.step rfl rfl (ok_assign rfl) ?_
  refine RunK.nil ?_
  refine A.sub (Sub.cons (t := 2) rfl (Sub.cons (t := 3) rfl (Sub.cons (t := 1000002) rfl (Sub.cons (t := 1000003) rfl Sub.nil)))) ?_
  refine A.regs (by kernel_rfl) (by kernel_rfl) (.inl rfl) ?_
  refine RunTK.last ?_
  refine RunK.step rfl rfl (ok_field field46_0 (by decide) rfl) ?_
  refine RunK.step rfl rfl (ok_loadP (s := 1000002) (by decide) Try.underlying26 rfl size26 rfl rfl (by simp) (rfl)) ?_
  refine RunK.step rfl rfl (ok_field field46_0 (by decide) rfl) ?_
  refine RunK.step rfl rfl (ok_loadP (s := 1000003) (by decide) Try.underlying26 rfl size26 rfl rfl (by simp) (rfl)) ?_
  refine RunK.step rfl rfl (ok_eqlT (n := 3) (decide (s = s' ∧ c = c')) flat26 (by decide) (by kernel_rfl) (by kernel_rfl) rfl rfl (kinN _ _) (kinN _ _) eqN) ?_; refine RunK.as (.bool false) (by simp [he]) ?_
  refine RunK.step rfl rfl (ok_move rfl) ?_
  refine RunK.skipped rfl rfl rfl rfl rfl ?_
  refine RunK.skipped rfl rfl rfl rfl rfl ?_
  refine RunK.skipped rfl rfl rfl rfl rfl ?_
  refine RunK.skipped rfl rfl rfl rfl rfl ?_
  refine RunK.skipped rfl rfl rfl rfl rfl ?_
  refine RunK.skipped rfl rfl rfl rfl rfl ?_
  refine RunK.skipped rfl rfl rfl rfl rfl ?_
  refine RunK.skipped rfl rfl rfl rfl rfl ?_
  refine RunK.skipped rfl rfl rfl rfl rfl ?_
  refine RunK.skipped rfl rfl rfl rfl rfl ?_
  refine RunK.skipped rfl rfl rfl rfl rfl ?_
  refine RunK.step rfl rfl (ok_pick rfl rfl) ?_
  refine RunK.step rfl rfl (ok_assign rfl) ?_
  refine RunK.nil ?_
  refine A.sub (Sub.cons (t := 4) rfl (Sub.cons (t := 1000002) rfl (Sub.cons (t := 1000003) rfl Sub.nil))) ?_
  refine A.ret ?_
  exact End.ret1 rfl rfl (by first | exact Le.refl _ | exact Le.old _ _)
theorem Over_B (s c f l s' c' f' l' : Nat) (he : s = s' ∧ c = c') : Fn Try.prog 17 [.v (aggV ([.int .u32 ((s : Nat) : Int), .int .u64 ((c : Nat) : Int), .int .u32 ((f : Nat) : Int), .int .u32 ((l : Nat) : Int)])), .v (aggV ([.int .u32 ((s' : Nat) : Int), .int .u64 ((c' : Nat) : Int), .int .u32 ((f' : Nat) : Int), .int .u32 ((l' : Nat) : Int)]))] (.v (.bool (decide (max f f' ≤ min l l')))) := by
  refine Fn.of Try.func17 rfl (by kernel_rfl) Try.ntmps17 (by simp) (fun w => [(0, .v (aggV ([.int .u32 ((s : Nat) : Int), .int .u64 ((c : Nat) : Int), .int .u32 ((f : Nat) : Int), .int .u32 ((l : Nat) : Int)]))), (1, .v (aggV ([.int .u32 ((s' : Nat) : Int), .int .u64 ((c' : Nat) : Int), .int .u32 ((f' : Nat) : Int), .int .u32 ((l' : Nat) : Int)])))]) (fun w => (Start.v rfl (Start.v rfl Start.nil))) fun w₀ => ?_
  refine A.regs (by kernel_rfl) (by kernel_rfl) (.inl rfl) ?_
  refine RunTK.new 0 (by decide) rfl (.inl rfl) ?_
  refine RunK.nil ?_
  refine ⟨_, _, eff_box (n := 23) (d := 2) (k := 1000002) rfl (by decide), fun b2 hb2 => ?_⟩
  have hBb2 := hb2.1
  refine RunTK.new 1 (by decide) rfl (.inl rfl) ?_
  refine RunK.nil ?_
  refine ⟨_, _, eff_box (n := 23) (d := 3) (k := 1000003) rfl (by decide), fun b3 hb3 => ?_⟩
  have hBb3 := hb3.1
  have hlt_b2_b3 : b2 < b3 := hb3.2 1000002 _ _ _ rfl
  refine RunTK.last ?_
  refine RunK.step rfl rfl (ok_assign rfl) ?_
  refine RunK.nil ?_
  refine A.sub (Sub.cons (t := 2) rfl (Sub.cons (t := 3) rfl (Sub.cons (t := 1000002) rfl (Sub.cons (t := 1000003) rfl Sub.nil)))) ?_
  refine A.regs (by kernel_rfl) (by kernel_rfl) (.inl rfl) ?_
  refine RunTK.last ?_
  refine RunK.step rfl rfl (ok_field field46_0 (by decide) rfl) ?_
  refine RunK.step rfl rfl (ok_loadP (s := 1000002) (by decide) Try.underlying26 rfl size26 rfl rfl (by simp) (rfl)) ?_
  refine RunK.step rfl rfl (ok_field field46_0 (by decide) rfl) ?_
  refine RunK.step rfl rfl (ok_loadP (s := 1000003) (by decide) Try.underlying26 rfl size26 rfl rfl (by simp) (rfl)) ?_
  refine RunK.step rfl rfl (ok_eqlT (n := 3) (decide (s = s' ∧ c = c')) flat26 (by decide) (by kernel_rfl) (by kernel_rfl) rfl rfl (kinN _ _) (kinN _ _) eqN) ?_; refine RunK.as (.bool true) (by simp [he]) ?_
  refine RunK.step rfl rfl (ok_move rfl) ?_
  refine RunK.guarded rfl rfl rfl rfl (ok_field field46_1 (by decide) rfl) ?_
  refine RunK.guarded rfl rfl rfl rfl (ok_loadV (s := 1000002) (by decide) Try.underlying23 rfl rfl rfl (rfl)) ?_
  refine RunK.guarded rfl rfl rfl rfl (ok_field field46_1 (by decide) rfl) ?_
  refine RunK.guarded rfl rfl rfl rfl (ok_loadV (s := 1000003) (by decide) Try.underlying23 rfl rfl rfl (rfl)) ?_
  refine RunK.guarded rfl rfl rfl rfl (ok_maxI rfl rfl) ?_
  refine RunK.guarded rfl rfl rfl rfl (ok_field field46_2 (by decide) rfl) ?_
  refine RunK.guarded rfl rfl rfl rfl (ok_loadV (s := 1000002) (by decide) Try.underlying23 rfl rfl rfl (rfl)) ?_
  refine RunK.guarded rfl rfl rfl rfl (ok_field field46_2 (by decide) rfl) ?_
  refine RunK.guarded rfl rfl rfl rfl (ok_loadV (s := 1000003) (by decide) Try.underlying23 rfl rfl rfl (rfl)) ?_
  refine RunK.guarded rfl rfl rfl rfl (ok_minI rfl rfl) ?_
  refine RunK.guarded rfl rfl rfl rfl (ok_bin rfl rfl rfl) ?_; refine RunK.as (.bool (decide (max f f' ≤ min l l'))) (congrArg Value.bool (decide_eq_decide.2 (by omega))) ?_
  refine RunK.step rfl rfl (ok_pick rfl rfl) ?_
  refine RunK.step rfl rfl (ok_assign rfl) ?_
  refine RunK.nil ?_
  refine A.sub (Sub.cons (t := 4) rfl (Sub.cons (t := 1000002) rfl (Sub.cons (t := 1000003) rfl Sub.nil))) ?_
  refine A.ret ?_
  exact End.ret1 rfl rfl (by first | exact Le.refl _ | exact Le.old _ _)
theorem Overlap_fn (s c f l s' c' f' l' : Nat) : Fn Try.prog 17 [.v (aggV ([.int .u32 ((s : Nat) : Int), .int .u64 ((c : Nat) : Int), .int .u32 ((f : Nat) : Int), .int .u32 ((l : Nat) : Int)])), .v (aggV ([.int .u32 ((s' : Nat) : Int), .int .u64 ((c' : Nat) : Int), .int .u32 ((f' : Nat) : Int), .int .u32 ((l' : Nat) : Int)]))] (.v (.bool (overB s c f l s' c' f' l'))) := by
  by_cases he : s = s' ∧ c = c'
  · rw [show overB s c f l s' c' f' l' = decide (max f f' ≤ min l l') from by simp [overB, he]]; exact Over_B _ _ _ _ _ _ _ _ he
  · rw [show overB s c f l s' c' f' l' = false from by simp [overB, he]]; exact Over_A _ _ _ _ _ _ _ _ he
set_option maxHeartbeats 1000000 in
theorem combine_fnWR (g h o p n : Nat) (F G S : Nat → Nat) (hF : ∀ i, F i < 256) (hS : ∀ i, S i < 256) (ho : o ≤ n) (hn : n ≤ 1048576) (hp : p ≤ 16) (hG : ∀ j, j < (min (n - o) (16 - p)) → F (o + j) ^^^ S (p + j) = G (o + j)) : FnWR Try.prog 26 [(1000070, blk h 22 (rowV 16 S))] 5 g (rowV n (mid F G o)) (rowV n (mid F G (o + (min (n - o) (16 - p))))) ([.slice (some ⟨g, o, none⟩) (n - o) (n - o), .slice (some ⟨h, p, none⟩) (16 - p) (16 - p)].map D.v) (.slice (some ⟨g, if n - o = (min (n - o) (16 - p)) then o else o + (min (n - o) (16 - p)), none⟩) (n - o - (min (n - o) (16 - p))) (n - o - (min (n - o) (16 - p)))) := by
  refine FnWR.of (n := 30) (kb := 1000080) (kw := 1000081) Try.func26 rfl (by kernel_rfl) Try.ntmps26 (by simp) (by decide) (fun p hp => by simp only [List.mem_cons, List.not_mem_nil, or_false] at hp; rcases hp with rfl; exact vle rfl) (by decide) (by decide) [(0, .v (.slice (some ⟨g, o, none⟩) (n - o) (n - o))), (1, .v (.slice (some ⟨h, p, none⟩) (16 - p) (16 - p)))]
    (fun p hp => by simp only [List.mem_cons, List.not_mem_nil, or_false] at hp; rcases hp with rfl | rfl <;> exact ⟨_, rfl, rfl⟩) fun w₀ w₁ hw => ?_
  have hBg : w₀.heap.size ≤ g := Nat.le_of_eq hw
  refine A.regs (by kernel_rfl) (by kernel_rfl) (.inl rfl) ?_
  refine RunTK.last ?_
  refine RunK.step rfl rfl (ok_assign rfl) ?_
  refine RunK.nil ?_
  refine A.sub (Sub.cons (t := 0) rfl (Sub.cons (t := 1) rfl (Sub.cons (t := 1000070) rfl (Sub.cons (t := 1000080) rfl (Sub.cons (t := 1000081) rfl Sub.nil))))) ?_
  refine A.regs (by kernel_rfl) (by kernel_rfl) (.inl rfl) ?_
  refine RunTK.last ?_
  refine RunK.step rfl rfl (ok_move rfl) ?_
  refine RunK.step rfl rfl (ok_lenV Try.underlying32 rfl) ?_
  refine RunK.step rfl rfl (ok_move rfl) ?_
  refine RunK.step rfl rfl (ok_lenV Try.underlying32 rfl) ?_
  refine RunK.step rfl rfl (ok_min rfl rfl) ?_; refine RunK.as (.int .i64 (((min (n - o) (16 - p)) : Nat) : Int)) (congrArg (Value.int .i64) (by omega)) ?_
  refine RunK.step rfl rfl (ok_assign rfl) ?_
  refine RunK.nil ?_
  refine A.sub (Sub.cons (t := 0) rfl (Sub.cons (t := 1) rfl (Sub.cons (t := 5) rfl (Sub.cons (t := 1000070) rfl (Sub.cons (t := 1000080) rfl (Sub.cons (t := 1000081) rfl Sub.nil)))))) ?_
  refine A.seq ?_
  refine A.regs (by kernel_rfl) (by kernel_rfl) (.inl rfl) ?_
  refine RunTK.last ?_
  refine RunK.step rfl rfl (ok_move rfl) ?_
  refine RunK.step rfl rfl (ok_move rfl) ?_
  refine RunK.nil ?_
  refine A.sub (Sub.cons (t := 0) rfl (Sub.cons (t := 1) rfl (Sub.cons (t := 5) rfl (Sub.cons (t := 12) rfl (Sub.cons (t := 13) rfl (Sub.cons (t := 1000070) rfl (Sub.cons (t := 1000080) rfl (Sub.cons (t := 1000081) rfl Sub.nil)))))))) ?_
  refine A.block ?_
  refine A.loop (ι := Nat) (fun i => i ≤ (min (n - o) (16 - p))) (fun i => [(0, .v (.slice (some ⟨g, o, none⟩) (n - o) (n - o))), (1, .v (.slice (some ⟨h, p, none⟩) (16 - p) (16 - p))), (5, .v (.int .i64 (((min (n - o) (16 - p)) : Nat) : Int))), (12, .v (.int .i64 (((min (n - o) (16 - p)) : Nat) : Int))), (13, .v (.int .i64 ((i : Nat) : Int))), (1000080, blk g 5 (rowV n (mid F G (o + i)))), (1000070, blk h 22 (rowV 16 S)), (1000081, wroteD 5 g w₁)]) (fun i => (min (n - o) (16 - p)) - i) 0 ?_ ?_ ?_
  · exact Nat.zero_le _
  · exact (Sub.cons (t := 0) rfl (Sub.cons (t := 1) rfl (Sub.cons (t := 5) rfl (Sub.cons (t := 12) rfl (Sub.cons (t := 13) rfl (Sub.cons (t := 1000080) rfl (Sub.cons (t := 1000070) rfl (Sub.cons (t := 1000081) rfl Sub.nil))))))))
  intro i hi'
  refine A.regs (by kernel_rfl) (by kernel_rfl) (.inl rfl) ?_
  refine RunTK.last ?_
  refine RunK.step rfl rfl (ok_bin rfl rfl rfl) ?_
  refine RunK.nil ?_
  refine A.sub (Sub.cons (t := 0) rfl (Sub.cons (t := 1) rfl (Sub.cons (t := 5) rfl (Sub.cons (t := 12) rfl (Sub.cons (t := 13) rfl (Sub.cons (t := 14) rfl (Sub.cons (t := 1000070) rfl (Sub.cons (t := 1000080) rfl (Sub.cons (t := 1000081) rfl Sub.nil))))))))) ?_
  refine A.seq ?_
  refine A.cond rfl (fun hc14 => ?_) (fun hc14 => ?_)
  · have hi : i < (min (n - o) (16 - p)) := by simp at hc14; omega
    refine A.skip ?_
    refine End.normal_then (End.code ?_)
    refine A.seq ?_
    refine A.block ?_
    refine A.regs (by kernel_rfl) (by kernel_rfl) (.inl rfl) ?_
    refine RunTK.last ?_
    refine RunK.step rfl rfl (ok_move rfl) ?_
    refine RunK.step rfl rfl (ok_assign rfl) ?_
    refine RunK.nil ?_
    refine A.sub (Sub.cons (t := 0) rfl (Sub.cons (t := 1) rfl (Sub.cons (t := 5) rfl (Sub.cons (t := 6) rfl (Sub.cons (t := 12) rfl (Sub.cons (t := 13) rfl (Sub.cons (t := 1000070) rfl (Sub.cons (t := 1000080) rfl (Sub.cons (t := 1000081) rfl Sub.nil))))))))) ?_
    refine A.reg (by kernel_rfl) (by kernel_rfl) (.inr (by kernel_rfl)) ?_
    refine RunTK.eff 10 (by decide) rfl (.inr (by kernel_rfl)) ?_
    refine RunK.step rfl rfl (ok_move rfl) ?_
    refine RunK.step rfl rfl (ok_move rfl) ?_
    refine RunK.step rfl rfl (ok_indexV i Try.underlying32 info5 rfl rfl rfl (by omega)) ?_
    refine RunK.step rfl rfl (ok_loadV (s := 1000080) (by decide) Try.underlying5 rfl rfl rfl (rowV_get (by omega))) ?_; refine RunK.as (.int .u8 ((F (o + i) : Nat) : Int)) (v8 (mid_at F G _)) ?_
    refine RunK.step rfl rfl (ok_move rfl) ?_
    refine RunK.step rfl rfl (ok_move rfl) ?_
    refine RunK.step rfl rfl (ok_indexV i Try.underlying32 info5 rfl rfl rfl (by omega)) ?_
    refine RunK.step rfl rfl (ok_loadV (s := 1000070) (by decide) Try.underlying5 rfl rfl rfl (rowV_get (by omega))) ?_; refine RunK.as (.int .u8 ((S (p + i) : Nat) : Int)) (v8 (by rfl)) ?_
    refine RunK.step rfl rfl (ok_bin rfl rfl rfl) ?_; refine RunK.as (.int .u8 ((G (o + i) : Nat) : Int)) (by rw [show IntKind.u8.bits = 8 from rfl, xor_u8N (hF _) (hS _), hG i hi]) ?_
    refine RunK.step rfl rfl (ok_indexV i Try.underlying32 info5 rfl rfl rfl (by omega)) ?_
    refine RunK.nil ?_
    refine ⟨_, eff_storeS (n := 30) (s := 1000080) info5 rfl rfl rfl hBg rfl (by simp only [rowV_length]; omega) (LeftS.cons (t := 0) rfl (Surv.v _) (LeftS.cons (t := 1) rfl (Surv.v _) (LeftS.cons (t := 5) rfl (Surv.v _) (LeftS.cons (t := 6) rfl (Surv.v _) (LeftS.cons (t := 12) rfl (Surv.v _) (LeftS.cons (t := 13) rfl (Surv.v _) (LeftS.cons (t := 16) rfl (Surv.v _) (LeftS.cons (t := 17) rfl (Surv.v _) (LeftS.cons (t := 18) rfl (Surv.v _) (LeftS.cons (t := 19) rfl (Surv.v _) (LeftS.cons (t := 20) rfl (Surv.v _) (LeftS.cons (t := 21) rfl (Surv.v _) (LeftS.cons (t := 22) rfl (Surv.v _) (LeftS.cons (t := 23) rfl (Surv.v _) (LeftS.cons (t := 24) rfl (Surv.v _) (LeftS.cons (t := 25) rfl (Surv.v _) (LeftS.cons (t := 1000070) rfl (Surv.blkT (by decide)) (LeftS.cons (t := 1000081) rfl (Surv.wrote) LeftS.nil)))))))))))))))))), ?_⟩
    refine RunTK.last ?_
    refine RunK.nil ?_
    refine End.sub (Sub.cons (t := 0) rfl (Sub.cons (t := 1) rfl (Sub.cons (t := 5) rfl (Sub.cons (t := 12) rfl (Sub.cons (t := 13) rfl (Sub.cons (t := 1000070) rfl (Sub.cons (t := 1000080) rfl (Sub.cons (t := 1000081) rfl Sub.nil)))))))) ?_
    refine End.normal_block ?_
    refine End.normal_then (End.code ?_)
    refine A.reg (by kernel_rfl) (by kernel_rfl) (.inl rfl) ?_
    refine RunTK.last ?_
    refine RunK.step rfl rfl (ok_bin rfl rfl rfl) ?_; refine RunK.as (.int .i64 ((i + 1 : Nat) : Int)) (by rw [wrap_i64 (by omega) (by omega)]; exact congrArg (Value.int .i64) (by omega)) ?_
    refine RunK.step rfl rfl (ok_move rfl) ?_
    refine RunK.nil ?_
    refine End.sub (Sub.cons (t := 0) rfl (Sub.cons (t := 1) rfl (Sub.cons (t := 5) rfl (Sub.cons (t := 12) rfl (Sub.cons (t := 13) rfl (Sub.cons (t := 1000070) rfl (Sub.cons (t := 1000080) rfl (Sub.cons (t := 1000081) rfl Sub.nil)))))))) ?_
    refine End.normal_then ?_
    refine End.again (i + 1) ?_ ?_ ?_
    · show _ ≤ _; omega
    · show _ - _ < _ - _; omega
    · exact (Sub.cons (t := 0) rfl (Sub.cons (t := 1) rfl (Sub.cons (t := 5) rfl (Sub.cons (t := 12) rfl (Sub.cons (t := 13) rfl (Sub.eq (t := 1000080) _ rfl (congrArg _ (mid_set rfl rfl)) (Sub.cons (t := 1000070) rfl (Sub.cons (t := 1000081) rfl Sub.nil))))))))
  · have hi2 : i = (min (n - o) (16 - p)) := by simp at hc14; omega
    refine A.exit ?_
    refine End.exit_then ?_
    refine End.exit_then ?_
    refine End.exit_here ?_
    refine End.normal_then (End.code ?_)
    refine A.regs (by kernel_rfl) (by kernel_rfl) (.inl rfl) ?_
    refine RunTK.last ?_
    refine RunK.step rfl rfl (ok_move rfl) ?_
    refine RunK.step rfl rfl (ok_move rfl) ?_
    refine RunK.step rfl rfl (ok_sliceE (l := (min (n - o) (16 - p))) (h := n - o) (m := n - o) Try.underlying32 info5 rfl (.inl ⟨_, _, rfl, rfl⟩) (.inr ⟨rfl, rfl, rfl⟩) (.inr ⟨rfl, rfl⟩) (by omega) (Nat.le_refl _) (Nat.le_refl _)) ?_
    refine RunK.step rfl rfl (ok_assign rfl) ?_
    refine RunK.nil ?_
    refine A.sub (Sub.cons (t := 4) rfl (Sub.cons (t := 1000070) rfl (Sub.cons (t := 1000080) rfl (Sub.cons (t := 1000081) rfl Sub.nil)))) ?_
    refine A.ret ?_
    exact End.wroteR (kb := 1000080) (kw := 1000081) (.inl rfl) rfl rfl rfl (by rw [hi2]) rfl
theorem blocks_fnB (k : Nat → Nat) (s c f l : Nat) : FnB Try.prog 25 [.v (aggV (rowV 16 (k))), .v (aggV ([.int .u32 ((s : Nat) : Int), .int .u64 ((c : Nat) : Int), .int .u32 ((f : Nat) : Int), .int .u32 ((l : Nat) : Int)]))] (fun B => closR B 41 22 (rowV 16 k) 46 [.int .u32 ((s : Nat) : Int), .int .u64 ((c : Nat) : Int), .int .u32 ((f : Nat) : Int), .int .u32 ((l : Nat) : Int)]) := by
  refine FnB.of Try.func25 rfl (by kernel_rfl) Try.ntmps25 (by simp) (fun w => [(0, .v (aggV (rowV 16 (k)))), (1, .v (aggV ([.int .u32 ((s : Nat) : Int), .int .u64 ((c : Nat) : Int), .int .u32 ((f : Nat) : Int), .int .u32 ((l : Nat) : Int)])))]) (fun w => (Start.v rfl (Start.v rfl Start.nil))) fun w₀ => ?_
  refine A.regs (by kernel_rfl) (by kernel_rfl) (.inl rfl) ?_
  refine RunTK.new 0 (by decide) rfl (.inl rfl) ?_
  refine RunK.nil ?_
  refine ⟨_, _, eff_box (n := 6) (d := 2) (k := 1000002) rfl (by decide), fun b2 hb2 => ?_⟩
  have hBb2 := hb2.1
  refine RunTK.new 1 (by decide) rfl (.inl rfl) ?_
  refine RunK.nil ?_
  refine ⟨_, _, eff_box (n := 6) (d := 3) (k := 1000003) rfl (by decide), fun b3 hb3 => ?_⟩
  have hBb3 := hb3.1
  have hlt_b2_b3 : b2 < b3 := hb3.2 1000002 _ _ _ rfl
  refine RunTK.last ?_
  refine RunK.step rfl rfl (ok_assign rfl) ?_
  refine RunK.nil ?_
  refine A.sub (Sub.cons (t := 2) rfl (Sub.cons (t := 3) rfl (Sub.cons (t := 1000002) rfl (Sub.cons (t := 1000003) rfl Sub.nil)))) ?_
  refine A.regs (by kernel_rfl) (by kernel_rfl) (.inl rfl) ?_
  refine RunTK.last ?_
  refine RunK.step rfl rfl (ok_makeFuncN [ptr b2, ptr b3] ⟨rfl, rfl, trivial⟩) ?_
  refine RunK.step rfl rfl (ok_assign rfl) ?_
  refine RunK.nil ?_
  refine A.sub (Sub.cons (t := 4) rfl (Sub.cons (t := 1000002) rfl (Sub.cons (t := 1000003) rfl Sub.nil))) ?_
  refine A.ret ?_
  exact End.closR (.inl rfl) rfl hBb2 hBb3 (by omega) rfl (k₁ := 1000002) (k₂ := 1000003) rfl rfl
set_option maxHeartbeats 1000000 in
theorem blocks1_seq {w₀ : World} {N y p q : Nat} {J : Nat → World → Prop} {k : Nat → Nat} (hk : By k) {s c f t : Nat} (hs : s < 4294967296) (hc : c < 18446744073709551616) (hN : f + N = t + 1) (ht : t < 4294967296)
    (hq : SeqsX Try.prog w₀ N y (fun i => .v (aggV (rowV 16 (ksB k s c (f + i))))) (fun _ => [(1000091, blk p 22 (rowV 16 k)), (1000092, blk q 46 [.int .u32 ((s : Nat) : Int), .int .u64 ((c : Nat) : Int), .int .u32 ((f : Nat) : Int), .int .u32 ((t : Nat) : Int)])]) J (fun z : Nat × List Value => [(1000004, blk z.1 50 z.2)])) {w : World} (h0 : J 0 w) :
    Calls Try.prog 41 (.func (.yield y) #[] #[] :: [ptr p, ptr q] : List Value).toArray w fun e W => (∃ v, e = .returned v) ∧ J N W := by
  obtain ⟨hb, hz, hV⟩ := hq.holds 0 w h0
  refine Calls.within (n := 28) (E := [(0, .v (.func (.yield y) #[] #[])), (1, .v (ptr p)), (2, .v (ptr q)), (1000090, jD (J 0)), (1000091, blk p 22 (rowV 16 k)), (1000092, blk q 46 [.int .u32 ((s : Nat) : Int), .int .u64 ((c : Nat) : Int), .int .u32 ((f : Nat) : Int), .int .u32 ((t : Nat) : Int)])]) Try.func41 rfl Try.ntmps41 (by simp) (by decide) hb hz ?_ ?_
  · intro x hx
    simp only [List.mem_cons, List.not_mem_nil, or_false] at hx
    rcases hx with rfl | rfl | rfl | rfl | rfl | rfl
    · exact .inr ⟨_, rfl, rfl⟩
    · exact .inr ⟨_, rfl, rfl⟩
    · exact .inr ⟨_, rfl, rfl⟩
    · exact .inl ⟨vle rfl, jD_mk h0⟩
    · exact .inl ⟨vle rfl, hV _ (by simp)⟩
    · exact .inl ⟨vle rfl, hV _ (by simp)⟩
  refine A.regsH _ (fun B => (OldH.same (t := 0) rfl (OldH.same (t := 1) rfl (OldH.same (t := 2) rfl (OldH.p (t := 1000090) rfl (OldH.same (t := 1000091) rfl (OldH.same (t := 1000092) rfl OldH.nil))))))) (by kernel_rfl) (by kernel_rfl) (.inl rfl) (fun B hB => ?_)
  refine RunTK.new 2 (by decide) rfl (.inl rfl) ?_
  refine RunK.step rfl rfl (ok_loadA (s := 1000091) (by decide) Try.underlying22 rfl (size22.of (rowV_length _ _)) rfl rfl) ?_
  refine RunK.step rfl rfl (ok_call (Expand_fn k hk) (Args.cons rfl (Le.refl _) Args.nil)) ?_
  refine RunK.nil ?_
  refine ⟨_, _, eff_alloc (n := 28) (d := 4) (k := 1000004) zero50 (by decide), fun b4 hb4 => ?_⟩
  have hBb4 := hb4.1
  have hlt_p_b4 : p < b4 := hb4.2 1000091 _ _ _ rfl
  have hlt_q_b4 : q < b4 := hb4.2 1000092 _ _ _ rfl
  refine RunTK.eff 3 (by decide) rfl (.inl rfl) ?_
  refine RunK.nil ?_
  refine ⟨_, eff_storeA (n := 28) (s := 1000004) (size50.of (rowV_length _ _)) rfl rfl (rowV_one _ _) hBb4 rfl (by first | (simp only [rowV_length]; done) | simp only [rowV_length, List.length_replicate]) (LeftS.cons (t := 0) rfl (Surv.v _) (LeftS.cons (t := 1) rfl (Surv.v _) (LeftS.cons (t := 2) rfl (Surv.v _) (LeftS.cons (t := 4) rfl (Surv.v _) (LeftS.cons (t := 6) rfl (Surv.v _) (LeftS.cons (t := 7) rfl (Surv.v _) (LeftS.cons (t := 1000090) rfl (Surv.old (by omega)) (LeftS.cons (t := 1000091) rfl (Surv.blkT (by decide)) (LeftS.cons (t := 1000092) rfl (Surv.blkT (by decide)) LeftS.nil))))))))), ?_⟩
  refine RunTK.last ?_
  refine RunK.nil ?_
  refine A.sub (Sub.cons (t := 0) rfl (Sub.cons (t := 2) rfl (Sub.cons (t := 4) rfl (Sub.cons (t := 1000004) rfl (Sub.cons (t := 1000090) rfl (Sub.cons (t := 1000091) rfl (Sub.cons (t := 1000092) rfl Sub.nil))))))) ?_
  refine A.subL (SubL.cons (t := 0) rfl (Le.refl _) (SubL.cons (t := 2) rfl (Le.refl _) (SubL.cons (t := 4) rfl (Le.refl _) (SubL.cons (t := 1000004) rfl (Le.refl _) (SubL.cons (t := 1000090) rfl (Le.old _ _) (SubL.cons (t := 1000091) rfl (Le.refl _) (SubL.cons (t := 1000092) rfl (Le.refl _) SubL.nil))))))) ?_
  refine A.regs (by kernel_rfl) (by kernel_rfl) (.inl rfl) ?_
  refine RunTK.last ?_
  refine RunK.step rfl rfl (ok_field field46_1 (by decide) rfl) ?_
  refine RunK.step rfl rfl (ok_loadV (s := 1000092) (by decide) Try.underlying23 rfl rfl rfl (rfl)) ?_
  refine RunK.step rfl rfl (ok_conv Try.underlying23 Try.underlying24 rfl) ?_; refine RunK.as (.int .u64 ((f : Nat) : Int)) (by rw [wrapN_u64 (by omega)]) ?_
  refine RunK.step rfl rfl (ok_assign rfl) ?_
  refine RunK.nil ?_
  refine A.sub (Sub.cons (t := 0) rfl (Sub.cons (t := 2) rfl (Sub.cons (t := 4) rfl (Sub.cons (t := 5) rfl (Sub.cons (t := 1000004) rfl (Sub.cons (t := 1000090) rfl (Sub.cons (t := 1000091) rfl (Sub.cons (t := 1000092) rfl Sub.nil)))))))) ?_
  refine A.block ?_
  refine A.loop (ι := Nat) (fun i => i ≤ N) (fun i => [(0, .v (.func (.yield y) #[] #[])), (2, .v (ptr q)), (4, .v (.pointer (some ⟨b4, 0, none⟩))), (5, .v (.int .u64 ((f + i : Nat) : Int))), (1000090, jD (J i)), (1000091, blk p 22 (rowV 16 k)), (1000092, blk q 46 [.int .u32 ((s : Nat) : Int), .int .u64 ((c : Nat) : Int), .int .u32 ((f : Nat) : Int), .int .u32 ((t : Nat) : Int)]), (1000004, blk b4 50 (rowV 176 (expand k)))]) (fun i => N - i) 0 ?_ ?_ ?_
  · exact Nat.zero_le _
  · exact (Sub.cons (t := 0) rfl (Sub.cons (t := 2) rfl (Sub.cons (t := 4) rfl (Sub.eq (t := 5) _ rfl (by rfl) (Sub.cons (t := 1000090) rfl (Sub.cons (t := 1000091) rfl (Sub.cons (t := 1000092) rfl (Sub.cons (t := 1000004) rfl Sub.nil))))))))
  intro i hi'
  refine A.seq ?_
  refine A.regs (by kernel_rfl) (by kernel_rfl) (.inl rfl) ?_
  refine RunTK.last ?_
  refine RunK.step rfl rfl (ok_move rfl) ?_
  refine RunK.step rfl rfl (ok_field field46_2 (by decide) rfl) ?_
  refine RunK.step rfl rfl (ok_loadV (s := 1000092) (by decide) Try.underlying23 rfl rfl rfl (rfl)) ?_
  refine RunK.step rfl rfl (ok_conv Try.underlying23 Try.underlying24 rfl) ?_; refine RunK.as (.int .u64 ((t : Nat) : Int)) (by rw [wrapN_u64 (by omega)]) ?_
  refine RunK.step rfl rfl (ok_bin rfl rfl rfl) ?_
  refine RunK.nil ?_
  refine A.sub (Sub.cons (t := 0) rfl (Sub.cons (t := 2) rfl (Sub.cons (t := 4) rfl (Sub.cons (t := 5) rfl (Sub.cons (t := 15) rfl (Sub.cons (t := 1000004) rfl (Sub.cons (t := 1000090) rfl (Sub.cons (t := 1000091) rfl (Sub.cons (t := 1000092) rfl Sub.nil))))))))) ?_
  refine A.cond rfl (fun hc15 => ?_) (fun hc15 => ?_)
  · have hlt : i < N := by simp at hc15; omega
    refine A.skip ?_
    refine End.normal_then (End.code ?_)
    refine A.seq ?_
    refine A.block ?_
    refine A.regs (by kernel_rfl) (by kernel_rfl) (.inr (by kernel_rfl)) ?_
    refine RunTK.eff 8 (by decide) rfl (.inr (by kernel_rfl)) ?_
    refine RunK.step rfl rfl (ok_move rfl) ?_
    refine RunK.step rfl rfl (ok_loadA (s := 1000004) (by decide) Try.underlying50 rfl (size50.of (rowV_length _ _)) rfl rfl) ?_
    refine RunK.step rfl rfl (ok_field field46_0 (by decide) rfl) ?_
    refine RunK.step rfl rfl (ok_loadP (s := 1000092) (by decide) Try.underlying26 rfl size26 rfl rfl (by simp) (rfl)) ?_
    refine RunK.step rfl rfl (ok_move rfl) ?_
    refine RunK.step rfl rfl (ok_conv Try.underlying24 Try.underlying23 rfl) ?_; refine RunK.as (.int .u32 ((f + i : Nat) : Int)) (by rw [wrapN_u32 (by omega)]) ?_
    refine RunK.step rfl rfl (ok_call (counterBlock_fn s c (f + i) hs hc (by omega)) (Args.cons rfl (Le.refl _) (Args.cons rfl (Le.refl _) Args.nil))) ?_
    refine RunK.step rfl rfl (ok_call (Encrypt_fn (expand k) (byL (ctrL s c (f + i))) (expand_lt hk) (byL_lt _)) (Args.cons rfl (Le.refl _) (Args.cons rfl (Le.refl _) Args.nil))) ?_; refine RunK.as (aggV (rowV 16 (ksB k s c (f + i)))) (rfl) ?_
    refine RunK.nil ?_
    refine ⟨_, eff_yieldX (vJ := 1000090) hq (b4, (rowV 176 (expand k))) i hlt rfl rfl rfl (Le.refl _) (by decide) (fun p hp => by simp only [List.mem_cons, List.not_mem_nil, or_false] at hp; rcases hp with rfl | rfl <;> exact vle rfl) (fun p hp => by simp only [List.mem_cons, List.not_mem_nil, or_false] at hp; rcases hp with rfl; exact vle rfl) (fun p hp => by simp only [List.mem_cons, List.not_mem_nil, or_false] at hp; rcases hp with rfl; rfl) (by decide) (Left.cons (t := 0) rfl (Stays.v _ _) (Left.cons (t := 2) rfl (Stays.v _ _) (Left.cons (t := 4) rfl (Stays.v _ _) (Left.cons (t := 5) rfl (Stays.v _ _) (Left.cons (t := 15) rfl (Stays.v _ _) (Left.cons (t := 18) rfl (Stays.v _ _) (Left.cons (t := 19) rfl (Stays.v _ _) (Left.cons (t := 20) rfl (Stays.v _ _) (Left.cons (t := 21) rfl (Stays.v _ _) (Left.cons (t := 22) rfl (Stays.v _ _) (Left.cons (t := 23) rfl (Stays.v _ _) (Left.cons (t := 24) rfl (Stays.v _ _) (Left.cons (t := 25) rfl (Stays.v _ _) Left.nil))))))))))))), ?_⟩
    refine RunTK.last ?_
    refine RunK.step rfl rfl (ok_not rfl) ?_; refine RunK.as (.bool false) (rfl) ?_
    refine RunK.nil ?_
    refine A.sub (Sub.cons (t := 0) rfl (Sub.cons (t := 2) rfl (Sub.cons (t := 4) rfl (Sub.cons (t := 5) rfl (Sub.cons (t := 27) rfl (Sub.cons (t := 1000004) rfl (Sub.cons (t := 1000090) rfl (Sub.cons (t := 1000091) rfl (Sub.cons (t := 1000092) rfl Sub.nil))))))))) ?_
    refine A.no rfl ?_
    refine A.skip ?_
    refine End.normal_block ?_
    refine End.normal_then (End.code ?_)
    refine A.reg (by kernel_rfl) (by kernel_rfl) (.inl rfl) ?_
    refine RunTK.last ?_
    refine RunK.step rfl rfl (ok_move rfl) ?_
    refine RunK.step rfl rfl (ok_bin rfl rfl rfl) ?_; refine RunK.as (.int .u64 ((f + (i + 1) : Nat) : Int)) (by rw [wrap_u64 (by omega) (by omega)]; exact congrArg (Value.int .u64) (by omega)) ?_
    refine RunK.step rfl rfl (ok_assign rfl) ?_
    refine RunK.nil ?_
    refine End.sub (Sub.cons (t := 0) rfl (Sub.cons (t := 2) rfl (Sub.cons (t := 4) rfl (Sub.cons (t := 5) rfl (Sub.cons (t := 1000004) rfl (Sub.cons (t := 1000090) rfl (Sub.cons (t := 1000091) rfl (Sub.cons (t := 1000092) rfl Sub.nil)))))))) ?_
    refine End.normal_then ?_
    refine End.again (i + 1) ?_ ?_ ?_
    · show _ ≤ _; omega
    · show _ - _ < _ - _; omega
    · exact (Sub.cons (t := 0) rfl (Sub.cons (t := 2) rfl (Sub.cons (t := 4) rfl (Sub.cons (t := 5) rfl (Sub.cons (t := 1000090) rfl (Sub.cons (t := 1000091) rfl (Sub.cons (t := 1000092) rfl (Sub.cons (t := 1000004) rfl Sub.nil))))))))
  · obtain rfl : i = N := by simp at hc15; omega
    refine A.exit ?_
    refine End.exit_then ?_
    refine End.exit_then ?_
    refine End.exit_here ?_
    exact End.seqX (vJ := 1000090) hq rfl rfl
set_option maxHeartbeats 1000000 in
theorem Xor7_neg (k : Nat → Nat) (s c : Nat) (o : Int) (l : List UInt8) (h : o < 0) : Fn Try.prog 12 [.v (aggV (rowV 16 (k))), .v (aggV ([.int .u32 ((s : Nat) : Int), .int .u64 ((c : Nat) : Int)])), .v (.int .i64 o), byt l] (tup [.v (.slice none 0 0), .v (.int .i64 1)]) := by
  refine Fn.of Try.func12 rfl (by kernel_rfl) Try.ntmps12 (by simp) (fun w => [(0, .v (aggV (rowV 16 (k)))), (1, .v (aggV ([.int .u32 ((s : Nat) : Int), .int .u64 ((c : Nat) : Int)]))), (2, .v (.int .i64 o)), (3, old w.heap.size (byt l))]) (fun w => (Start.v rfl (Start.v rfl (Start.v rfl (Start.old rfl Start.nil))))) fun w₀ => ?_
  refine A.regs (by kernel_rfl) (by kernel_rfl) (.inl rfl) ?_
  refine RunTK.new 0 (by decide) rfl (.inl rfl) ?_
  refine RunK.nil ?_
  refine ⟨_, _, eff_box (n := 48) (d := 4) (k := 1000004) rfl (by decide), fun b4 hb4 => ?_⟩
  have hBb4 := hb4.1
  refine RunTK.new 1 (by decide) rfl (.inl rfl) ?_
  refine RunK.nil ?_
  refine ⟨_, _, eff_box (n := 48) (d := 5) (k := 1000005) rfl (by decide), fun b5 hb5 => ?_⟩
  have hBb5 := hb5.1
  have hlt_b4_b5 : b4 < b5 := hb5.2 1000004 _ _ _ rfl
  refine RunTK.last ?_
  refine RunK.step rfl rfl (ok_assign rfl) ?_
  refine RunK.step rfl rfl (ok_assign rfl) ?_
  refine RunK.nil ?_
  refine A.sub (Sub.cons (t := 2) rfl (Sub.cons (t := 3) rfl (Sub.cons (t := 4) rfl (Sub.cons (t := 5) rfl (Sub.cons (t := 1000004) rfl (Sub.cons (t := 1000005) rfl Sub.nil)))))) ?_
  refine A.regs (by kernel_rfl) (by kernel_rfl) (.inl rfl) ?_
  refine RunTK.new 8 (by decide) rfl (.inl rfl) ?_
  refine RunK.step rfl rfl (ok_loadA (s := 1000005) (by decide) Try.underlying26 rfl (size26.of (rfl)) rfl rfl) ?_
  refine RunK.step rfl rfl (ok_move rfl) ?_
  refine RunK.step rfl rfl (ok_move rfl) ?_
  refine RunK.step rfl rfl (ok_lenB Try.underlying32 rfl (by first | exact Le.refl _ | exact Le.old _ _ | exact le_byt _ _ | exact (Le.old _ _).trans (le_byt _ _) | exact le_lst _ _ | exact (Le.old _ _).trans (le_lst _ _) | exact (Le.old _ _).trans (Le.old _ _) | exact (Le.old _ _).trans ((Le.old _ _).trans (le_byt _ _)) | exact byt_nil_le | exact lst_nil_le | exact bytes_nil_le | exact list_nil_le)) ?_
  refine RunK.step rfl rfl (ok_call (Used_negO s c o (l.length : Int) h) (Args.cons rfl (Le.refl _) (Args.cons rfl (Le.refl _) (Args.cons rfl (Le.refl _) Args.nil)))) ?_
  refine RunK.step rfl rfl (ok_move rfl) ?_
  refine RunK.step rfl rfl (ok_extract rfl rfl) ?_
  refine RunK.step rfl rfl (ok_extract rfl rfl) ?_
  refine RunK.nil ?_
  refine ⟨_, _, eff_alloc (n := 48) (d := 10) (k := 1000010) zero46 (by decide), fun b10 hb10 => ?_⟩
  have hBb10 := hb10.1
  have hlt_b4_b10 : b4 < b10 := hb10.2 1000004 _ _ _ rfl
  have hlt_b5_b10 : b5 < b10 := hb10.2 1000005 _ _ _ rfl
  refine RunTK.eff 9 (by decide) rfl (.inl rfl) ?_
  refine RunK.nil ?_
  refine ⟨_, eff_storeA (n := 48) (s := 1000010) (size46.of (rfl)) rfl rfl (rfl) hBb10 rfl (rfl) (LeftS.cons (t := 2) rfl (Surv.v _) (LeftS.cons (t := 3) rfl (Surv.old (by omega)) (LeftS.cons (t := 4) rfl (Surv.v _) (LeftS.cons (t := 5) rfl (Surv.v _) (LeftS.cons (t := 10) rfl (Surv.v _) (LeftS.cons (t := 17) rfl (Surv.v _) (LeftS.cons (t := 18) rfl (Surv.v _) (LeftS.cons (t := 19) rfl (Surv.old (by omega)) (LeftS.cons (t := 20) rfl (Surv.v _) (LeftS.cons (t := 22) rfl (Surv.v _) (LeftS.cons (t := 23) rfl (Surv.v _) (LeftS.cons (t := 1000004) rfl (Surv.blkT (by decide)) (LeftS.cons (t := 1000005) rfl (Surv.blkT (by decide)) LeftS.nil))))))))))))), ?_⟩
  refine RunTK.last ?_
  refine RunK.step rfl rfl (ok_assign rfl) ?_
  refine RunK.nil ?_
  refine A.sub (Sub.cons (t := 2) rfl (Sub.cons (t := 3) rfl (Sub.cons (t := 4) rfl (Sub.cons (t := 10) rfl (Sub.cons (t := 11) rfl (Sub.cons (t := 1000004) rfl (Sub.cons (t := 1000005) rfl (Sub.cons (t := 1000010) rfl Sub.nil)))))))) ?_
  refine A.seq ?_
  refine A.regs (by kernel_rfl) (by kernel_rfl) (.inl rfl) ?_
  refine RunTK.last ?_
  refine RunK.step rfl rfl (ok_move rfl) ?_
  refine RunK.nil ?_
  refine A.sub (Sub.cons (t := 2) rfl (Sub.cons (t := 3) rfl (Sub.cons (t := 4) rfl (Sub.cons (t := 10) rfl (Sub.cons (t := 11) rfl (Sub.cons (t := 24) rfl (Sub.cons (t := 1000004) rfl (Sub.cons (t := 1000005) rfl (Sub.cons (t := 1000010) rfl Sub.nil))))))))) ?_
  refine A.block ?_
  refine A.regs (by kernel_rfl) (by kernel_rfl) (.inl rfl) ?_
  refine RunTK.last ?_
  refine RunK.step rfl rfl (ok_bin rfl rfl rfl) ?_; refine RunK.as (.bool false) (by rfl) ?_
  refine RunK.step rfl rfl (ok_assign rfl) ?_
  refine RunK.nil ?_
  refine A.sub (Sub.cons (t := 2) rfl (Sub.cons (t := 3) rfl (Sub.cons (t := 4) rfl (Sub.cons (t := 10) rfl (Sub.cons (t := 11) rfl (Sub.cons (t := 24) rfl (Sub.cons (t := 26) rfl (Sub.cons (t := 1000004) rfl (Sub.cons (t := 1000005) rfl (Sub.cons (t := 1000010) rfl Sub.nil)))))))))) ?_
  refine A.no rfl ?_
  refine A.regs (by kernel_rfl) (by kernel_rfl) (.inl rfl) ?_
  refine RunTK.last ?_
  refine RunK.step rfl rfl (ok_bin rfl rfl rfl) ?_; refine RunK.as (.bool false) (by rfl) ?_
  refine RunK.step rfl rfl (ok_assign rfl) ?_
  refine RunK.nil ?_
  refine A.sub (Sub.cons (t := 11) rfl (Sub.cons (t := 28) rfl (Sub.cons (t := 1000004) rfl (Sub.cons (t := 1000005) rfl (Sub.cons (t := 1000010) rfl Sub.nil))))) ?_
  refine A.no rfl ?_
  refine A.regs (by kernel_rfl) (by kernel_rfl) (.inl rfl) ?_
  refine RunTK.last ?_
  refine RunK.step rfl rfl (ok_move rfl) ?_
  refine RunK.step rfl rfl (ok_assign rfl) ?_
  refine RunK.step rfl rfl (ok_assign rfl) ?_
  refine RunK.nil ?_
  refine A.sub (Sub.cons (t := 8) rfl (Sub.cons (t := 9) rfl (Sub.cons (t := 1000004) rfl (Sub.cons (t := 1000005) rfl (Sub.cons (t := 1000010) rfl Sub.nil))))) ?_
  refine A.ret ?_
  refine End.ret_block ?_
  refine End.ret_then ?_
  exact End.ret2 rfl rfl (by first | exact Le.refl _ | exact Le.old _ _) rfl (by first | exact Le.refl _ | exact Le.old _ _)
set_option maxHeartbeats 1000000 in
theorem Xor7_big (k : Nat → Nat) (s c : Nat) (o : Int) (l : List UInt8) (h : 0 ≤ o) (hm : o ≤ 9223372036854775807) (h3 : 1048576 - o < (l.length : Int)) : Fn Try.prog 12 [.v (aggV (rowV 16 (k))), .v (aggV ([.int .u32 ((s : Nat) : Int), .int .u64 ((c : Nat) : Int)])), .v (.int .i64 o), byt l] (tup [.v (.slice none 0 0), .v (.int .i64 3)]) := by
  refine Fn.of Try.func12 rfl (by kernel_rfl) Try.ntmps12 (by simp) (fun w => [(0, .v (aggV (rowV 16 (k)))), (1, .v (aggV ([.int .u32 ((s : Nat) : Int), .int .u64 ((c : Nat) : Int)]))), (2, .v (.int .i64 o)), (3, old w.heap.size (byt l))]) (fun w => (Start.v rfl (Start.v rfl (Start.v rfl (Start.old rfl Start.nil))))) fun w₀ => ?_
  refine A.regs (by kernel_rfl) (by kernel_rfl) (.inl rfl) ?_
  refine RunTK.new 0 (by decide) rfl (.inl rfl) ?_
  refine RunK.nil ?_
  refine ⟨_, _, eff_box (n := 48) (d := 4) (k := 1000004) rfl (by decide), fun b4 hb4 => ?_⟩
  have hBb4 := hb4.1
  refine RunTK.new 1 (by decide) rfl (.inl rfl) ?_
  refine RunK.nil ?_
  refine ⟨_, _, eff_box (n := 48) (d := 5) (k := 1000005) rfl (by decide), fun b5 hb5 => ?_⟩
  have hBb5 := hb5.1
  have hlt_b4_b5 : b4 < b5 := hb5.2 1000004 _ _ _ rfl
  refine RunTK.last ?_
  refine RunK.step rfl rfl (ok_assign rfl) ?_
  refine RunK.step rfl rfl (ok_assign rfl) ?_
  refine RunK.nil ?_
  refine A.sub (Sub.cons (t := 2) rfl (Sub.cons (t := 3) rfl (Sub.cons (t := 4) rfl (Sub.cons (t := 5) rfl (Sub.cons (t := 1000004) rfl (Sub.cons (t := 1000005) rfl Sub.nil)))))) ?_
  refine A.regs (by kernel_rfl) (by kernel_rfl) (.inl rfl) ?_
  refine RunTK.new 8 (by decide) rfl (.inl rfl) ?_
  refine RunK.step rfl rfl (ok_loadA (s := 1000005) (by decide) Try.underlying26 rfl (size26.of (rfl)) rfl rfl) ?_
  refine RunK.step rfl rfl (ok_move rfl) ?_
  refine RunK.step rfl rfl (ok_move rfl) ?_
  refine RunK.step rfl rfl (ok_lenB Try.underlying32 rfl (by first | exact Le.refl _ | exact Le.old _ _ | exact le_byt _ _ | exact (Le.old _ _).trans (le_byt _ _) | exact le_lst _ _ | exact (Le.old _ _).trans (le_lst _ _) | exact (Le.old _ _).trans (Le.old _ _) | exact (Le.old _ _).trans ((Le.old _ _).trans (le_byt _ _)) | exact byt_nil_le | exact lst_nil_le | exact bytes_nil_le | exact list_nil_le)) ?_
  refine RunK.step rfl rfl (ok_call (Used_big s c o (l.length : Int) h hm (Int.natCast_nonneg _) h3) (Args.cons rfl (Le.refl _) (Args.cons rfl (Le.refl _) (Args.cons rfl (Le.refl _) Args.nil)))) ?_
  refine RunK.step rfl rfl (ok_move rfl) ?_
  refine RunK.step rfl rfl (ok_extract rfl rfl) ?_
  refine RunK.step rfl rfl (ok_extract rfl rfl) ?_
  refine RunK.nil ?_
  refine ⟨_, _, eff_alloc (n := 48) (d := 10) (k := 1000010) zero46 (by decide), fun b10 hb10 => ?_⟩
  have hBb10 := hb10.1
  have hlt_b4_b10 : b4 < b10 := hb10.2 1000004 _ _ _ rfl
  have hlt_b5_b10 : b5 < b10 := hb10.2 1000005 _ _ _ rfl
  refine RunTK.eff 9 (by decide) rfl (.inl rfl) ?_
  refine RunK.nil ?_
  refine ⟨_, eff_storeA (n := 48) (s := 1000010) (size46.of (rfl)) rfl rfl (rfl) hBb10 rfl (rfl) (LeftS.cons (t := 2) rfl (Surv.v _) (LeftS.cons (t := 3) rfl (Surv.old (by omega)) (LeftS.cons (t := 4) rfl (Surv.v _) (LeftS.cons (t := 5) rfl (Surv.v _) (LeftS.cons (t := 10) rfl (Surv.v _) (LeftS.cons (t := 17) rfl (Surv.v _) (LeftS.cons (t := 18) rfl (Surv.v _) (LeftS.cons (t := 19) rfl (Surv.old (by omega)) (LeftS.cons (t := 20) rfl (Surv.v _) (LeftS.cons (t := 22) rfl (Surv.v _) (LeftS.cons (t := 23) rfl (Surv.v _) (LeftS.cons (t := 1000004) rfl (Surv.blkT (by decide)) (LeftS.cons (t := 1000005) rfl (Surv.blkT (by decide)) LeftS.nil))))))))))))), ?_⟩
  refine RunTK.last ?_
  refine RunK.step rfl rfl (ok_assign rfl) ?_
  refine RunK.nil ?_
  refine A.sub (Sub.cons (t := 2) rfl (Sub.cons (t := 3) rfl (Sub.cons (t := 4) rfl (Sub.cons (t := 10) rfl (Sub.cons (t := 11) rfl (Sub.cons (t := 1000004) rfl (Sub.cons (t := 1000005) rfl (Sub.cons (t := 1000010) rfl Sub.nil)))))))) ?_
  refine A.seq ?_
  refine A.regs (by kernel_rfl) (by kernel_rfl) (.inl rfl) ?_
  refine RunTK.last ?_
  refine RunK.step rfl rfl (ok_move rfl) ?_
  refine RunK.nil ?_
  refine A.sub (Sub.cons (t := 2) rfl (Sub.cons (t := 3) rfl (Sub.cons (t := 4) rfl (Sub.cons (t := 10) rfl (Sub.cons (t := 11) rfl (Sub.cons (t := 24) rfl (Sub.cons (t := 1000004) rfl (Sub.cons (t := 1000005) rfl (Sub.cons (t := 1000010) rfl Sub.nil))))))))) ?_
  refine A.block ?_
  refine A.regs (by kernel_rfl) (by kernel_rfl) (.inl rfl) ?_
  refine RunTK.last ?_
  refine RunK.step rfl rfl (ok_bin rfl rfl rfl) ?_; refine RunK.as (.bool false) (by rfl) ?_
  refine RunK.step rfl rfl (ok_assign rfl) ?_
  refine RunK.nil ?_
  refine A.sub (Sub.cons (t := 2) rfl (Sub.cons (t := 3) rfl (Sub.cons (t := 4) rfl (Sub.cons (t := 10) rfl (Sub.cons (t := 11) rfl (Sub.cons (t := 24) rfl (Sub.cons (t := 26) rfl (Sub.cons (t := 1000004) rfl (Sub.cons (t := 1000005) rfl (Sub.cons (t := 1000010) rfl Sub.nil)))))))))) ?_
  refine A.no rfl ?_
  refine A.regs (by kernel_rfl) (by kernel_rfl) (.inl rfl) ?_
  refine RunTK.last ?_
  refine RunK.step rfl rfl (ok_bin rfl rfl rfl) ?_; refine RunK.as (.bool false) (by rfl) ?_
  refine RunK.step rfl rfl (ok_assign rfl) ?_
  refine RunK.nil ?_
  refine A.sub (Sub.cons (t := 11) rfl (Sub.cons (t := 28) rfl (Sub.cons (t := 1000004) rfl (Sub.cons (t := 1000005) rfl (Sub.cons (t := 1000010) rfl Sub.nil))))) ?_
  refine A.no rfl ?_
  refine A.regs (by kernel_rfl) (by kernel_rfl) (.inl rfl) ?_
  refine RunTK.last ?_
  refine RunK.step rfl rfl (ok_move rfl) ?_
  refine RunK.step rfl rfl (ok_assign rfl) ?_
  refine RunK.step rfl rfl (ok_assign rfl) ?_
  refine RunK.nil ?_
  refine A.sub (Sub.cons (t := 8) rfl (Sub.cons (t := 9) rfl (Sub.cons (t := 1000004) rfl (Sub.cons (t := 1000005) rfl (Sub.cons (t := 1000010) rfl Sub.nil))))) ?_
  refine A.ret ?_
  refine End.ret_block ?_
  refine End.ret_then ?_
  exact End.ret2 rfl rfl (by first | exact Le.refl _ | exact Le.old _ _) rfl (by first | exact Le.refl _ | exact Le.old _ _)
set_option maxHeartbeats 1000000 in
theorem Xor7_empty (k : Nat → Nat) (s c : Nat) (o : Int) (l : List UInt8) (h : 0 ≤ o) (h1 : o ≤ 1048576) (h2 : (l.length : Int) = 0) : Fn Try.prog 12 [.v (aggV (rowV 16 (k))), .v (aggV ([.int .u32 ((s : Nat) : Int), .int .u64 ((c : Nat) : Int)])), .v (.int .i64 o), byt l] (tup [.v (.slice none 0 0), .v (.int .i64 0)]) := by
  refine Fn.of Try.func12 rfl (by kernel_rfl) Try.ntmps12 (by simp) (fun w => [(0, .v (aggV (rowV 16 (k)))), (1, .v (aggV ([.int .u32 ((s : Nat) : Int), .int .u64 ((c : Nat) : Int)]))), (2, .v (.int .i64 o)), (3, old w.heap.size (byt l))]) (fun w => (Start.v rfl (Start.v rfl (Start.v rfl (Start.old rfl Start.nil))))) fun w₀ => ?_
  refine A.regs (by kernel_rfl) (by kernel_rfl) (.inl rfl) ?_
  refine RunTK.new 0 (by decide) rfl (.inl rfl) ?_
  refine RunK.nil ?_
  refine ⟨_, _, eff_box (n := 48) (d := 4) (k := 1000004) rfl (by decide), fun b4 hb4 => ?_⟩
  have hBb4 := hb4.1
  refine RunTK.new 1 (by decide) rfl (.inl rfl) ?_
  refine RunK.nil ?_
  refine ⟨_, _, eff_box (n := 48) (d := 5) (k := 1000005) rfl (by decide), fun b5 hb5 => ?_⟩
  have hBb5 := hb5.1
  have hlt_b4_b5 : b4 < b5 := hb5.2 1000004 _ _ _ rfl
  refine RunTK.last ?_
  refine RunK.step rfl rfl (ok_assign rfl) ?_
  refine RunK.step rfl rfl (ok_assign rfl) ?_
  refine RunK.nil ?_
  refine A.sub (Sub.cons (t := 2) rfl (Sub.cons (t := 3) rfl (Sub.cons (t := 4) rfl (Sub.cons (t := 5) rfl (Sub.cons (t := 1000004) rfl (Sub.cons (t := 1000005) rfl Sub.nil)))))) ?_
  refine A.regs (by kernel_rfl) (by kernel_rfl) (.inl rfl) ?_
  refine RunTK.new 8 (by decide) rfl (.inl rfl) ?_
  refine RunK.step rfl rfl (ok_loadA (s := 1000005) (by decide) Try.underlying26 rfl (size26.of (rfl)) rfl rfl) ?_
  refine RunK.step rfl rfl (ok_move rfl) ?_
  refine RunK.step rfl rfl (ok_move rfl) ?_
  refine RunK.step rfl rfl (ok_lenB Try.underlying32 rfl (by first | exact Le.refl _ | exact Le.old _ _ | exact le_byt _ _ | exact (Le.old _ _).trans (le_byt _ _) | exact le_lst _ _ | exact (Le.old _ _).trans (le_lst _ _) | exact (Le.old _ _).trans (Le.old _ _) | exact (Le.old _ _).trans ((Le.old _ _).trans (le_byt _ _)) | exact byt_nil_le | exact lst_nil_le | exact bytes_nil_le | exact list_nil_le)) ?_
  refine RunK.step rfl rfl (ok_call (Used_empty s c o (l.length : Int) h h1 h2) (Args.cons rfl (Le.refl _) (Args.cons rfl (Le.refl _) (Args.cons rfl (Le.refl _) Args.nil)))) ?_
  refine RunK.step rfl rfl (ok_move rfl) ?_
  refine RunK.step rfl rfl (ok_extract rfl rfl) ?_
  refine RunK.step rfl rfl (ok_extract rfl rfl) ?_
  refine RunK.nil ?_
  refine ⟨_, _, eff_alloc (n := 48) (d := 10) (k := 1000010) zero46 (by decide), fun b10 hb10 => ?_⟩
  have hBb10 := hb10.1
  have hlt_b4_b10 : b4 < b10 := hb10.2 1000004 _ _ _ rfl
  have hlt_b5_b10 : b5 < b10 := hb10.2 1000005 _ _ _ rfl
  refine RunTK.eff 9 (by decide) rfl (.inl rfl) ?_
  refine RunK.nil ?_
  refine ⟨_, eff_storeA (n := 48) (s := 1000010) (size46.of (rfl)) rfl rfl (rfl) hBb10 rfl (rfl) (LeftS.cons (t := 2) rfl (Surv.v _) (LeftS.cons (t := 3) rfl (Surv.old (by omega)) (LeftS.cons (t := 4) rfl (Surv.v _) (LeftS.cons (t := 5) rfl (Surv.v _) (LeftS.cons (t := 10) rfl (Surv.v _) (LeftS.cons (t := 17) rfl (Surv.v _) (LeftS.cons (t := 18) rfl (Surv.v _) (LeftS.cons (t := 19) rfl (Surv.old (by omega)) (LeftS.cons (t := 20) rfl (Surv.v _) (LeftS.cons (t := 22) rfl (Surv.v _) (LeftS.cons (t := 23) rfl (Surv.v _) (LeftS.cons (t := 1000004) rfl (Surv.blkT (by decide)) (LeftS.cons (t := 1000005) rfl (Surv.blkT (by decide)) LeftS.nil))))))))))))), ?_⟩
  refine RunTK.last ?_
  refine RunK.step rfl rfl (ok_assign rfl) ?_
  refine RunK.nil ?_
  refine A.sub (Sub.cons (t := 2) rfl (Sub.cons (t := 3) rfl (Sub.cons (t := 4) rfl (Sub.cons (t := 10) rfl (Sub.cons (t := 11) rfl (Sub.cons (t := 1000004) rfl (Sub.cons (t := 1000005) rfl (Sub.cons (t := 1000010) rfl Sub.nil)))))))) ?_
  refine A.seq ?_
  refine A.regs (by kernel_rfl) (by kernel_rfl) (.inl rfl) ?_
  refine RunTK.last ?_
  refine RunK.step rfl rfl (ok_move rfl) ?_
  refine RunK.nil ?_
  refine A.sub (Sub.cons (t := 2) rfl (Sub.cons (t := 3) rfl (Sub.cons (t := 4) rfl (Sub.cons (t := 10) rfl (Sub.cons (t := 11) rfl (Sub.cons (t := 24) rfl (Sub.cons (t := 1000004) rfl (Sub.cons (t := 1000005) rfl (Sub.cons (t := 1000010) rfl Sub.nil))))))))) ?_
  refine A.block ?_
  refine A.regs (by kernel_rfl) (by kernel_rfl) (.inl rfl) ?_
  refine RunTK.last ?_
  refine RunK.step rfl rfl (ok_bin rfl rfl rfl) ?_; refine RunK.as (.bool false) (by rfl) ?_
  refine RunK.step rfl rfl (ok_assign rfl) ?_
  refine RunK.nil ?_
  refine A.sub (Sub.cons (t := 2) rfl (Sub.cons (t := 3) rfl (Sub.cons (t := 4) rfl (Sub.cons (t := 10) rfl (Sub.cons (t := 11) rfl (Sub.cons (t := 24) rfl (Sub.cons (t := 26) rfl (Sub.cons (t := 1000004) rfl (Sub.cons (t := 1000005) rfl (Sub.cons (t := 1000010) rfl Sub.nil)))))))))) ?_
  refine A.no rfl ?_
  refine A.regs (by kernel_rfl) (by kernel_rfl) (.inl rfl) ?_
  refine RunTK.last ?_
  refine RunK.step rfl rfl (ok_bin rfl rfl rfl) ?_; refine RunK.as (.bool true) (by rfl) ?_
  refine RunK.step rfl rfl (ok_assign rfl) ?_
  refine RunK.nil ?_
  refine A.sub (Sub.cons (t := 11) rfl (Sub.cons (t := 28) rfl (Sub.cons (t := 1000004) rfl (Sub.cons (t := 1000005) rfl (Sub.cons (t := 1000010) rfl Sub.nil))))) ?_
  refine A.yes rfl ?_
  refine A.regs (by kernel_rfl) (by kernel_rfl) (.inl rfl) ?_
  refine RunTK.last ?_
  refine RunK.step rfl rfl (ok_assign rfl) ?_
  refine RunK.step rfl rfl (ok_assign rfl) ?_
  refine RunK.nil ?_
  refine A.sub (Sub.cons (t := 8) rfl (Sub.cons (t := 9) rfl (Sub.cons (t := 1000004) rfl (Sub.cons (t := 1000005) rfl (Sub.cons (t := 1000010) rfl Sub.nil))))) ?_
  refine A.ret ?_
  refine End.ret_block ?_
  refine End.ret_then ?_
  exact End.ret2 rfl rfl (by first | exact Le.refl _ | exact Le.old _ _) rfl (by first | exact Le.refl _ | exact Le.old _ _)
set_option maxHeartbeats 4000000 in
theorem Xor7_pos (k : Nat → Nat) (hk : By k) (s c o : Nat) (l : List UInt8) (hs : s < 4294967296) (hc : c < 18446744073709551616) (hm : 0 < l.length) (ho : o + l.length ≤ 1048576) : Fn Try.prog 12 [.v (aggV (rowV 16 (k))), .v (aggV ([.int .u32 ((s : Nat) : Int), .int .u64 ((c : Nat) : Int)])), .v (.int .i64 ((o : Nat) : Int)), byt l] (tup [bytes (xorK k s c o l) l.length, .v (.int .i64 0)]) := by
  have ha : o % 16 < 16 := Nat.mod_lt _ (by decide)
  refine Fn.of Try.func12 rfl (by kernel_rfl) Try.ntmps12 (by simp) (fun w => [(0, .v (aggV (rowV 16 (k)))), (1, .v (aggV ([.int .u32 ((s : Nat) : Int), .int .u64 ((c : Nat) : Int)]))), (2, .v (.int .i64 ((o : Nat) : Int))), (3, old w.heap.size (byt l))]) (fun w => (Start.v rfl (Start.v rfl (Start.v rfl (Start.old rfl Start.nil))))) fun w₀ => ?_
  refine A.regs (by kernel_rfl) (by kernel_rfl) (.inl rfl) ?_
  refine RunTK.new 0 (by decide) rfl (.inl rfl) ?_
  refine RunK.nil ?_
  refine ⟨_, _, eff_box (n := 48) (d := 4) (k := 1000004) rfl (by decide), fun b4 hb4 => ?_⟩
  have hBb4 := hb4.1
  refine RunTK.new 1 (by decide) rfl (.inl rfl) ?_
  refine RunK.nil ?_
  refine ⟨_, _, eff_box (n := 48) (d := 5) (k := 1000005) rfl (by decide), fun b5 hb5 => ?_⟩
  have hBb5 := hb5.1
  have hlt_b4_b5 : b4 < b5 := hb5.2 1000004 _ _ _ rfl
  refine RunTK.last ?_
  refine RunK.step rfl rfl (ok_assign rfl) ?_
  refine RunK.step rfl rfl (ok_assign rfl) ?_
  refine RunK.nil ?_
  refine A.sub (Sub.cons (t := 2) rfl (Sub.cons (t := 3) rfl (Sub.cons (t := 4) rfl (Sub.cons (t := 5) rfl (Sub.cons (t := 1000004) rfl (Sub.cons (t := 1000005) rfl Sub.nil)))))) ?_
  refine A.regs (by kernel_rfl) (by kernel_rfl) (.inl rfl) ?_
  refine RunTK.new 8 (by decide) rfl (.inl rfl) ?_
  refine RunK.step rfl rfl (ok_loadA (s := 1000005) (by decide) Try.underlying26 rfl (size26.of (rfl)) rfl rfl) ?_
  refine RunK.step rfl rfl (ok_move rfl) ?_
  refine RunK.step rfl rfl (ok_move rfl) ?_
  refine RunK.step rfl rfl (ok_lenB Try.underlying32 rfl (by first | exact Le.refl _ | exact Le.old _ _ | exact le_byt _ _ | exact (Le.old _ _).trans (le_byt _ _) | exact le_lst _ _ | exact (Le.old _ _).trans (le_lst _ _) | exact (Le.old _ _).trans (Le.old _ _) | exact (Le.old _ _).trans ((Le.old _ _).trans (le_byt _ _)) | exact byt_nil_le | exact lst_nil_le | exact bytes_nil_le | exact list_nil_le)) ?_
  refine RunK.step rfl rfl (ok_call (Used_fn s c o l.length hm ho) (Args.cons rfl (Le.refl _) (Args.cons rfl (Le.refl _) (Args.cons rfl (Le.refl _) Args.nil)))) ?_
  refine RunK.step rfl rfl (ok_move rfl) ?_
  refine RunK.step rfl rfl (ok_extract rfl rfl) ?_
  refine RunK.step rfl rfl (ok_extract rfl rfl) ?_
  refine RunK.nil ?_
  refine ⟨_, _, eff_alloc (n := 48) (d := 10) (k := 1000010) zero46 (by decide), fun b10 hb10 => ?_⟩
  have hBb10 := hb10.1
  have hlt_b4_b10 : b4 < b10 := hb10.2 1000004 _ _ _ rfl
  have hlt_b5_b10 : b5 < b10 := hb10.2 1000005 _ _ _ rfl
  refine RunTK.eff 9 (by decide) rfl (.inl rfl) ?_
  refine RunK.nil ?_
  refine ⟨_, eff_storeA (n := 48) (s := 1000010) (size46.of (rfl)) rfl rfl (rfl) hBb10 rfl (rfl) (LeftS.cons (t := 2) rfl (Surv.v _) (LeftS.cons (t := 3) rfl (Surv.old (by omega)) (LeftS.cons (t := 4) rfl (Surv.v _) (LeftS.cons (t := 5) rfl (Surv.v _) (LeftS.cons (t := 10) rfl (Surv.v _) (LeftS.cons (t := 17) rfl (Surv.v _) (LeftS.cons (t := 18) rfl (Surv.v _) (LeftS.cons (t := 19) rfl (Surv.old (by omega)) (LeftS.cons (t := 20) rfl (Surv.v _) (LeftS.cons (t := 22) rfl (Surv.v _) (LeftS.cons (t := 23) rfl (Surv.v _) (LeftS.cons (t := 1000004) rfl (Surv.blkT (by decide)) (LeftS.cons (t := 1000005) rfl (Surv.blkT (by decide)) LeftS.nil))))))))))))), ?_⟩
  refine RunTK.last ?_
  refine RunK.step rfl rfl (ok_assign rfl) ?_
  refine RunK.nil ?_
  refine A.sub (Sub.cons (t := 2) rfl (Sub.cons (t := 3) rfl (Sub.cons (t := 4) rfl (Sub.cons (t := 10) rfl (Sub.cons (t := 11) rfl (Sub.cons (t := 1000004) rfl (Sub.cons (t := 1000005) rfl (Sub.cons (t := 1000010) rfl Sub.nil)))))))) ?_
  refine A.seq ?_
  refine A.regs (by kernel_rfl) (by kernel_rfl) (.inl rfl) ?_
  refine RunTK.last ?_
  refine RunK.step rfl rfl (ok_move rfl) ?_
  refine RunK.nil ?_
  refine A.sub (Sub.cons (t := 2) rfl (Sub.cons (t := 3) rfl (Sub.cons (t := 4) rfl (Sub.cons (t := 10) rfl (Sub.cons (t := 11) rfl (Sub.cons (t := 24) rfl (Sub.cons (t := 1000004) rfl (Sub.cons (t := 1000005) rfl (Sub.cons (t := 1000010) rfl Sub.nil))))))))) ?_
  refine A.block ?_
  refine A.regs (by kernel_rfl) (by kernel_rfl) (.inl rfl) ?_
  refine RunTK.last ?_
  refine RunK.step rfl rfl (ok_bin rfl rfl rfl) ?_; refine RunK.as (.bool true) (by rfl) ?_
  refine RunK.step rfl rfl (ok_assign rfl) ?_
  refine RunK.nil ?_
  refine A.sub (Sub.cons (t := 2) rfl (Sub.cons (t := 3) rfl (Sub.cons (t := 4) rfl (Sub.cons (t := 10) rfl (Sub.cons (t := 11) rfl (Sub.cons (t := 24) rfl (Sub.cons (t := 26) rfl (Sub.cons (t := 1000004) rfl (Sub.cons (t := 1000005) rfl (Sub.cons (t := 1000010) rfl Sub.nil)))))))))) ?_
  refine A.yes rfl ?_
  refine A.skip ?_
  refine End.normal_block ?_
  refine End.normal_then (End.code ?_)
  refine A.regs (by kernel_rfl) (by kernel_rfl) (.inl rfl) ?_
  refine RunTK.last ?_
  refine RunK.step rfl rfl (ok_move rfl) ?_
  refine RunK.step rfl rfl (ok_lenB Try.underlying32 rfl (by first | exact Le.refl _ | exact Le.old _ _ | exact le_byt _ _ | exact (Le.old _ _).trans (le_byt _ _) | exact le_lst _ _ | exact (Le.old _ _).trans (le_lst _ _) | exact (Le.old _ _).trans (Le.old _ _) | exact (Le.old _ _).trans ((Le.old _ _).trans (le_byt _ _)) | exact byt_nil_le | exact lst_nil_le | exact bytes_nil_le | exact list_nil_le)) ?_
  refine RunK.step rfl rfl (ok_make l.length Try.underlying32 info5 (by decide) rfl rfl rfl rfl rfl (by omega)) ?_
  refine RunK.step rfl rfl (ok_assign rfl) ?_
  refine RunK.nil ?_
  refine A.sub (Sub.cons (t := 2) rfl (Sub.cons (t := 3) rfl (Sub.cons (t := 4) rfl (Sub.cons (t := 10) rfl (Sub.cons (t := 12) rfl (Sub.cons (t := 1000004) rfl (Sub.cons (t := 1000005) rfl (Sub.cons (t := 1000010) rfl Sub.nil)))))))) ?_
  refine A.open (t := 12) (k := 1000012) rfl fun b12 hb12 => ?_
  have hBb12 := hb12
  refine A.regs (by kernel_rfl) (by kernel_rfl) (.inl rfl) ?_
  refine RunTK.eff 2 (by decide) rfl (.inl rfl) ?_
  refine RunK.step rfl rfl (ok_move rfl) ?_
  refine RunK.step rfl rfl (ok_move rfl) ?_
  refine RunK.nil ?_
  refine ⟨_, eff_copyS (n := 48) (s := 1000012) (l := l) Try.underlying32 info5 rfl rfl (by first | exact Le.refl _ | exact Le.old _ _ | exact le_byt _ _ | exact (Le.old _ _).trans (le_byt _ _) | exact le_lst _ _ | exact (Le.old _ _).trans (le_lst _ _) | exact (Le.old _ _).trans (Le.old _ _) | exact (Le.old _ _).trans ((Le.old _ _).trans (le_byt _ _)) | exact byt_nil_le | exact lst_nil_le | exact bytes_nil_le | exact list_nil_le) hBb12 rfl (by simp) (by decide) (LeftS.cons (t := 2) rfl (Surv.v _) (LeftS.cons (t := 3) rfl (Surv.old (by omega)) (LeftS.cons (t := 4) rfl (Surv.v _) (LeftS.cons (t := 10) rfl (Surv.v _) (LeftS.cons (t := 12) rfl (Surv.v _) (LeftS.cons (t := 33) rfl (Surv.v _) (LeftS.cons (t := 34) rfl (Surv.old (by omega)) (LeftS.cons (t := 1000004) rfl (Surv.blkT (by decide)) (LeftS.cons (t := 1000005) rfl (Surv.blkT (by decide)) (LeftS.cons (t := 1000010) rfl (Surv.blkT (by decide)) LeftS.nil)))))))))), ?_⟩
  refine RunTK.last ?_
  refine RunK.nil ?_
  refine A.sub (Sub.cons (t := 2) rfl (Sub.cons (t := 4) rfl (Sub.cons (t := 10) rfl (Sub.cons (t := 12) rfl (Sub.cons (t := 1000004) rfl (Sub.cons (t := 1000005) rfl (Sub.cons (t := 1000010) rfl (Sub.eq (t := 1000012) _ rfl (show blk b12 5 _ = blk b12 5 (rowV l.length (mid (byL l) (xorG k s c o (byL l)) 0)) from congrArg _ (copy_row l _ (by simp) _)) Sub.nil)))))))) ?_
  refine A.regs (by kernel_rfl) (by kernel_rfl) (.inl rfl) ?_
  refine RunTK.new 3 (by decide) rfl (.inl rfl) ?_
  refine RunK.step rfl rfl (ok_move rfl) ?_
  refine RunK.step rfl rfl (ok_move rfl) ?_
  refine RunK.step rfl rfl (ok_rem rfl rfl (by decide)) ?_; refine RunK.as (.int .i64 ((o % 16 : Nat) : Int)) (by rw [tmod_lit _ (by decide)]; rfl) ?_
  refine RunK.nil ?_
  refine ⟨_, _, eff_alloc (n := 48) (d := 13) (k := 1000013) zero32 (by decide), fun b13 hb13 => ?_⟩
  have hBb13 := hb13.1
  have hlt_b4_b13 : b4 < b13 := hb13.2 1000004 _ _ _ rfl
  have hlt_b5_b13 : b5 < b13 := hb13.2 1000005 _ _ _ rfl
  have hlt_b10_b13 : b10 < b13 := hb13.2 1000010 _ _ _ rfl
  have hlt_b12_b13 : b12 < b13 := hb13.2 1000012 _ _ _ rfl
  refine RunTK.new 4 (by decide) rfl (.inl rfl) ?_
  refine RunK.nil ?_
  refine ⟨_, _, eff_alloc (n := 48) (d := 14) (k := 1000014) zero3 (by decide), fun b14 hb14 => ?_⟩
  have hBb14 := hb14.1
  have hlt_b4_b14 : b4 < b14 := hb14.2 1000004 _ _ _ rfl
  have hlt_b5_b14 : b5 < b14 := hb14.2 1000005 _ _ _ rfl
  have hlt_b10_b14 : b10 < b14 := hb14.2 1000010 _ _ _ rfl
  have hlt_b12_b14 : b12 < b14 := hb14.2 1000012 _ _ _ rfl
  have hlt_b13_b14 : b13 < b14 := hb14.2 1000013 _ _ _ rfl
  refine RunTK.eff 5 (by decide) rfl (.inl rfl) ?_
  refine RunK.nil ?_
  refine ⟨_, eff_storeS (n := 48) (s := 1000013) info32 rfl rfl rfl hBb13 rfl (by simp) (LeftS.cons (t := 2) rfl (Surv.v _) (LeftS.cons (t := 4) rfl (Surv.v _) (LeftS.cons (t := 10) rfl (Surv.v _) (LeftS.cons (t := 12) rfl (Surv.v _) (LeftS.cons (t := 13) rfl (Surv.v _) (LeftS.cons (t := 14) rfl (Surv.v _) (LeftS.cons (t := 36) rfl (Surv.v _) (LeftS.cons (t := 37) rfl (Surv.v _) (LeftS.cons (t := 38) rfl (Surv.v _) (LeftS.cons (t := 1000004) rfl (Surv.blkT (by decide)) (LeftS.cons (t := 1000005) rfl (Surv.blkT (by decide)) (LeftS.cons (t := 1000010) rfl (Surv.blkT (by decide)) (LeftS.cons (t := 1000012) rfl (Surv.blkT (by decide)) (LeftS.cons (t := 1000014) rfl (Surv.blkT (by decide)) LeftS.nil)))))))))))))), ?_⟩
  refine RunTK.eff 6 (by decide) rfl (.inl rfl) ?_
  refine RunK.nil ?_
  refine ⟨_, eff_storeS (n := 48) (s := 1000014) info3 rfl rfl rfl hBb14 rfl (by simp) (LeftS.cons (t := 2) rfl (Surv.v _) (LeftS.cons (t := 4) rfl (Surv.v _) (LeftS.cons (t := 10) rfl (Surv.v _) (LeftS.cons (t := 12) rfl (Surv.v _) (LeftS.cons (t := 13) rfl (Surv.v _) (LeftS.cons (t := 14) rfl (Surv.v _) (LeftS.cons (t := 36) rfl (Surv.v _) (LeftS.cons (t := 37) rfl (Surv.v _) (LeftS.cons (t := 38) rfl (Surv.v _) (LeftS.cons (t := 1000004) rfl (Surv.blkT (by decide)) (LeftS.cons (t := 1000005) rfl (Surv.blkT (by decide)) (LeftS.cons (t := 1000010) rfl (Surv.blkT (by decide)) (LeftS.cons (t := 1000012) rfl (Surv.blkT (by decide)) (LeftS.cons (t := 1000013) rfl (Surv.blkT (by decide)) LeftS.nil)))))))))))))), ?_⟩
  refine RunTK.last ?_
  refine RunK.nil ?_
  refine A.sub (Sub.cons (t := 4) rfl (Sub.cons (t := 10) rfl (Sub.cons (t := 12) rfl (Sub.cons (t := 13) rfl (Sub.cons (t := 14) rfl (Sub.cons (t := 1000004) rfl (Sub.cons (t := 1000005) rfl (Sub.cons (t := 1000010) rfl (Sub.cons (t := 1000012) rfl (Sub.cons (t := 1000013) rfl (Sub.cons (t := 1000014) rfl Sub.nil))))))))))) ?_
  refine A.seq ?_
  refine A.regs (by kernel_rfl) (by kernel_rfl) (.inl rfl) ?_
  refine RunTK.last ?_
  refine RunK.step rfl rfl (ok_loadA (s := 1000004) (by decide) Try.underlying22 rfl (size22.of (rowV_length _ _)) rfl rfl) ?_
  refine RunK.step rfl rfl (ok_loadA (s := 1000010) (by decide) Try.underlying46 rfl (size46.of (rfl)) rfl rfl) ?_
  refine RunK.step rfl rfl (ok_callB (blocks_fnB k s c (o / 16) ((o + l.length - 1) / 16)) (fun _ _ => closR_mono _ _) (Args.cons rfl (Le.refl _) (Args.cons rfl (Le.refl _) Args.nil))) ?_
  refine RunK.nil ?_
  refine A.sub (Sub.cons (t := 12) rfl (Sub.cons (t := 13) rfl (Sub.cons (t := 14) rfl (Sub.cons (t := 41) rfl (Sub.cons (t := 1000004) rfl (Sub.cons (t := 1000005) rfl (Sub.cons (t := 1000010) rfl (Sub.cons (t := 1000012) rfl (Sub.cons (t := 1000013) rfl (Sub.cons (t := 1000014) rfl Sub.nil)))))))))) ?_
  refine A.openClosR (t := 41) (k₁ := 1000091) (k₂ := 1000092) rfl fun p q hBp hBq hpq => ?_
  refine A.block ?_
  refine A.rangeX (gf := 41) (N := ((o % 16 + l.length - 1) / 16 + 1)) (vL := 1000098) (vD := 1000099) (tp := 42) (lb := [ptr p, ptr q]) (S := [(12, .v (.slice (some ⟨b12, 0, none⟩) l.length l.length)), (13, .v (ptr b13)), (14, .v (ptr b14))]) (XE := fun z : Nat × List Value => [(1000004, blk z.1 50 z.2)])
    (V := fun i => [(1000012, blk b12 5 (rowV l.length (mid (byL l) (xorG k s c o (byL l)) (dnS (o % 16) l.length (i))))), (1000013, blk b13 32 [.slice (some ⟨b12, rpS (o % 16) l.length (i), none⟩) (l.length - dnS (o % 16) l.length (i)) (l.length - dnS (o % 16) l.length (i))]), (1000014, blk b14 3 [.int .i64 ((skS (o % 16) (i) : Nat) : Int)]), (1000091, blk p 22 (rowV 16 k)), (1000092, blk q 46 [.int .u32 ((s : Nat) : Int), .int .u64 ((c : Nat) : Int), .int .u32 ((o / 16 : Nat) : Int), .int .u32 (((o + l.length - 1) / 16 : Nat) : Int)])])
    (Eb := fun i z => (15, freshV w₀.heap.size [] 22 (rowV 16 (ksB k s c (o / 16 + i)))) :: (42, .v (aggV (rowV 16 (ksB k s c (o / 16 + i))))) :: ([(1000012, blk b12 5 (rowV l.length (mid (byL l) (xorG k s c o (byL l)) (dnS (o % 16) l.length (i))))), (1000013, blk b13 32 [.slice (some ⟨b12, rpS (o % 16) l.length (i), none⟩) (l.length - dnS (o % 16) l.length (i)) (l.length - dnS (o % 16) l.length (i))]), (1000014, blk b14 3 [.int .i64 ((skS (o % 16) (i) : Nat) : Int)]), (1000091, blk p 22 (rowV 16 k)), (1000092, blk q 46 [.int .u32 ((s : Nat) : Int), .int .u64 ((c : Nat) : Int), .int .u32 ((o / 16 : Nat) : Int), .int .u32 (((o + l.length - 1) / 16 : Nat) : Int)])] ++ [(12, .v (.slice (some ⟨b12, 0, none⟩) l.length l.length)), (13, .v (ptr b13)), (14, .v (ptr b14))] ++ [(1000004, blk z.1 50 z.2)]))
    (arg := fun i => .v (aggV (rowV 16 (ksB k s c (o / 16 + i))))) rfl ⟨_, Try.func41, by kernel_rfl, rfl⟩ (by decide) (by decide) (Sub.eq (t := 1000012) _ rfl (by rw [dnS_zero]) (Sub.eq (t := 1000013) _ rfl (by rw [rpS_zero hm, dnS_zero, List.length_replicate, Nat.sub_zero]; rfl) (Sub.eq (t := 1000014) _ rfl (by rw [skS_zero]; rfl) (Sub.cons (t := 1000091) rfl (Sub.cons (t := 1000092) rfl (Sub.eq (t := 12) _ rfl (by rw [List.length_replicate]) (Sub.cons (t := 13) rfl (Sub.cons (t := 14) rfl Sub.nil))))))))
    (fun x hx => by simp only [List.mem_cons, List.not_mem_nil, or_false] at hx; rcases hx with rfl | rfl | rfl <;> exact ⟨vlt rfl, .inl ⟨_, rfl⟩⟩)
    (fun i x hx => by simp only [List.mem_cons, List.not_mem_nil, or_false] at hx; rcases hx with rfl | rfl | rfl | rfl | rfl <;> exact vle rfl)
    (fun z x hx => by simp only [List.mem_cons, List.not_mem_nil, or_false] at hx; rcases hx with rfl; exact vle rfl)
    (fun z l _ x hx => by simp only [List.mem_cons, List.not_mem_nil, or_false] at hx; rcases hx with rfl; exact Firm.blk)
    (fun i l' hl x hx => by simp only [List.mem_cons, List.not_mem_nil, or_false] at hx; rcases hx with rfl | rfl | rfl | rfl | rfl <;> first | exact Firm.blk | exact Firm.v _ _ | exact Firm.freshV)
    (fun i z l' hl x hx => by simp only [List.mem_cons, List.mem_append, List.not_mem_nil, or_false] at hx; rcases hx with rfl | rfl | ((rfl | rfl | rfl | rfl | rfl) | rfl | rfl | rfl) | rfl <;> first | exact Firm.blk | exact Firm.v _ _ | exact Firm.freshV)
    (fun J l' w hq h0 => blocks1_seq (f := o / 16) (t := (o + l.length - 1) / 16) hk hs hc (by omega) (by omega) (hq.sub fun i x hx => by simp only [List.mem_cons, List.not_mem_nil, or_false] at hx ⊢; rcases hx with rfl | rfl <;> simp) h0)
    (fun i l' a w z _ hb h => assign_box zero22 (size22.of (rowV_length _ _)) (rowV_one _ _) (by rw [rowV_length, List.length_replicate]) (by decide) (by decide) hb h) ?_ ?_
  · intro i l' D rr mm z hi'
    have hdl := dnS_lt hm hi'
    have hsk := skS_lt ha i
    refine A.openFresh (t := 15) (k := 1000015) rfl fun b15 hBb15 => ?_
    refine A.block ?_
    refine A.regs (by kernel_rfl) (by kernel_rfl) (.inr (by kernel_rfl)) ?_
    refine RunTK.eff 3 (by decide) rfl (.inr (by kernel_rfl)) ?_
    refine RunK.step rfl rfl (ok_loadV (s := 1000013) (by decide) Try.underlying32 rfl rfl rfl (rfl)) ?_; refine RunK.as (.slice (some ⟨b12, dnS (o % 16) l.length (i), none⟩) (l.length - dnS (o % 16) l.length (i)) (l.length - dnS (o % 16) l.length (i))) (by rw [rpS_lt hm hi']) ?_
    refine RunK.step rfl rfl (ok_loadV (s := 1000014) (by decide) Try.underlying3 rfl rfl rfl (rfl)) ?_
    refine RunK.step rfl rfl (ok_sliceX (l := skS (o % 16) i) (h := 16) (m := 16) Try.underlying22 info5 rfl (.inl ⟨_, _, rfl, rfl⟩) (.inr ⟨rfl, rfl, rfl⟩) (.inr ⟨rfl, rfl⟩) (by omega) (by decide) (by decide) (.inl hsk)) ?_; refine RunK.as (.slice (some ⟨b15, skS (o % 16) i, none⟩) (16 - skS (o % 16) i) (16 - skS (o % 16) i)) (by rw [Nat.zero_add]) ?_
    refine RunK.nil ?_
    refine ⟨_, eff_callWR (n := 48) (s := 1000012) (combine_fnWR b12 b15 (dnS (o % 16) l.length (i)) (skS (o % 16) i) l.length (byL l) (xorG k s c o (byL l)) (ksB k s c (o / 16 + i)) (byL_lt l) (ksB_by hk _ _ _) (by omega) (by omega) (by omega) (fun j hj => xorG_block hm hi' hj)) (fun p hp => by simp only [List.mem_cons, List.not_mem_nil, or_false] at hp; rcases hp with rfl; exact ⟨1000015, by decide, rfl⟩) (Args.cons rfl (Le.refl _) (Args.cons rfl (Le.refl _) Args.nil)) hBb12 rfl (by decide) (by decide) (LeftS.cons (t := 12) rfl (Surv.v _) (LeftS.cons (t := 13) rfl (Surv.v _) (LeftS.cons (t := 14) rfl (Surv.v _) (LeftS.cons (t := 15) rfl (Surv.v _) (LeftS.cons (t := 42) rfl (Surv.v _) (LeftS.cons (t := 43) rfl (Surv.v _) (LeftS.cons (t := 44) rfl (Surv.v _) (LeftS.cons (t := 45) rfl (Surv.v _) (LeftS.cons (t := 1000004) rfl (Surv.blkT (by decide)) (LeftS.cons (t := 1000013) rfl (Surv.blkT (by decide)) (LeftS.cons (t := 1000014) rfl (Surv.blkT (by decide)) (LeftS.cons (t := 1000015) rfl (Surv.blkT (by decide)) (LeftS.cons (t := 1000091) rfl (Surv.blkT (by decide)) (LeftS.cons (t := 1000092) rfl (Surv.blkT (by decide)) (LeftS.cons (t := 1000098) rfl (Surv.rec rfl) (LeftS.cons (t := 1000099) rfl (Surv.rec rfl) LeftS.nil)))))))))))))))), ?_⟩
    refine RunTK.eff 4 (by decide) rfl (.inr (by kernel_rfl)) ?_
    refine RunK.nil ?_
    refine ⟨_, eff_storeS (n := 48) (s := 1000013) info32 rfl rfl rfl hBb13 rfl (by simp) (LeftS.cons (t := 12) rfl (Surv.v _) (LeftS.cons (t := 13) rfl (Surv.v _) (LeftS.cons (t := 14) rfl (Surv.v _) (LeftS.cons (t := 15) rfl (Surv.v _) (LeftS.cons (t := 42) rfl (Surv.v _) (LeftS.cons (t := 43) rfl (Surv.v _) (LeftS.cons (t := 44) rfl (Surv.v _) (LeftS.cons (t := 45) rfl (Surv.v _) (LeftS.cons (t := 46) rfl (Surv.v _) (LeftS.cons (t := 1000004) rfl (Surv.blkT (by decide)) (LeftS.cons (t := 1000012) rfl (Surv.blkT (by decide)) (LeftS.cons (t := 1000014) rfl (Surv.blkT (by decide)) (LeftS.cons (t := 1000015) rfl (Surv.blkT (by decide)) (LeftS.cons (t := 1000091) rfl (Surv.blkT (by decide)) (LeftS.cons (t := 1000092) rfl (Surv.blkT (by decide)) (LeftS.cons (t := 1000098) rfl (Surv.rec rfl) (LeftS.cons (t := 1000099) rfl (Surv.rec rfl) LeftS.nil))))))))))))))))), ?_⟩
    refine RunTK.last ?_
    refine RunK.nil ?_
    refine A.sub (Sub.cons (t := 14) rfl (Sub.cons (t := 1000004) rfl (Sub.eq (t := 1000012) _ rfl (show _ = blk b12 5 (rowV l.length (mid (byL l) (xorG k s c o (byL l)) (dnS (o % 16) l.length (i + 1)))) from by rw [dnS_next ha hm hi']) (Sub.eq (t := 1000013) _ rfl (show _ = blk b13 32 [.slice (some ⟨b12, rpS (o % 16) l.length (i + 1), none⟩) (l.length - dnS (o % 16) l.length (i + 1)) (l.length - dnS (o % 16) l.length (i + 1))] from congrArg _ (by rw [rpS_next ha hm hi', Nat.sub_sub, dnS_next ha hm hi']; rfl)) (Sub.cons (t := 1000014) rfl (Sub.cons (t := 1000015) rfl (Sub.cons (t := 1000091) rfl (Sub.cons (t := 1000092) rfl (Sub.cons (t := 1000098) rfl (Sub.cons (t := 1000099) rfl Sub.nil)))))))))) ?_
    refine A.reg (by kernel_rfl) (by kernel_rfl) (.inl rfl) ?_
    refine RunTK.eff 0 (by decide) rfl (.inl rfl) ?_
    refine RunK.nil ?_
    refine ⟨_, eff_storeS (n := 48) (s := 1000014) info3 rfl rfl rfl hBb14 rfl (by simp) (LeftS.cons (t := 14) rfl (Surv.v _) (LeftS.cons (t := 1000004) rfl (Surv.blkT (by decide)) (LeftS.cons (t := 1000012) rfl (Surv.blkT (by decide)) (LeftS.cons (t := 1000013) rfl (Surv.blkT (by decide)) (LeftS.cons (t := 1000015) rfl (Surv.blkT (by decide)) (LeftS.cons (t := 1000091) rfl (Surv.blkT (by decide)) (LeftS.cons (t := 1000092) rfl (Surv.blkT (by decide)) (LeftS.cons (t := 1000098) rfl (Surv.rec rfl) (LeftS.cons (t := 1000099) rfl (Surv.rec rfl) LeftS.nil))))))))), ?_⟩
    refine RunTK.last ?_
    refine RunK.nil ?_
    refine End.sub (Sub.cons (t := 1000004) rfl (Sub.cons (t := 1000012) rfl (Sub.cons (t := 1000013) rfl (Sub.eq (t := 1000014) _ rfl (show _ = blk b14 3 [.int .i64 ((skS (o % 16) (i + 1) : Nat) : Int)] from by rw [skS_succ]; rfl) (Sub.cons (t := 1000015) rfl (Sub.cons (t := 1000091) rfl (Sub.cons (t := 1000092) rfl (Sub.cons (t := 1000098) rfl (Sub.cons (t := 1000099) rfl Sub.nil))))))))) ?_
    refine End.normal_block ?_
    exact End.round (Sub.cons (t := 1000098) rfl (Sub.cons (t := 1000099) rfl (Sub.cons (t := 1000012) rfl (Sub.cons (t := 1000013) rfl (Sub.cons (t := 1000014) rfl (Sub.cons (t := 1000091) rfl (Sub.cons (t := 1000092) rfl (Sub.cons (t := 1000004) rfl Sub.nil)))))))) (fun x hx => by simp only [List.mem_cons, List.mem_append, List.not_mem_nil, or_false] at hx; rcases hx with rfl | rfl | (rfl | rfl | rfl | rfl | rfl) | rfl <;> exact vle rfl) (by decide)
  · intro D hD
    refine End.normal_block ?_
    refine End.normal_then (End.code ?_)
    refine A.regs (by kernel_rfl) (by kernel_rfl) (.inl rfl) ?_
    refine RunTK.last ?_
    refine RunK.step rfl rfl (ok_move rfl) ?_
    refine RunK.step rfl rfl (ok_assign rfl) ?_
    refine RunK.step rfl rfl (ok_assign rfl) ?_
    refine RunK.nil ?_
    refine A.sub (Sub.cons (t := 8) rfl (Sub.cons (t := 9) rfl (Sub.cons (t := 1000012) rfl (Sub.cons (t := 1000013) rfl (Sub.cons (t := 1000014) rfl (Sub.cons (t := 1000091) rfl (Sub.cons (t := 1000092) rfl (Sub.cons (t := 1000099) rfl Sub.nil)))))))) ?_
    refine A.ret ?_
    refine End.bytes 8 1000012 (xorK k s c o l) rfl (xorK_length k s c o l).symm rfl (by rw [dnS_end ha hm, mid_full, xorK_length, List.take_of_length_le (Nat.le_of_eq (rowV_length _ _)), xorK_row hk s c o l rfl]) (Nat.le_of_eq (xorK_length k s c o l)) (by simp only [maxLen]; omega) ?_
    exact End.ret2C (D := D) (vD := 1000099) rfl hD rfl rfl Firm.bytes (Le.refl _) rfl (Firm.v _ _) (Le.refl _)
theorem Xor7_fn (k : Nat → Nat) (hk : By k) (s c o : Nat) (l : List UInt8) (hs : s < 4294967296) (hc : c < 18446744073709551616) (ho : o + l.length ≤ 1048576) : Fn Try.prog 12 [.v (aggV (rowV 16 (k))), .v (aggV ([.int .u32 ((s : Nat) : Int), .int .u64 ((c : Nat) : Int)])), .v (.int .i64 ((o : Nat) : Int)), byt l] (tup [bytes (xorK k s c o l) l.length, .v (.int .i64 0)]) := by
  by_cases hm : 0 < l.length
  · exact Xor7_pos k hk s c o l hs hc hm ho
  · obtain rfl : l = [] := List.eq_nil_of_length_eq_zero (by omega)
    exact (Xor7_empty k s c (o : Int) [] (by omega) (by omega) rfl).le (tup_le2 bytes_nil_le (Le.refl _))
end Go.Proofs.Ythggljahgnjcbaa
