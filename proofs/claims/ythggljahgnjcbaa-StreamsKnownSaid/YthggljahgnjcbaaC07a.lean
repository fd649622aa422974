/-
  The contracts of caissonref07: a block of the key stream, data against a key stream byte by byte, ranges of counters.
-/
import Derived.Test.YthggljahgnjcbaaC06b
import Derived.Test.YthggljahgnjcbaaC01d
import Derived.Test.YthggljahgnjcbaaStream
import Derived.Test.YthggljahgnjcbaaCalls
import Derived.Test.YthggljahgnjcbaaFlat
import Derived.Test.YthggljahgnjcbaaMore
namespace Go.Proofs.Ythggljahgnjcbaa
open Go Go.RowKit
set_option linter.unusedVariables false

theorem info23 : InfoIs Try.prog 23 (.int .u32 0) 4 := by unfold InfoIs; kernel_rfl
theorem info24 : InfoIs Try.prog 24 (.int .u64 0) 8 := by unfold InfoIs; kernel_rfl
theorem info39 : InfoIs Try.prog 39 (.int .u16 0) 2 := by unfold InfoIs; kernel_rfl
theorem info33 : InfoIs Try.prog 33 (.int .i64 0) 8 := by unfold InfoIs; kernel_rfl
theorem zero26 : ZeroIs Try.prog 26 ([.int .u32 0] ++ [.int .u64 0]) := by unfold ZeroIs; kernel_rfl
theorem size26 : SizeIs Try.prog 26 2 := by unfold SizeIs; kernel_rfl
theorem field26_0 : FieldIs Try.prog 26 0 0 1 := by unfold FieldIs; kernel_rfl
theorem field26_1 : FieldIs Try.prog 26 1 1 1 := by unfold FieldIs; kernel_rfl
theorem zero28 : ZeroIs Try.prog 28 (List.replicate 16 (.int .u8 0) ++ [.int .u32 0] ++ [.int .u64 0]) := by unfold ZeroIs; kernel_rfl
theorem size28 : SizeIs Try.prog 28 18 := by unfold SizeIs; kernel_rfl
theorem field28_0 : FieldIs Try.prog 28 0 0 16 := by unfold FieldIs; kernel_rfl
theorem field28_1 : FieldIs Try.prog 28 1 16 2 := by unfold FieldIs; kernel_rfl
theorem zero46 : ZeroIs Try.prog 46 ([.int .u32 0] ++ [.int .u64 0] ++ [.int .u32 0] ++ [.int .u32 0]) := by unfold ZeroIs; kernel_rfl
theorem size46 : SizeIs Try.prog 46 4 := by unfold SizeIs; kernel_rfl
theorem field46_0 : FieldIs Try.prog 46 0 0 2 := by unfold FieldIs; kernel_rfl
theorem field46_1 : FieldIs Try.prog 46 1 2 1 := by unfold FieldIs; kernel_rfl
theorem field46_2 : FieldIs Try.prog 46 2 3 1 := by unfold FieldIs; kernel_rfl

theorem zero43 : ZeroIs Try.prog 43 [.int .u32 0, .int .u32 0] := by unfold ZeroIs; kernel_rfl
theorem size43 : SizeIs Try.prog 43 2 := by unfold SizeIs; kernel_rfl
theorem flat26 : flat Try.prog 3 26 = some [.u32, .u64] := by kernel_rfl
theorem flat46 : flat Try.prog 3 46 = some [.u32, .u64, .u32, .u32] := by kernel_rfl
theorem kinN (a b : Int) : Kin (fun _ _ => True) [.u32, .u64] [.int .u32 a, .int .u64 b] := kin_cons (kin_cons kin_nil)
theorem kinR (a b c d : Int) : Kin (fun _ _ => True) [.u32, .u64, .u32, .u32] [.int .u32 a, .int .u64 b, .int .u32 c, .int .u32 d] := kin_cons (kin_cons (kin_cons (kin_cons kin_nil)))
theorem eqN {s c s' c' : Nat} : decide (s = s' ∧ c = c') = true ↔ [.int .u32 ((s : Nat) : Int), .int .u64 ((c : Nat) : Int)] = ([.int .u32 ((s' : Nat) : Int), .int .u64 ((c' : Nat) : Int)] : List Value) := by simp; omega
theorem byteD_getD {l : List UInt8} {i : Nat} (h : i < l.length) : (l.map byteD)[i]? = some (byteD (l.getD i 0)) := by
  rw [List.getElem?_map, List.getElem?_eq_getElem h, List.getD_eq_getElem?_getD, List.getElem?_eq_getElem h]; rfl
/-- The block that stands behind n bytes. -/
def bst (k : Sta) (s c o n : Nat) : Sta := if n = 0 then fun _ => 0 else ksB k s c ((o + n - 1) / 16)
theorem bst_succ (k : Sta) (s c o n : Nat) : bst k s c o (n + 1) = ksB k s c ((o + n) / 16) := if_neg (Nat.succ_ne_zero n)
theorem bst_keep {k : Sta} {s c o n : Nat} (h : n ≠ 0) (hz : ¬ (o + n) % 16 = 0) : bst k s c o n = ksB k s c ((o + n) / 16) := by
  unfold bst
  rw [if_neg h, show (o + n - 1) / 16 = (o + n) / 16 from by omega]

set_option maxHeartbeats 1000000 in
theorem ref7Block_fn (k : Nat → Nat) (hk : By k) (s c t : Nat) (hs : s < 4294967296) (hc : c < 18446744073709551616) (ht : t < 4294967296) : Fn Try.prog 10 [.v (aggV (rowV 16 (k))), .v (aggV ([.int .u32 ((s : Nat) : Int), .int .u64 ((c : Nat) : Int)])), .v (.int .u32 ((t : Nat) : Int))] (.v (aggV (rowV 16 (ksB k s c t)))) := by
  refine Fn.of Try.func10 rfl (by kernel_rfl) Try.ntmps10 (by simp) (fun w => [(0, .v (aggV (rowV 16 (k)))), (1, .v (aggV ([.int .u32 ((s : Nat) : Int), .int .u64 ((c : Nat) : Int)]))), (2, .v (.int .u32 ((t : Nat) : Int)))]) (fun w => (Start.v rfl (Start.v rfl (Start.v rfl Start.nil)))) fun w₀ => ?_
  refine A.regs (by kernel_rfl) (by kernel_rfl) (.inl rfl) ?_
  refine RunTK.new 0 (by decide) rfl (.inl rfl) ?_
  refine RunK.nil ?_
  refine ⟨_, _, eff_box (n := 33) (d := 3) (k := 1000003) rfl (by decide), fun b3 hb3 => ?_⟩
  have hBb3 := hb3.1
  refine RunTK.new 1 (by decide) rfl (.inl rfl) ?_
  refine RunK.nil ?_
  refine ⟨_, _, eff_box (n := 33) (d := 4) (k := 1000004) rfl (by decide), fun b4 hb4 => ?_⟩
  have hBb4 := hb4.1
  have hlt_b3_b4 : b3 < b4 := hb4.2 1000003 _ _ _ rfl
  refine RunTK.new 2 (by decide) rfl (.inl rfl) ?_
  refine RunK.nil ?_
  refine ⟨_, _, eff_alloc (n := 33) (d := 6) (k := 1000006) zero22 (by decide), fun b6 hb6 => ?_⟩
  have hBb6 := hb6.1
  have hlt_b3_b6 : b3 < b6 := hb6.2 1000003 _ _ _ rfl
  have hlt_b4_b6 : b4 < b6 := hb6.2 1000004 _ _ _ rfl
  refine RunTK.last ?_
  refine RunK.nil ?_
  refine A.sub (Sub.cons (t := 2) rfl (Sub.cons (t := 3) rfl (Sub.cons (t := 4) rfl (Sub.cons (t := 6) rfl (Sub.cons (t := 1000003) rfl (Sub.cons (t := 1000004) rfl (Sub.cons (t := 1000006) rfl Sub.nil))))))) ?_
  refine A.regs (by kernel_rfl) (by kernel_rfl) (.inr (by kernel_rfl)) ?_
  refine RunTK.eff 9 (by decide) rfl (.inr (by kernel_rfl)) ?_
  refine RunK.step rfl rfl (ok_field field26_0 (by decide) rfl) ?_
  refine RunK.step rfl rfl (ok_loadV (s := 1000004) (by decide) Try.underlying23 rfl rfl rfl (rfl)) ?_
  refine RunK.step rfl rfl (ok_call ((refPut32_fn ((s : Nat) : Int) (by omega) (by omega)).le (d' := bytes (be 4 s) 4) (Le.refl _)) (Args.cons rfl (Le.refl _) Args.nil)) ?_
  refine RunK.step rfl rfl (ok_field field26_1 (by decide) rfl) ?_
  refine RunK.step rfl rfl (ok_loadV (s := 1000004) (by decide) Try.underlying24 rfl rfl rfl (rfl)) ?_
  refine RunK.step rfl rfl (ok_call ((refPut64_fn ((c : Nat) : Int) (by omega) (by omega)).le (d' := bytes (be 8 c) 8) (Le.refl _)) (Args.cons rfl (Le.refl _) Args.nil)) ?_
  refine RunK.step rfl rfl ((ok_appendFull (l := be 4 s) (m := be 8 c) Try.underlying32 info5 (by decide) rfl rfl (Le.eq (by rw [be_length])) rfl (le_byt _ _) (by rw [be_length]; decide) (by rw [be_length]; decide) (by rw [be_length, be_length]; decide))) ?_
  refine RunK.step rfl rfl (ok_move rfl) ?_
  refine RunK.step rfl rfl (ok_call ((refPut32_fn ((t : Nat) : Int) (by omega) (by omega)).le (d' := bytes (be 4 t) 4) (Le.refl _)) (Args.cons rfl (Le.refl _) Args.nil)) ?_
  refine RunK.nil ?_
  refine ⟨_, eff_appendS (vs := (be 4 t).map byteV) Try.underlying32 info5 (by decide) rfl rfl rfl ((le_byt _ _).trans (Le.eq (byt_vals _))) (by simp [byteV, Value.oneCell']) (by simp only [List.length_map, be_length]; decide) (by decide) (fun g hg => (LeftS.cons (t := 2) rfl (Surv.v _) (LeftS.cons (t := 3) rfl (Surv.v _) (LeftS.cons (t := 4) rfl (Surv.v _) (LeftS.cons (t := 6) rfl (Surv.v _) (LeftS.cons (t := 10) rfl (Surv.v _) (LeftS.cons (t := 11) rfl (Surv.v _) (LeftS.cons (t := 13) rfl (Surv.v _) (LeftS.cons (t := 14) rfl (Surv.v _) (LeftS.cons (t := 17) rfl (Surv.v _) (LeftS.cons (t := 1000003) rfl (Surv.blkT (by decide)) (LeftS.cons (t := 1000004) rfl (Surv.blkT (by decide)) (LeftS.cons (t := 1000006) rfl (Surv.blkT (by decide)) LeftS.nil))))))))))))), ?_⟩
  refine RunTK.last ?_
  refine RunK.step rfl rfl (ok_assign rfl) ?_
  refine RunK.nil ?_
  refine A.sub (Sub.cons (t := 3) rfl (Sub.cons (t := 6) rfl (Sub.cons (t := 7) rfl (Sub.cons (t := 1000003) rfl (Sub.cons (t := 1000004) rfl (Sub.cons (t := 1000006) rfl Sub.nil)))))) ?_
  refine A.regs (by kernel_rfl) (by kernel_rfl) (.inl rfl) ?_
  refine RunTK.new 0 (by decide) rfl (.inl rfl) ?_
  refine RunK.nil ?_
  refine ⟨_, _, eff_alloc (n := 33) (d := 8) (k := 1000008) zero22 (by decide), fun b8 hb8 => ?_⟩
  have hBb8 := hb8.1
  have hlt_b3_b8 : b3 < b8 := hb8.2 1000003 _ _ _ rfl
  have hlt_b4_b8 : b4 < b8 := hb8.2 1000004 _ _ _ rfl
  have hlt_b6_b8 : b6 < b8 := hb8.2 1000006 _ _ _ rfl
  refine RunTK.last ?_
  refine RunK.nil ?_
  refine A.sub (Sub.cons (t := 3) rfl (Sub.cons (t := 6) rfl (Sub.cons (t := 7) rfl (Sub.cons (t := 8) rfl (Sub.cons (t := 1000003) rfl (Sub.cons (t := 1000004) rfl (Sub.cons (t := 1000006) rfl (Sub.cons (t := 1000008) rfl Sub.nil)))))))) ?_
  refine A.seq ?_
  refine A.regs (by kernel_rfl) (by kernel_rfl) (.inl rfl) ?_
  refine RunTK.last ?_
  refine RunK.step rfl rfl (ok_assign rfl) ?_
  refine RunK.nil ?_
  refine A.sub (Sub.cons (t := 3) rfl (Sub.cons (t := 6) rfl (Sub.cons (t := 7) rfl (Sub.cons (t := 8) rfl (Sub.cons (t := 9) rfl (Sub.cons (t := 1000003) rfl (Sub.cons (t := 1000004) rfl (Sub.cons (t := 1000006) rfl (Sub.cons (t := 1000008) rfl Sub.nil))))))))) ?_
  refine A.block ?_
  refine A.loop (ι := Nat) (fun i => i ≤ 16) (fun i => [(3, .v (.pointer (some ⟨b3, 0, none⟩))), (6, .v (.pointer (some ⟨b6, 0, none⟩))), (8, .v (.pointer (some ⟨b8, 0, none⟩))), (7, own w₀.heap.size 5 16 ((ctrL s c t).map byteV)), (9, .v (.int .i64 ((i : Nat) : Int))), (1000003, blk b3 22 (rowV 16 (k))), (1000006, blk b6 22 (List.replicate 16 (.int .u8 0))), (1000008, blk b8 22 (rowV 16 (cutF (byL (ctrL s c t)) i)))]) (fun i => 16 - i) 0 ?_ ?_ ?_
  · exact Nat.zero_le _
  · exact (Sub.cons (t := 3) rfl (Sub.cons (t := 6) rfl (Sub.cons (t := 8) rfl (Sub.eq (t := 7) _ rfl (by simp only [be_length, List.length_map, ctrL, List.map_append, Nat.reduceAdd]) (Sub.cons (t := 9) rfl (Sub.cons (t := 1000003) rfl (Sub.cons (t := 1000006) rfl (Sub.eq (t := 1000008) _ rfl (congrArg _ (cutF_zero 16 _)) Sub.nil))))))))
  intro i hi'
  refine A.seq ?_
  refine A.regs (by kernel_rfl) (by kernel_rfl) (.inl rfl) ?_
  refine RunTK.last ?_
  refine RunK.step rfl rfl (ok_move rfl) ?_
  refine RunK.step rfl rfl (ok_bin rfl rfl rfl) ?_
  refine RunK.nil ?_
  refine A.sub (Sub.cons (t := 3) rfl (Sub.cons (t := 6) rfl (Sub.cons (t := 7) rfl (Sub.cons (t := 8) rfl (Sub.cons (t := 9) rfl (Sub.cons (t := 21) rfl (Sub.cons (t := 1000003) rfl (Sub.cons (t := 1000006) rfl (Sub.cons (t := 1000008) rfl Sub.nil))))))))) ?_
  refine A.cond rfl (fun hc21 => ?_) (fun hc21 => ?_)
  · have hi : i < 16 := by simp at hc21; omega
    refine A.skip ?_
    refine End.normal_then (End.code ?_)
    refine A.seq ?_
    refine A.block ?_
    refine A.reg (by kernel_rfl) (by kernel_rfl) (.inl rfl) ?_
    refine RunTK.eff 6 (by decide) rfl (.inl rfl) ?_
    refine RunK.step rfl rfl (ok_move rfl) ?_
    refine RunK.step rfl rfl (ok_move rfl) ?_
    refine RunK.step rfl rfl (ok_move rfl) ?_
    refine RunK.step rfl rfl (ok_index (d := byteD ((ctrL s c t).getD i 0)) Try.underlying32 info5 rfl (own_cat rfl (ctrL_length s c t).symm) rfl (by omega) (by rw [Int.toNat_natCast, byteD_getD (by rw [ctrL_length]; exact hi)])) ?_
    refine RunK.step rfl rfl (ok_load Try.underlying5 rfl rfl) ?_; refine RunK.as (.int .u8 ((byL (ctrL s c t) i : Nat) : Int)) (by rfl) ?_
    refine RunK.step rfl rfl (ok_index0 _ Try.underlying22 info5 rfl rfl (rfl) (by omega)) ?_
    refine RunK.nil ?_
    refine ⟨_, eff_storeS (n := 33) (s := 1000008) info5 rfl rfl rfl hBb8 rfl (by simp only [rowV_length]; omega) (LeftS.cons (t := 3) rfl (Surv.v _) (LeftS.cons (t := 6) rfl (Surv.v _) (LeftS.cons (t := 7) rfl (Surv.own (by decide)) (LeftS.cons (t := 8) rfl (Surv.v _) (LeftS.cons (t := 9) rfl (Surv.v _) (LeftS.cons (t := 21) rfl (Surv.v _) (LeftS.cons (t := 24) rfl (Surv.v _) (LeftS.cons (t := 25) rfl (Surv.own (by decide)) (LeftS.cons (t := 26) rfl (Surv.v _) (LeftS.cons (t := 28) rfl (Surv.v _) (LeftS.cons (t := 29) rfl (Surv.v _) (LeftS.cons (t := 1000003) rfl (Surv.blk (by omega)) (LeftS.cons (t := 1000006) rfl (Surv.blk (by omega)) LeftS.nil))))))))))))), ?_⟩
    refine RunTK.last ?_
    refine RunK.nil ?_
    refine End.sub (Sub.cons (t := 3) rfl (Sub.cons (t := 6) rfl (Sub.cons (t := 7) rfl (Sub.cons (t := 8) rfl (Sub.cons (t := 9) rfl (Sub.cons (t := 1000003) rfl (Sub.cons (t := 1000006) rfl (Sub.cons (t := 1000008) rfl Sub.nil)))))))) ?_
    refine End.normal_block ?_
    refine End.normal_then (End.code ?_)
    refine A.reg (by kernel_rfl) (by kernel_rfl) (.inl rfl) ?_
    refine RunTK.last ?_
    refine RunK.step rfl rfl (ok_move rfl) ?_
    refine RunK.step rfl rfl (ok_bin rfl rfl rfl) ?_; refine RunK.as (.int .i64 ((i + 1 : Nat) : Int)) (by rw [wrap_i64 (by omega) (by omega)]; exact congrArg (Value.int .i64) (by omega)) ?_
    refine RunK.step rfl rfl (ok_assign rfl) ?_
    refine RunK.nil ?_
    refine End.sub (Sub.cons (t := 3) rfl (Sub.cons (t := 6) rfl (Sub.cons (t := 7) rfl (Sub.cons (t := 8) rfl (Sub.cons (t := 9) rfl (Sub.cons (t := 1000003) rfl (Sub.cons (t := 1000006) rfl (Sub.cons (t := 1000008) rfl Sub.nil)))))))) ?_
    refine End.normal_then ?_
    refine End.again (i + 1) ?_ ?_ ?_
    · show _ ≤ _; omega
    · show _ - _ < _ - _; omega
    · exact (Sub.cons (t := 3) rfl (Sub.cons (t := 6) rfl (Sub.cons (t := 8) rfl (Sub.cons (t := 7) rfl (Sub.cons (t := 9) rfl (Sub.cons (t := 1000003) rfl (Sub.cons (t := 1000006) rfl (Sub.eq (t := 1000008) _ rfl (congrArg _ (cutF_set rfl rfl)) Sub.nil))))))))
  · obtain rfl : i = 16 := by simp at hc21; omega
    refine A.exit ?_
    refine End.exit_then ?_
    refine End.exit_then ?_
    refine End.exit_here ?_
    refine End.normal_then (End.code ?_)
    refine A.regs (by kernel_rfl) (by kernel_rfl) (.inl rfl) ?_
    refine RunTK.eff 3 (by decide) rfl (.inl rfl) ?_
    refine RunK.step rfl rfl (ok_loadA (s := 1000003) (by decide) Try.underlying22 rfl (size22.of (rowV_length _ _)) rfl rfl) ?_
    refine RunK.step rfl rfl (ok_loadA (s := 1000008) (by decide) Try.underlying22 rfl (size22.of (rowV_length _ _)) rfl rfl) ?_
    refine RunK.step rfl rfl (ok_call (refEncrypt_fn k (byL (ctrL s c t)) hk (byL_lt _)) (Args.cons rfl (Le.refl _) (Args.cons rfl (Le.refl _) Args.nil))) ?_
    refine RunK.nil ?_
    refine ⟨_, eff_storeA (n := 33) (s := 1000006) (size22.of (rowV_length _ _)) rfl rfl (rowV_one _ _) hBb6 rfl (by first | (simp only [rowV_length]; done) | simp only [rowV_length, List.length_replicate]) (LeftS.cons (t := 3) rfl (Surv.v _) (LeftS.cons (t := 6) rfl (Surv.v _) (LeftS.cons (t := 7) rfl (Surv.own (by decide)) (LeftS.cons (t := 8) rfl (Surv.v _) (LeftS.cons (t := 9) rfl (Surv.v _) (LeftS.cons (t := 21) rfl (Surv.v _) (LeftS.cons (t := 30) rfl (Surv.v _) (LeftS.cons (t := 31) rfl (Surv.v _) (LeftS.cons (t := 32) rfl (Surv.v _) (LeftS.cons (t := 1000003) rfl (Surv.blk (by omega)) (LeftS.cons (t := 1000008) rfl (Surv.blk (by omega)) LeftS.nil))))))))))), ?_⟩
    refine RunTK.last ?_
    refine RunK.nil ?_
    refine A.sub (Sub.cons (t := 6) rfl (Sub.cons (t := 1000003) rfl (Sub.cons (t := 1000006) rfl (Sub.cons (t := 1000008) rfl Sub.nil)))) ?_
    refine A.ret ?_
    exact End.cell1 (s := 1000006) rfl Try.underlying22 rfl (size22.of (rowV_length _ _)) rfl rfl (Le.refl _)
set_option maxHeartbeats 2000000 in
theorem ref7Xor_fn (k : Nat → Nat) (hk : By k) (s c o : Nat) (l : List UInt8) (hs : s < 4294967296) (hc : c < 18446744073709551616) (ho : o + l.length ≤ 1048576) : Fn Try.prog 14 [.v (aggV (rowV 16 (k))), .v (aggV ([.int .u32 ((s : Nat) : Int), .int .u64 ((c : Nat) : Int)])), .v (.int .i64 ((o : Nat) : Int)), byt l] (byt (xorK k s c o l)) := by
  refine Fn.of Try.func14 rfl (by kernel_rfl) Try.ntmps14 (by simp) (fun w => [(0, .v (aggV (rowV 16 (k)))), (1, .v (aggV ([.int .u32 ((s : Nat) : Int), .int .u64 ((c : Nat) : Int)]))), (2, .v (.int .i64 ((o : Nat) : Int))), (3, old w.heap.size (byt l))]) (fun w => (Start.v rfl (Start.v rfl (Start.v rfl (Start.old rfl Start.nil))))) fun w₀ => ?_
  refine A.regs (by kernel_rfl) (by kernel_rfl) (.inl rfl) ?_
  refine RunTK.new 0 (by decide) rfl (.inl rfl) ?_
  refine RunK.nil ?_
  refine ⟨_, _, eff_box (n := 48) (d := 4) (k := 1000004) rfl (by decide), fun b4 hb4 => ?_⟩
  have hBb4 := hb4.1
  refine RunTK.new 1 (by decide) rfl (.inl rfl) ?_
  refine RunK.nil ?_
  refine ⟨_, _, eff_box (n := 48) (d := 5) (k := 1000005) rfl (by decide), fun b5 hb5 => ?_⟩
  have hBb5 := hb5.1
  have hlt_b4_b5 : b4 < b5 := hb5.2 1000004 _ _ _ rfl
  refine RunTK.last ?_
  refine RunK.step rfl rfl (ok_assign rfl) ?_
  refine RunK.nil ?_
  refine A.sub (Sub.cons (t := 2) rfl (Sub.cons (t := 3) rfl (Sub.cons (t := 4) rfl (Sub.cons (t := 5) rfl (Sub.cons (t := 1000004) rfl (Sub.cons (t := 1000005) rfl Sub.nil)))))) ?_
  refine A.regs (by kernel_rfl) (by kernel_rfl) (.inl rfl) ?_
  refine RunTK.last ?_
  refine RunK.step rfl rfl (ok_assign rfl) ?_
  refine RunK.nil ?_
  refine A.sub (Sub.cons (t := 2) rfl (Sub.cons (t := 3) rfl (Sub.cons (t := 4) rfl (Sub.cons (t := 5) rfl (Sub.cons (t := 9) rfl (Sub.cons (t := 1000004) rfl (Sub.cons (t := 1000005) rfl Sub.nil))))))) ?_
  refine A.regs (by kernel_rfl) (by kernel_rfl) (.inl rfl) ?_
  refine RunTK.new 0 (by decide) rfl (.inl rfl) ?_
  refine RunK.nil ?_
  refine ⟨_, _, eff_alloc (n := 48) (d := 10) (k := 1000010) zero22 (by decide), fun b10 hb10 => ?_⟩
  have hBb10 := hb10.1
  have hlt_b4_b10 : b4 < b10 := hb10.2 1000004 _ _ _ rfl
  have hlt_b5_b10 : b5 < b10 := hb10.2 1000005 _ _ _ rfl
  refine RunTK.last ?_
  refine RunK.nil ?_
  refine A.sub (Sub.cons (t := 2) rfl (Sub.cons (t := 3) rfl (Sub.cons (t := 4) rfl (Sub.cons (t := 5) rfl (Sub.cons (t := 9) rfl (Sub.cons (t := 10) rfl (Sub.cons (t := 1000004) rfl (Sub.cons (t := 1000005) rfl (Sub.cons (t := 1000010) rfl Sub.nil))))))))) ?_
  refine A.seq ?_
  refine A.regs (by kernel_rfl) (by kernel_rfl) (.inl rfl) ?_
  refine RunTK.last ?_
  refine RunK.step rfl rfl (ok_assign rfl) ?_
  refine RunK.nil ?_
  refine A.sub (Sub.cons (t := 2) rfl (Sub.cons (t := 3) rfl (Sub.cons (t := 4) rfl (Sub.cons (t := 5) rfl (Sub.cons (t := 9) rfl (Sub.cons (t := 10) rfl (Sub.cons (t := 11) rfl (Sub.cons (t := 1000004) rfl (Sub.cons (t := 1000005) rfl (Sub.cons (t := 1000010) rfl Sub.nil)))))))))) ?_
  refine A.block ?_
  refine A.subL (SubL.cons (t := 2) rfl (Le.refl _) (SubL.cons (t := 3) rfl (Le.refl _) (SubL.cons (t := 4) rfl (Le.refl _) (SubL.cons (t := 5) rfl (Le.refl _) (SubL.cons (t := 10) rfl (Le.refl _) (SubL.cons (t := 1000004) rfl (Le.refl _) (SubL.cons (t := 1000005) rfl (Le.refl _) (SubL.cons (t := 9) rfl (own_nil (B := w₀.heap.size) (e := 5)) (SubL.cons (t := 11) rfl (Le.refl _) (SubL.cons (t := 1000010) rfl (Le.refl _) SubL.nil)))))))))) ?_
  refine A.loop (ι := Nat) (fun i => i ≤ l.length) (fun i => [(2, .v (.int .i64 ((o : Nat) : Int))), (3, old w₀.heap.size (byt l)), (4, .v (.pointer (some ⟨b4, 0, none⟩))), (5, .v (.pointer (some ⟨b5, 0, none⟩))), (10, .v (.pointer (some ⟨b10, 0, none⟩))), (1000004, blk b4 22 (rowV 16 (k))), (1000005, blk b5 26 ([.int .u32 ((s : Nat) : Int), .int .u64 ((c : Nat) : Int)])), (9, own w₀.heap.size 5 i (((xorK k s c o l).take i).map byteV)), (11, .v (.int .i64 ((i : Nat) : Int))), (1000010, blk b10 22 (rowV 16 (bst k s c o i)))]) (fun i => l.length - i) 0 ?_ ?_ ?_
  · exact Nat.zero_le _
  · exact (Sub.cons (t := 2) rfl (Sub.cons (t := 3) rfl (Sub.cons (t := 4) rfl (Sub.cons (t := 5) rfl (Sub.cons (t := 10) rfl (Sub.cons (t := 1000004) rfl (Sub.cons (t := 1000005) rfl (Sub.cons (t := 9) rfl (Sub.cons (t := 11) rfl (Sub.eq (t := 1000010) _ rfl (congrArg _ (rowV_zero 16)) Sub.nil))))))))))
  intro i hi'
  refine A.seq ?_
  refine A.regs (by kernel_rfl) (by kernel_rfl) (.inl rfl) ?_
  refine RunTK.last ?_
  refine RunK.step rfl rfl (ok_move rfl) ?_
  refine RunK.step rfl rfl (ok_move rfl) ?_
  refine RunK.step rfl rfl (ok_lenB Try.underlying32 rfl (by first | exact Le.refl _ | exact Le.old _ _ | exact le_byt _ _ | exact (Le.old _ _).trans (le_byt _ _) | exact le_lst _ _ | exact (Le.old _ _).trans (le_lst _ _) | exact (Le.old _ _).trans (Le.old _ _) | exact (Le.old _ _).trans ((Le.old _ _).trans (le_byt _ _)) | exact byt_nil_le | exact lst_nil_le | exact bytes_nil_le | exact list_nil_le)) ?_
  refine RunK.step rfl rfl (ok_bin rfl rfl rfl) ?_
  refine RunK.nil ?_
  refine A.sub (Sub.cons (t := 2) rfl (Sub.cons (t := 3) rfl (Sub.cons (t := 4) rfl (Sub.cons (t := 5) rfl (Sub.cons (t := 9) rfl (Sub.cons (t := 10) rfl (Sub.cons (t := 11) rfl (Sub.cons (t := 16) rfl (Sub.cons (t := 1000004) rfl (Sub.cons (t := 1000005) rfl (Sub.cons (t := 1000010) rfl Sub.nil))))))))))) ?_
  refine A.cond rfl (fun hc16 => ?_) (fun hc16 => ?_)
  · have hlt : i < l.length := by simpa using hc16
    refine A.skip ?_
    refine End.normal_then (End.code ?_)
    refine A.seq ?_
    refine A.block ?_
    refine A.regs (by kernel_rfl) (by kernel_rfl) (.inl rfl) ?_
    refine RunTK.last ?_
    refine RunK.step rfl rfl (ok_move rfl) ?_
    refine RunK.step rfl rfl (ok_move rfl) ?_
    refine RunK.step rfl rfl (ok_bin rfl rfl rfl) ?_; refine RunK.as (.int .i64 ((o + i : Nat) : Int)) (by rw [wrap_i64 (by omega) (by omega)]; exact congrArg (Value.int .i64) (by omega)) ?_
    refine RunK.step rfl rfl (ok_assign rfl) ?_
    refine RunK.nil ?_
    refine A.sub (Sub.cons (t := 2) rfl (Sub.cons (t := 3) rfl (Sub.cons (t := 4) rfl (Sub.cons (t := 5) rfl (Sub.cons (t := 9) rfl (Sub.cons (t := 10) rfl (Sub.cons (t := 11) rfl (Sub.cons (t := 12) rfl (Sub.cons (t := 1000004) rfl (Sub.cons (t := 1000005) rfl (Sub.cons (t := 1000010) rfl Sub.nil))))))))))) ?_
    refine A.seq ?_
    rcases Bool.eq_false_or_eq_true (decide (i = 0)) with hsp | hsp
    · refine A.regs (by kernel_rfl) (by kernel_rfl) (.inl rfl) ?_
      refine RunTK.last ?_
      refine RunK.step rfl rfl (ok_move rfl) ?_
      refine RunK.step rfl rfl (ok_bin rfl rfl rfl) ?_; refine RunK.as (.bool true) (by simpa using hsp) ?_
      refine RunK.step rfl rfl (ok_move rfl) ?_
      refine RunK.skipped rfl rfl rfl rfl rfl ?_
      refine RunK.skipped rfl rfl rfl rfl rfl ?_
      refine RunK.skipped rfl rfl rfl rfl rfl ?_
      refine RunK.step rfl rfl (ok_pick rfl rfl) ?_
      refine RunK.nil ?_
      refine A.sub (Sub.cons (t := 2) rfl (Sub.cons (t := 3) rfl (Sub.cons (t := 4) rfl (Sub.cons (t := 5) rfl (Sub.cons (t := 9) rfl (Sub.cons (t := 10) rfl (Sub.cons (t := 11) rfl (Sub.cons (t := 12) rfl (Sub.cons (t := 28) rfl (Sub.cons (t := 1000004) rfl (Sub.cons (t := 1000005) rfl (Sub.cons (t := 1000010) rfl Sub.nil)))))))))))) ?_
      refine A.yes rfl ?_
      refine A.reg (by kernel_rfl) (by kernel_rfl) (.inl rfl) ?_
      refine RunTK.eff 6 (by decide) rfl (.inl rfl) ?_
      refine RunK.step rfl rfl (ok_loadA (s := 1000004) (by decide) Try.underlying22 rfl (size22.of (rowV_length _ _)) rfl rfl) ?_
      refine RunK.step rfl rfl (ok_loadA (s := 1000005) (by decide) Try.underlying26 rfl (size26.of (rfl)) rfl rfl) ?_
      refine RunK.step rfl rfl (ok_move rfl) ?_
      refine RunK.step rfl rfl (ok_div rfl rfl (by decide)) ?_; refine RunK.as (.int .i64 (((o + i) / 16 : Nat) : Int)) (by rw [tdiv_lit _ (by decide), show Int.toNat 16 = 16 from rfl, wrapN_i64 (by omega)]) ?_
      refine RunK.step rfl rfl (ok_conv Try.underlying3 Try.underlying23 rfl) ?_; refine RunK.as (.int .u32 (((o + i) / 16 : Nat) : Int)) (by rw [wrapN_u32 (by omega)]) ?_
      refine RunK.step rfl rfl (ok_call (ref7Block_fn k hk s c ((o + i) / 16) hs hc (by omega)) (Args.cons rfl (Le.refl _) (Args.cons rfl (Le.refl _) (Args.cons rfl (Le.refl _) Args.nil)))) ?_
      refine RunK.nil ?_
      refine ⟨_, eff_storeA (n := 48) (s := 1000010) (size22.of (rowV_length _ _)) rfl rfl (rowV_one _ _) hBb10 rfl (by first | (simp only [rowV_length]; done) | simp only [rowV_length, List.length_replicate]) (LeftS.cons (t := 2) rfl (Surv.v _) (LeftS.cons (t := 3) rfl (Surv.old (by omega)) (LeftS.cons (t := 4) rfl (Surv.v _) (LeftS.cons (t := 5) rfl (Surv.v _) (LeftS.cons (t := 9) rfl (Surv.own (by decide)) (LeftS.cons (t := 10) rfl (Surv.v _) (LeftS.cons (t := 11) rfl (Surv.v _) (LeftS.cons (t := 12) rfl (Surv.v _) (LeftS.cons (t := 28) rfl (Surv.v _) (LeftS.cons (t := 29) rfl (Surv.v _) (LeftS.cons (t := 30) rfl (Surv.v _) (LeftS.cons (t := 31) rfl (Surv.v _) (LeftS.cons (t := 32) rfl (Surv.v _) (LeftS.cons (t := 33) rfl (Surv.v _) (LeftS.cons (t := 34) rfl (Surv.v _) (LeftS.cons (t := 1000004) rfl (Surv.blk (by omega)) (LeftS.cons (t := 1000005) rfl (Surv.blkT (by decide)) LeftS.nil))))))))))))))))), ?_⟩
      refine RunTK.last ?_
      refine RunK.nil ?_
      refine End.sub (Sub.cons (t := 2) rfl (Sub.cons (t := 3) rfl (Sub.cons (t := 4) rfl (Sub.cons (t := 5) rfl (Sub.cons (t := 9) rfl (Sub.cons (t := 10) rfl (Sub.cons (t := 11) rfl (Sub.cons (t := 12) rfl (Sub.cons (t := 1000004) rfl (Sub.cons (t := 1000005) rfl (Sub.cons (t := 1000010) rfl Sub.nil))))))))))) ?_
      refine End.normal_then (End.code ?_)
      refine A.reg (by kernel_rfl) (by kernel_rfl) (.inr (by kernel_rfl)) ?_
      refine RunTK.eff 11 (by decide) rfl (.inr (by kernel_rfl)) ?_
      refine RunK.step rfl rfl (ok_move rfl) ?_
      refine RunK.step rfl rfl (ok_move rfl) ?_
      refine RunK.step rfl rfl (ok_move rfl) ?_
      refine RunK.step rfl rfl (ok_index (d := byteD (l.getD i 0)) Try.underlying32 info5 rfl (by first | exact Le.refl _ | exact Le.old _ _ | exact le_byt _ _ | exact (Le.old _ _).trans (le_byt _ _) | exact le_lst _ _ | exact (Le.old _ _).trans (le_lst _ _) | exact (Le.old _ _).trans (Le.old _ _) | exact (Le.old _ _).trans ((Le.old _ _).trans (le_byt _ _)) | exact byt_nil_le | exact lst_nil_le | exact bytes_nil_le | exact list_nil_le) rfl (by omega) (by rw [Int.toNat_natCast, byteD_getD hlt])) ?_
      refine RunK.step rfl rfl (ok_load Try.underlying5 rfl rfl) ?_; refine RunK.as (.int .u8 ((byL l i : Nat) : Int)) (by rfl) ?_
      refine RunK.step rfl rfl (ok_move rfl) ?_
      refine RunK.step rfl rfl (ok_rem rfl rfl (by decide)) ?_; refine RunK.as (.int .i64 (((o + i) % 16 : Nat) : Int)) (by rw [tmod_lit _ (by decide)]; rfl) ?_
      refine RunK.step rfl rfl (ok_index0 ((o + i) % 16) Try.underlying22 info5 rfl rfl (rfl) (by omega)) ?_
      refine RunK.step rfl rfl (ok_loadV (s := 1000010) (by decide) Try.underlying5 rfl rfl rfl (rowV_get (by omega))) ?_; refine RunK.as (.int .u8 ((ksAt k s c (o + i) : Nat) : Int)) (v8 (by first | rfl | exact congrFun (bst_keep (by simpa using hsp) hz) _)) ?_
      refine RunK.step rfl rfl (ok_bin rfl rfl rfl) ?_; refine RunK.as (byteV (UInt8.ofNat (xorG k s c o (byL l) i))) (by rw [show IntKind.u8.bits = 8 from rfl, xor_u8N (byL_lt _ _) (ksAt_lt hk _ _ _), ofNat_byte (xorG_lt hk _ _ _ (byL_lt l) _)]; rfl) ?_
      refine RunK.step rfl rfl (ok_build [byteD (UInt8.ofNat (xorG k s c o (byL l) i))] Try.underlying32 info5 rfl (by decide) (by decide) rfl ⟨rfl, rfl, trivial⟩ (fun d hd w x h => by simp only [List.mem_cons, List.not_mem_nil, or_false] at hd; subst hd; exact v_one rfl h)) ?_
      refine RunK.nil ?_
      refine ⟨_, eff_appendS (vs := [byteV (UInt8.ofNat (xorG k s c o (byL l) i))]) Try.underlying32 info5 (by decide) rfl rfl rfl (le_lst _ _) (by simp [byteV, Value.oneCell']) (by simp; omega) (by decide) (fun g hg => (LeftS.cons (t := 2) rfl (Surv.v _) (LeftS.cons (t := 3) rfl (Surv.old (by omega)) (LeftS.cons (t := 4) rfl (Surv.v _) (LeftS.cons (t := 5) rfl (Surv.v _) (LeftS.cons (t := 10) rfl (Surv.v _) (LeftS.cons (t := 11) rfl (Surv.v _) (LeftS.cons (t := 12) rfl (Surv.v _) (LeftS.cons (t := 36) rfl (Surv.old (by omega)) (LeftS.cons (t := 37) rfl (Surv.v _) (LeftS.cons (t := 39) rfl (Surv.v _) (LeftS.cons (t := 40) rfl (Surv.v _) (LeftS.cons (t := 41) rfl (Surv.v _) (LeftS.cons (t := 42) rfl (Surv.v _) (LeftS.cons (t := 43) rfl (Surv.v _) (LeftS.cons (t := 44) rfl (Surv.v _) (LeftS.cons (t := 1000004) rfl (Surv.blkT (by decide)) (LeftS.cons (t := 1000005) rfl (Surv.blkT (by decide)) (LeftS.cons (t := 1000010) rfl (Surv.blkT (by decide)) LeftS.nil))))))))))))))))))), ?_⟩
      refine RunTK.last ?_
      refine RunK.step rfl rfl (ok_assign rfl) ?_
      refine RunK.nil ?_
      refine End.sub (Sub.cons (t := 2) rfl (Sub.cons (t := 3) rfl (Sub.cons (t := 4) rfl (Sub.cons (t := 5) rfl (Sub.cons (t := 9) rfl (Sub.cons (t := 10) rfl (Sub.cons (t := 11) rfl (Sub.cons (t := 1000004) rfl (Sub.cons (t := 1000005) rfl (Sub.cons (t := 1000010) rfl Sub.nil)))))))))) ?_
      refine End.normal_block ?_
      refine End.normal_then (End.code ?_)
      refine A.reg (by kernel_rfl) (by kernel_rfl) (.inl rfl) ?_
      refine RunTK.last ?_
      refine RunK.step rfl rfl (ok_move rfl) ?_
      refine RunK.step rfl rfl (ok_bin rfl rfl rfl) ?_; refine RunK.as (.int .i64 ((i + 1 : Nat) : Int)) (by rw [wrap_i64 (by omega) (by omega)]; exact congrArg (Value.int .i64) (by omega)) ?_
      refine RunK.step rfl rfl (ok_assign rfl) ?_
      refine RunK.nil ?_
      refine End.sub (Sub.cons (t := 2) rfl (Sub.cons (t := 3) rfl (Sub.cons (t := 4) rfl (Sub.cons (t := 5) rfl (Sub.cons (t := 9) rfl (Sub.cons (t := 10) rfl (Sub.cons (t := 11) rfl (Sub.cons (t := 1000004) rfl (Sub.cons (t := 1000005) rfl (Sub.cons (t := 1000010) rfl Sub.nil)))))))))) ?_
      refine End.normal_then ?_
      refine End.again (i + 1) ?_ ?_ ?_
      · show _ ≤ _; omega
      · show _ - _ < _ - _; omega
      · exact (Sub.cons (t := 2) rfl (Sub.cons (t := 3) rfl (Sub.cons (t := 4) rfl (Sub.cons (t := 5) rfl (Sub.cons (t := 10) rfl (Sub.cons (t := 1000004) rfl (Sub.cons (t := 1000005) rfl (Sub.eq (t := 9) _ rfl (by rw [List.take_add_one, xorK_get hlt, List.map_append]; rfl) (Sub.cons (t := 11) rfl (Sub.eq (t := 1000010) _ rfl (by first | (rw [bst_succ]; done) | rw [bst_succ, bst_keep (by simpa using hsp) hz]) Sub.nil))))))))))
    · refine A.regs (by kernel_rfl) (by kernel_rfl) (.inl rfl) ?_
      refine RunTK.last ?_
      refine RunK.step rfl rfl (ok_move rfl) ?_
      refine RunK.step rfl rfl (ok_bin rfl rfl rfl) ?_; refine RunK.as (.bool false) (by simpa using hsp) ?_
      refine RunK.step rfl rfl (ok_move rfl) ?_
      refine RunK.guarded rfl rfl rfl rfl (ok_move rfl) ?_
      refine RunK.guarded rfl rfl rfl rfl (ok_rem rfl rfl (by decide)) ?_; refine RunK.as (.int .i64 (((o + i) % 16 : Nat) : Int)) (by rw [tmod_lit _ (by decide)]; rfl) ?_
      refine RunK.guarded rfl rfl rfl rfl (ok_bin rfl rfl rfl) ?_
      refine RunK.step rfl rfl (ok_pick rfl rfl) ?_
      refine RunK.nil ?_
      refine A.sub (Sub.cons (t := 2) rfl (Sub.cons (t := 3) rfl (Sub.cons (t := 4) rfl (Sub.cons (t := 5) rfl (Sub.cons (t := 9) rfl (Sub.cons (t := 10) rfl (Sub.cons (t := 11) rfl (Sub.cons (t := 12) rfl (Sub.cons (t := 28) rfl (Sub.cons (t := 1000004) rfl (Sub.cons (t := 1000005) rfl (Sub.cons (t := 1000010) rfl Sub.nil)))))))))))) ?_
      refine A.cond rfl (fun hc28 => ?_) (fun hc28 => ?_)
      · have hz : (o + i) % 16 = 0 := by simp at hc28; omega
        refine A.reg (by kernel_rfl) (by kernel_rfl) (.inl rfl) ?_
        refine RunTK.eff 6 (by decide) rfl (.inl rfl) ?_
        refine RunK.step rfl rfl (ok_loadA (s := 1000004) (by decide) Try.underlying22 rfl (size22.of (rowV_length _ _)) rfl rfl) ?_
        refine RunK.step rfl rfl (ok_loadA (s := 1000005) (by decide) Try.underlying26 rfl (size26.of (rfl)) rfl rfl) ?_
        refine RunK.step rfl rfl (ok_move rfl) ?_
        refine RunK.step rfl rfl (ok_div rfl rfl (by decide)) ?_; refine RunK.as (.int .i64 (((o + i) / 16 : Nat) : Int)) (by rw [tdiv_lit _ (by decide), show Int.toNat 16 = 16 from rfl, wrapN_i64 (by omega)]) ?_
        refine RunK.step rfl rfl (ok_conv Try.underlying3 Try.underlying23 rfl) ?_; refine RunK.as (.int .u32 (((o + i) / 16 : Nat) : Int)) (by rw [wrapN_u32 (by omega)]) ?_
        refine RunK.step rfl rfl (ok_call (ref7Block_fn k hk s c ((o + i) / 16) hs hc (by omega)) (Args.cons rfl (Le.refl _) (Args.cons rfl (Le.refl _) (Args.cons rfl (Le.refl _) Args.nil)))) ?_
        refine RunK.nil ?_
        refine ⟨_, eff_storeA (n := 48) (s := 1000010) (size22.of (rowV_length _ _)) rfl rfl (rowV_one _ _) hBb10 rfl (by first | (simp only [rowV_length]; done) | simp only [rowV_length, List.length_replicate]) (LeftS.cons (t := 2) rfl (Surv.v _) (LeftS.cons (t := 3) rfl (Surv.old (by omega)) (LeftS.cons (t := 4) rfl (Surv.v _) (LeftS.cons (t := 5) rfl (Surv.v _) (LeftS.cons (t := 9) rfl (Surv.own (by decide)) (LeftS.cons (t := 10) rfl (Surv.v _) (LeftS.cons (t := 11) rfl (Surv.v _) (LeftS.cons (t := 12) rfl (Surv.v _) (LeftS.cons (t := 28) rfl (Surv.v _) (LeftS.cons (t := 29) rfl (Surv.v _) (LeftS.cons (t := 30) rfl (Surv.v _) (LeftS.cons (t := 31) rfl (Surv.v _) (LeftS.cons (t := 32) rfl (Surv.v _) (LeftS.cons (t := 33) rfl (Surv.v _) (LeftS.cons (t := 34) rfl (Surv.v _) (LeftS.cons (t := 1000004) rfl (Surv.blk (by omega)) (LeftS.cons (t := 1000005) rfl (Surv.blkT (by decide)) LeftS.nil))))))))))))))))), ?_⟩
        refine RunTK.last ?_
        refine RunK.nil ?_
        refine End.sub (Sub.cons (t := 2) rfl (Sub.cons (t := 3) rfl (Sub.cons (t := 4) rfl (Sub.cons (t := 5) rfl (Sub.cons (t := 9) rfl (Sub.cons (t := 10) rfl (Sub.cons (t := 11) rfl (Sub.cons (t := 12) rfl (Sub.cons (t := 1000004) rfl (Sub.cons (t := 1000005) rfl (Sub.cons (t := 1000010) rfl Sub.nil))))))))))) ?_
        refine End.normal_then (End.code ?_)
        refine A.reg (by kernel_rfl) (by kernel_rfl) (.inr (by kernel_rfl)) ?_
        refine RunTK.eff 11 (by decide) rfl (.inr (by kernel_rfl)) ?_
        refine RunK.step rfl rfl (ok_move rfl) ?_
        refine RunK.step rfl rfl (ok_move rfl) ?_
        refine RunK.step rfl rfl (ok_move rfl) ?_
        refine RunK.step rfl rfl (ok_index (d := byteD (l.getD i 0)) Try.underlying32 info5 rfl (by first | exact Le.refl _ | exact Le.old _ _ | exact le_byt _ _ | exact (Le.old _ _).trans (le_byt _ _) | exact le_lst _ _ | exact (Le.old _ _).trans (le_lst _ _) | exact (Le.old _ _).trans (Le.old _ _) | exact (Le.old _ _).trans ((Le.old _ _).trans (le_byt _ _)) | exact byt_nil_le | exact lst_nil_le | exact bytes_nil_le | exact list_nil_le) rfl (by omega) (by rw [Int.toNat_natCast, byteD_getD hlt])) ?_
        refine RunK.step rfl rfl (ok_load Try.underlying5 rfl rfl) ?_; refine RunK.as (.int .u8 ((byL l i : Nat) : Int)) (by rfl) ?_
        refine RunK.step rfl rfl (ok_move rfl) ?_
        refine RunK.step rfl rfl (ok_rem rfl rfl (by decide)) ?_; refine RunK.as (.int .i64 (((o + i) % 16 : Nat) : Int)) (by rw [tmod_lit _ (by decide)]; rfl) ?_
        refine RunK.step rfl rfl (ok_index0 ((o + i) % 16) Try.underlying22 info5 rfl rfl (rfl) (by omega)) ?_
        refine RunK.step rfl rfl (ok_loadV (s := 1000010) (by decide) Try.underlying5 rfl rfl rfl (rowV_get (by omega))) ?_; refine RunK.as (.int .u8 ((ksAt k s c (o + i) : Nat) : Int)) (v8 (by first | rfl | exact congrFun (bst_keep (by simpa using hsp) hz) _)) ?_
        refine RunK.step rfl rfl (ok_bin rfl rfl rfl) ?_; refine RunK.as (byteV (UInt8.ofNat (xorG k s c o (byL l) i))) (by rw [show IntKind.u8.bits = 8 from rfl, xor_u8N (byL_lt _ _) (ksAt_lt hk _ _ _), ofNat_byte (xorG_lt hk _ _ _ (byL_lt l) _)]; rfl) ?_
        refine RunK.step rfl rfl (ok_build [byteD (UInt8.ofNat (xorG k s c o (byL l) i))] Try.underlying32 info5 rfl (by decide) (by decide) rfl ⟨rfl, rfl, trivial⟩ (fun d hd w x h => by simp only [List.mem_cons, List.not_mem_nil, or_false] at hd; subst hd; exact v_one rfl h)) ?_
        refine RunK.nil ?_
        refine ⟨_, eff_appendS (vs := [byteV (UInt8.ofNat (xorG k s c o (byL l) i))]) Try.underlying32 info5 (by decide) rfl rfl rfl (le_lst _ _) (by simp [byteV, Value.oneCell']) (by simp; omega) (by decide) (fun g hg => (LeftS.cons (t := 2) rfl (Surv.v _) (LeftS.cons (t := 3) rfl (Surv.old (by omega)) (LeftS.cons (t := 4) rfl (Surv.v _) (LeftS.cons (t := 5) rfl (Surv.v _) (LeftS.cons (t := 10) rfl (Surv.v _) (LeftS.cons (t := 11) rfl (Surv.v _) (LeftS.cons (t := 12) rfl (Surv.v _) (LeftS.cons (t := 36) rfl (Surv.old (by omega)) (LeftS.cons (t := 37) rfl (Surv.v _) (LeftS.cons (t := 39) rfl (Surv.v _) (LeftS.cons (t := 40) rfl (Surv.v _) (LeftS.cons (t := 41) rfl (Surv.v _) (LeftS.cons (t := 42) rfl (Surv.v _) (LeftS.cons (t := 43) rfl (Surv.v _) (LeftS.cons (t := 44) rfl (Surv.v _) (LeftS.cons (t := 1000004) rfl (Surv.blkT (by decide)) (LeftS.cons (t := 1000005) rfl (Surv.blkT (by decide)) (LeftS.cons (t := 1000010) rfl (Surv.blkT (by decide)) LeftS.nil))))))))))))))))))), ?_⟩
        refine RunTK.last ?_
        refine RunK.step rfl rfl (ok_assign rfl) ?_
        refine RunK.nil ?_
        refine End.sub (Sub.cons (t := 2) rfl (Sub.cons (t := 3) rfl (Sub.cons (t := 4) rfl (Sub.cons (t := 5) rfl (Sub.cons (t := 9) rfl (Sub.cons (t := 10) rfl (Sub.cons (t := 11) rfl (Sub.cons (t := 1000004) rfl (Sub.cons (t := 1000005) rfl (Sub.cons (t := 1000010) rfl Sub.nil)))))))))) ?_
        refine End.normal_block ?_
        refine End.normal_then (End.code ?_)
        refine A.reg (by kernel_rfl) (by kernel_rfl) (.inl rfl) ?_
        refine RunTK.last ?_
        refine RunK.step rfl rfl (ok_move rfl) ?_
        refine RunK.step rfl rfl (ok_bin rfl rfl rfl) ?_; refine RunK.as (.int .i64 ((i + 1 : Nat) : Int)) (by rw [wrap_i64 (by omega) (by omega)]; exact congrArg (Value.int .i64) (by omega)) ?_
        refine RunK.step rfl rfl (ok_assign rfl) ?_
        refine RunK.nil ?_
        refine End.sub (Sub.cons (t := 2) rfl (Sub.cons (t := 3) rfl (Sub.cons (t := 4) rfl (Sub.cons (t := 5) rfl (Sub.cons (t := 9) rfl (Sub.cons (t := 10) rfl (Sub.cons (t := 11) rfl (Sub.cons (t := 1000004) rfl (Sub.cons (t := 1000005) rfl (Sub.cons (t := 1000010) rfl Sub.nil)))))))))) ?_
        refine End.normal_then ?_
        refine End.again (i + 1) ?_ ?_ ?_
        · show _ ≤ _; omega
        · show _ - _ < _ - _; omega
        · exact (Sub.cons (t := 2) rfl (Sub.cons (t := 3) rfl (Sub.cons (t := 4) rfl (Sub.cons (t := 5) rfl (Sub.cons (t := 10) rfl (Sub.cons (t := 1000004) rfl (Sub.cons (t := 1000005) rfl (Sub.eq (t := 9) _ rfl (by rw [List.take_add_one, xorK_get hlt, List.map_append]; rfl) (Sub.cons (t := 11) rfl (Sub.eq (t := 1000010) _ rfl (by first | (rw [bst_succ]; done) | rw [bst_succ, bst_keep (by simpa using hsp) hz]) Sub.nil))))))))))
      · have hz : ¬ (o + i) % 16 = 0 := by simp at hc28; omega
        refine A.skip ?_
        refine End.normal_then (End.code ?_)
        refine A.reg (by kernel_rfl) (by kernel_rfl) (.inr (by kernel_rfl)) ?_
        refine RunTK.eff 11 (by decide) rfl (.inr (by kernel_rfl)) ?_
        refine RunK.step rfl rfl (ok_move rfl) ?_
        refine RunK.step rfl rfl (ok_move rfl) ?_
        refine RunK.step rfl rfl (ok_move rfl) ?_
        refine RunK.step rfl rfl (ok_index (d := byteD (l.getD i 0)) Try.underlying32 info5 rfl (by first | exact Le.refl _ | exact Le.old _ _ | exact le_byt _ _ | exact (Le.old _ _).trans (le_byt _ _) | exact le_lst _ _ | exact (Le.old _ _).trans (le_lst _ _) | exact (Le.old _ _).trans (Le.old _ _) | exact (Le.old _ _).trans ((Le.old _ _).trans (le_byt _ _)) | exact byt_nil_le | exact lst_nil_le | exact bytes_nil_le | exact list_nil_le) rfl (by omega) (by rw [Int.toNat_natCast, byteD_getD hlt])) ?_
        refine RunK.step rfl rfl (ok_load Try.underlying5 rfl rfl) ?_; refine RunK.as (.int .u8 ((byL l i : Nat) : Int)) (by rfl) ?_
        refine RunK.step rfl rfl (ok_move rfl) ?_
        refine RunK.step rfl rfl (ok_rem rfl rfl (by decide)) ?_; refine RunK.as (.int .i64 (((o + i) % 16 : Nat) : Int)) (by rw [tmod_lit _ (by decide)]; rfl) ?_
        refine RunK.step rfl rfl (ok_index0 ((o + i) % 16) Try.underlying22 info5 rfl rfl (rfl) (by omega)) ?_
        refine RunK.step rfl rfl (ok_loadV (s := 1000010) (by decide) Try.underlying5 rfl rfl rfl (rowV_get (by omega))) ?_; refine RunK.as (.int .u8 ((ksAt k s c (o + i) : Nat) : Int)) (v8 (by first | rfl | exact congrFun (bst_keep (by simpa using hsp) hz) _)) ?_
        refine RunK.step rfl rfl (ok_bin rfl rfl rfl) ?_; refine RunK.as (byteV (UInt8.ofNat (xorG k s c o (byL l) i))) (by rw [show IntKind.u8.bits = 8 from rfl, xor_u8N (byL_lt _ _) (ksAt_lt hk _ _ _), ofNat_byte (xorG_lt hk _ _ _ (byL_lt l) _)]; rfl) ?_
        refine RunK.step rfl rfl (ok_build [byteD (UInt8.ofNat (xorG k s c o (byL l) i))] Try.underlying32 info5 rfl (by decide) (by decide) rfl ⟨rfl, rfl, trivial⟩ (fun d hd w x h => by simp only [List.mem_cons, List.not_mem_nil, or_false] at hd; subst hd; exact v_one rfl h)) ?_
        refine RunK.nil ?_
        refine ⟨_, eff_appendS (vs := [byteV (UInt8.ofNat (xorG k s c o (byL l) i))]) Try.underlying32 info5 (by decide) rfl rfl rfl (le_lst _ _) (by simp [byteV, Value.oneCell']) (by simp; omega) (by decide) (fun g hg => (LeftS.cons (t := 2) rfl (Surv.v _) (LeftS.cons (t := 3) rfl (Surv.old (by omega)) (LeftS.cons (t := 4) rfl (Surv.v _) (LeftS.cons (t := 5) rfl (Surv.v _) (LeftS.cons (t := 10) rfl (Surv.v _) (LeftS.cons (t := 11) rfl (Surv.v _) (LeftS.cons (t := 12) rfl (Surv.v _) (LeftS.cons (t := 28) rfl (Surv.v _) (LeftS.cons (t := 36) rfl (Surv.old (by omega)) (LeftS.cons (t := 37) rfl (Surv.v _) (LeftS.cons (t := 39) rfl (Surv.v _) (LeftS.cons (t := 40) rfl (Surv.v _) (LeftS.cons (t := 41) rfl (Surv.v _) (LeftS.cons (t := 42) rfl (Surv.v _) (LeftS.cons (t := 43) rfl (Surv.v _) (LeftS.cons (t := 44) rfl (Surv.v _) (LeftS.cons (t := 1000004) rfl (Surv.blkT (by decide)) (LeftS.cons (t := 1000005) rfl (Surv.blkT (by decide)) (LeftS.cons (t := 1000010) rfl (Surv.blkT (by decide)) LeftS.nil)))))))))))))))))))), ?_⟩
        refine RunTK.last ?_
        refine RunK.step rfl rfl (ok_assign rfl) ?_
        refine RunK.nil ?_
        refine End.sub (Sub.cons (t := 2) rfl (Sub.cons (t := 3) rfl (Sub.cons (t := 4) rfl (Sub.cons (t := 5) rfl (Sub.cons (t := 9) rfl (Sub.cons (t := 10) rfl (Sub.cons (t := 11) rfl (Sub.cons (t := 1000004) rfl (Sub.cons (t := 1000005) rfl (Sub.cons (t := 1000010) rfl Sub.nil)))))))))) ?_
        refine End.normal_block ?_
        refine End.normal_then (End.code ?_)
        refine A.reg (by kernel_rfl) (by kernel_rfl) (.inl rfl) ?_
        refine RunTK.last ?_
        refine RunK.step rfl rfl (ok_move rfl) ?_
        refine RunK.step rfl rfl (ok_bin rfl rfl rfl) ?_; refine RunK.as (.int .i64 ((i + 1 : Nat) : Int)) (by rw [wrap_i64 (by omega) (by omega)]; exact congrArg (Value.int .i64) (by omega)) ?_
        refine RunK.step rfl rfl (ok_assign rfl) ?_
        refine RunK.nil ?_
        refine End.sub (Sub.cons (t := 2) rfl (Sub.cons (t := 3) rfl (Sub.cons (t := 4) rfl (Sub.cons (t := 5) rfl (Sub.cons (t := 9) rfl (Sub.cons (t := 10) rfl (Sub.cons (t := 11) rfl (Sub.cons (t := 1000004) rfl (Sub.cons (t := 1000005) rfl (Sub.cons (t := 1000010) rfl Sub.nil)))))))))) ?_
        refine End.normal_then ?_
        refine End.again (i + 1) ?_ ?_ ?_
        · show _ ≤ _; omega
        · show _ - _ < _ - _; omega
        · exact (Sub.cons (t := 2) rfl (Sub.cons (t := 3) rfl (Sub.cons (t := 4) rfl (Sub.cons (t := 5) rfl (Sub.cons (t := 10) rfl (Sub.cons (t := 1000004) rfl (Sub.cons (t := 1000005) rfl (Sub.eq (t := 9) _ rfl (by rw [List.take_add_one, xorK_get hlt, List.map_append]; rfl) (Sub.cons (t := 11) rfl (Sub.eq (t := 1000010) _ rfl (by first | (rw [bst_succ]; done) | rw [bst_succ, bst_keep (by simpa using hsp) hz]) Sub.nil))))))))))
  · have hi2 : i = l.length := by simp at hc16; omega
    refine A.exit ?_
    refine End.exit_then ?_
    refine End.exit_then ?_
    refine End.exit_here ?_
    refine End.normal_then (End.code ?_)
    refine A.regs (by kernel_rfl) (by kernel_rfl) (.inl rfl) ?_
    refine RunTK.last ?_
    refine RunK.step rfl rfl (ok_move rfl) ?_
    refine RunK.step rfl rfl (ok_assign rfl) ?_
    refine RunK.nil ?_
    refine A.sub (Sub.cons (t := 8) rfl (Sub.cons (t := 1000004) rfl (Sub.cons (t := 1000005) rfl (Sub.cons (t := 1000010) rfl Sub.nil)))) ?_
    refine A.ret ?_
    refine End.ret1 rfl rfl (Le.trans (Le.eq ?_) (own_byt (B := w₀.heap.size) (e := 5) (n := l.length) (xorK_length k s c o l).symm))
    rw [hi2, List.take_of_length_le (by rw [xorK_length]; omega)]
set_option maxHeartbeats 1000000 in
theorem ref7Over_A (s c f l s' c' f' l' : Nat) (he : ¬ (s = s' ∧ c = c')) : Fn Try.prog 16 [.v (aggV ([.int .u32 ((s : Nat) : Int), .int .u64 ((c : Nat) : Int)])), .v (aggV ([.int .u32 ((s' : Nat) : Int), .int .u64 ((c' : Nat) : Int)])), .v (aggV ([.int .u32 ((f : Nat) : Int), .int .u32 ((l : Nat) : Int)])), .v (aggV ([.int .u32 ((f' : Nat) : Int), .int .u32 ((l' : Nat) : Int)]))] (.v (.bool false)) := by
  refine Fn.of Try.func16 rfl (by kernel_rfl) Try.ntmps16 (by simp) (fun w => [(0, .v (aggV ([.int .u32 ((s : Nat) : Int), .int .u64 ((c : Nat) : Int)]))), (1, .v (aggV ([.int .u32 ((s' : Nat) : Int), .int .u64 ((c' : Nat) : Int)]))), (2, .v (aggV ([.int .u32 ((f : Nat) : Int), .int .u32 ((l : Nat) : Int)]))), (3, .v (aggV ([.int .u32 ((f' : Nat) : Int), .int .u32 ((l' : Nat) : Int)])))]) (fun w => (Start.v rfl (Start.v rfl (Start.v rfl (Start.v rfl Start.nil))))) fun w₀ => ?_
  refine A.regs (by kernel_rfl) (by kernel_rfl) (.inl rfl) ?_
  refine RunTK.new 0 (by decide) rfl (.inl rfl) ?_
  refine RunK.nil ?_
  refine ⟨_, _, eff_box (n := 52) (d := 4) (k := 1000004) rfl (by decide), fun b4 hb4 => ?_⟩
  have hBb4 := hb4.1
  refine RunTK.new 1 (by decide) rfl (.inl rfl) ?_
  refine RunK.nil ?_
  refine ⟨_, _, eff_box (n := 52) (d := 5) (k := 1000005) rfl (by decide), fun b5 hb5 => ?_⟩
  have hBb5 := hb5.1
  have hlt_b4_b5 : b4 < b5 := hb5.2 1000004 _ _ _ rfl
  refine RunTK.new 2 (by decide) rfl (.inl rfl) ?_
  refine RunK.nil ?_
  refine ⟨_, _, eff_box (n := 52) (d := 6) (k := 1000006) rfl (by decide), fun b6 hb6 => ?_⟩
  have hBb6 := hb6.1
  have hlt_b4_b6 : b4 < b6 := hb6.2 1000004 _ _ _ rfl
  have hlt_b5_b6 : b5 < b6 := hb6.2 1000005 _ _ _ rfl
  refine RunTK.new 3 (by decide) rfl (.inl rfl) ?_
  refine RunK.nil ?_
  refine ⟨_, _, eff_box (n := 52) (d := 7) (k := 1000007) rfl (by decide), fun b7 hb7 => ?_⟩
  have hBb7 := hb7.1
  have hlt_b4_b7 : b4 < b7 := hb7.2 1000004 _ _ _ rfl
  have hlt_b5_b7 : b5 < b7 := hb7.2 1000005 _ _ _ rfl
  have hlt_b6_b7 : b6 < b7 := hb7.2 1000006 _ _ _ rfl
  refine RunTK.last ?_
  refine RunK.step rfl rfl (ok_assign rfl) ?_
  refine RunK.nil ?_
  refine A.sub (Sub.cons (t := 4) rfl (Sub.cons (t := 5) rfl (Sub.cons (t := 6) rfl (Sub.cons (t := 7) rfl (Sub.cons (t := 1000004) rfl (Sub.cons (t := 1000005) rfl (Sub.cons (t := 1000006) rfl (Sub.cons (t := 1000007) rfl Sub.nil)))))))) ?_
  refine A.seq ?_
  refine A.regs (by kernel_rfl) (by kernel_rfl) (.inl rfl) ?_
  refine RunTK.last ?_
  refine RunK.step rfl rfl (ok_loadA (s := 1000004) (by decide) Try.underlying26 rfl (size26.of (rfl)) rfl rfl) ?_
  refine RunK.step rfl rfl (ok_loadA (s := 1000005) (by decide) Try.underlying26 rfl (size26.of (rfl)) rfl rfl) ?_
  refine RunK.step rfl rfl (ok_neqT (n := 3) (decide (s = s' ∧ c = c')) flat26 (by decide) (by kernel_rfl) (by kernel_rfl) rfl rfl (kinN _ _) (kinN _ _) eqN) ?_; refine RunK.as (.bool true) (by simp [he]) ?_
  refine RunK.step rfl rfl (ok_move rfl) ?_
  refine RunK.skipped rfl rfl rfl rfl rfl ?_
  refine RunK.skipped rfl rfl rfl rfl rfl ?_
  refine RunK.skipped rfl rfl rfl rfl rfl ?_
  refine RunK.skipped rfl rfl rfl rfl rfl ?_
  refine RunK.skipped rfl rfl rfl rfl rfl ?_
  refine RunK.step rfl rfl (ok_pick rfl rfl) ?_
  refine RunK.step rfl rfl (ok_move rfl) ?_
  refine RunK.skipped rfl rfl rfl rfl rfl ?_
  refine RunK.skipped rfl rfl rfl rfl rfl ?_
  refine RunK.skipped rfl rfl rfl rfl rfl ?_
  refine RunK.skipped rfl rfl rfl rfl rfl ?_
  refine RunK.skipped rfl rfl rfl rfl rfl ?_
  refine RunK.step rfl rfl (ok_pick rfl rfl) ?_
  refine RunK.nil ?_
  refine A.sub (Sub.cons (t := 6) rfl (Sub.cons (t := 7) rfl (Sub.cons (t := 25) rfl (Sub.cons (t := 1000004) rfl (Sub.cons (t := 1000005) rfl (Sub.cons (t := 1000006) rfl (Sub.cons (t := 1000007) rfl Sub.nil))))))) ?_
  refine A.yes rfl ?_
  refine A.regs (by kernel_rfl) (by kernel_rfl) (.inl rfl) ?_
  refine RunTK.last ?_
  refine RunK.step rfl rfl (ok_assign rfl) ?_
  refine RunK.nil ?_
  refine A.sub (Sub.cons (t := 8) rfl (Sub.cons (t := 1000004) rfl (Sub.cons (t := 1000005) rfl (Sub.cons (t := 1000006) rfl (Sub.cons (t := 1000007) rfl Sub.nil))))) ?_
  refine A.ret ?_
  refine End.ret_then ?_
  exact End.ret1 rfl rfl (by first | exact Le.refl _ | exact Le.old _ _)
set_option maxHeartbeats 1000000 in
theorem ref7Over_B (s c f l s' c' f' l' : Nat) (he : s = s' ∧ c = c') (h1 : l < f) : Fn Try.prog 16 [.v (aggV ([.int .u32 ((s : Nat) : Int), .int .u64 ((c : Nat) : Int)])), .v (aggV ([.int .u32 ((s' : Nat) : Int), .int .u64 ((c' : Nat) : Int)])), .v (aggV ([.int .u32 ((f : Nat) : Int), .int .u32 ((l : Nat) : Int)])), .v (aggV ([.int .u32 ((f' : Nat) : Int), .int .u32 ((l' : Nat) : Int)]))] (.v (.bool false)) := by
  refine Fn.of Try.func16 rfl (by kernel_rfl) Try.ntmps16 (by simp) (fun w => [(0, .v (aggV ([.int .u32 ((s : Nat) : Int), .int .u64 ((c : Nat) : Int)]))), (1, .v (aggV ([.int .u32 ((s' : Nat) : Int), .int .u64 ((c' : Nat) : Int)]))), (2, .v (aggV ([.int .u32 ((f : Nat) : Int), .int .u32 ((l : Nat) : Int)]))), (3, .v (aggV ([.int .u32 ((f' : Nat) : Int), .int .u32 ((l' : Nat) : Int)])))]) (fun w => (Start.v rfl (Start.v rfl (Start.v rfl (Start.v rfl Start.nil))))) fun w₀ => ?_
  refine A.regs (by kernel_rfl) (by kernel_rfl) (.inl rfl) ?_
  refine RunTK.new 0 (by decide) rfl (.inl rfl) ?_
  refine RunK.nil ?_
  refine ⟨_, _, eff_box (n := 52) (d := 4) (k := 1000004) rfl (by decide), fun b4 hb4 => ?_⟩
  have hBb4 := hb4.1
  refine RunTK.new 1 (by decide) rfl (.inl rfl) ?_
  refine RunK.nil ?_
  refine ⟨_, _, eff_box (n := 52) (d := 5) (k := 1000005) rfl (by decide), fun b5 hb5 => ?_⟩
  have hBb5 := hb5.1
  have hlt_b4_b5 : b4 < b5 := hb5.2 1000004 _ _ _ rfl
  refine RunTK.new 2 (by decide) rfl (.inl rfl) ?_
  refine RunK.nil ?_
  refine ⟨_, _, eff_box (n := 52) (d := 6) (k := 1000006) rfl (by decide), fun b6 hb6 => ?_⟩
  have hBb6 := hb6.1
  have hlt_b4_b6 : b4 < b6 := hb6.2 1000004 _ _ _ rfl
  have hlt_b5_b6 : b5 < b6 := hb6.2 1000005 _ _ _ rfl
  refine RunTK.new 3 (by decide) rfl (.inl rfl) ?_
  refine RunK.nil ?_
  refine ⟨_, _, eff_box (n := 52) (d := 7) (k := 1000007) rfl (by decide), fun b7 hb7 => ?_⟩
  have hBb7 := hb7.1
  have hlt_b4_b7 : b4 < b7 := hb7.2 1000004 _ _ _ rfl
  have hlt_b5_b7 : b5 < b7 := hb7.2 1000005 _ _ _ rfl
  have hlt_b6_b7 : b6 < b7 := hb7.2 1000006 _ _ _ rfl
  refine RunTK.last ?_
  refine RunK.step rfl rfl (ok_assign rfl) ?_
  refine RunK.nil ?_
  refine A.sub (Sub.cons (t := 4) rfl (Sub.cons (t := 5) rfl (Sub.cons (t := 6) rfl (Sub.cons (t := 7) rfl (Sub.cons (t := 1000004) rfl (Sub.cons (t := 1000005) rfl (Sub.cons (t := 1000006) rfl (Sub.cons (t := 1000007) rfl Sub.nil)))))))) ?_
  refine A.seq ?_
  refine A.regs (by kernel_rfl) (by kernel_rfl) (.inl rfl) ?_
  refine RunTK.last ?_
  refine RunK.step rfl rfl (ok_loadA (s := 1000004) (by decide) Try.underlying26 rfl (size26.of (rfl)) rfl rfl) ?_
  refine RunK.step rfl rfl (ok_loadA (s := 1000005) (by decide) Try.underlying26 rfl (size26.of (rfl)) rfl rfl) ?_
  refine RunK.step rfl rfl (ok_neqT (n := 3) (decide (s = s' ∧ c = c')) flat26 (by decide) (by kernel_rfl) (by kernel_rfl) rfl rfl (kinN _ _) (kinN _ _) eqN) ?_; refine RunK.as (.bool false) (by simp [he]) ?_
  refine RunK.step rfl rfl (ok_move rfl) ?_
  refine RunK.guarded rfl rfl rfl rfl (ok_index0 (0) Try.underlying43 info23 rfl rfl (rfl) (by decide)) ?_
  refine RunK.guarded rfl rfl rfl rfl (ok_loadV (s := 1000006) (by decide) Try.underlying23 rfl rfl rfl (rfl)) ?_
  refine RunK.guarded rfl rfl rfl rfl (ok_index0 (1) Try.underlying43 info23 rfl rfl (rfl) (by decide)) ?_
  refine RunK.guarded rfl rfl rfl rfl (ok_loadV (s := 1000006) (by decide) Try.underlying23 rfl rfl rfl (rfl)) ?_
  refine RunK.guarded rfl rfl rfl rfl (ok_bin rfl rfl rfl) ?_; refine RunK.as (.bool true) (by simp; omega) ?_
  refine RunK.step rfl rfl (ok_pick rfl rfl) ?_
  refine RunK.step rfl rfl (ok_move rfl) ?_
  refine RunK.skipped rfl rfl rfl rfl rfl ?_
  refine RunK.skipped rfl rfl rfl rfl rfl ?_
  refine RunK.skipped rfl rfl rfl rfl rfl ?_
  refine RunK.skipped rfl rfl rfl rfl rfl ?_
  refine RunK.skipped rfl rfl rfl rfl rfl ?_
  refine RunK.step rfl rfl (ok_pick rfl rfl) ?_
  refine RunK.nil ?_
  refine A.sub (Sub.cons (t := 6) rfl (Sub.cons (t := 7) rfl (Sub.cons (t := 25) rfl (Sub.cons (t := 1000004) rfl (Sub.cons (t := 1000005) rfl (Sub.cons (t := 1000006) rfl (Sub.cons (t := 1000007) rfl Sub.nil))))))) ?_
  refine A.yes rfl ?_
  refine A.regs (by kernel_rfl) (by kernel_rfl) (.inl rfl) ?_
  refine RunTK.last ?_
  refine RunK.step rfl rfl (ok_assign rfl) ?_
  refine RunK.nil ?_
  refine A.sub (Sub.cons (t := 8) rfl (Sub.cons (t := 1000004) rfl (Sub.cons (t := 1000005) rfl (Sub.cons (t := 1000006) rfl (Sub.cons (t := 1000007) rfl Sub.nil))))) ?_
  refine A.ret ?_
  refine End.ret_then ?_
  exact End.ret1 rfl rfl (by first | exact Le.refl _ | exact Le.old _ _)
set_option maxHeartbeats 1000000 in
theorem ref7Over_C (s c f l s' c' f' l' : Nat) (he : s = s' ∧ c = c') (h1 : f ≤ l) (h2 : l' < f') : Fn Try.prog 16 [.v (aggV ([.int .u32 ((s : Nat) : Int), .int .u64 ((c : Nat) : Int)])), .v (aggV ([.int .u32 ((s' : Nat) : Int), .int .u64 ((c' : Nat) : Int)])), .v (aggV ([.int .u32 ((f : Nat) : Int), .int .u32 ((l : Nat) : Int)])), .v (aggV ([.int .u32 ((f' : Nat) : Int), .int .u32 ((l' : Nat) : Int)]))] (.v (.bool false)) := by
  refine Fn.of Try.func16 rfl (by kernel_rfl) Try.ntmps16 (by simp) (fun w => [(0, .v (aggV ([.int .u32 ((s : Nat) : Int), .int .u64 ((c : Nat) : Int)]))), (1, .v (aggV ([.int .u32 ((s' : Nat) : Int), .int .u64 ((c' : Nat) : Int)]))), (2, .v (aggV ([.int .u32 ((f : Nat) : Int), .int .u32 ((l : Nat) : Int)]))), (3, .v (aggV ([.int .u32 ((f' : Nat) : Int), .int .u32 ((l' : Nat) : Int)])))]) (fun w => (Start.v rfl (Start.v rfl (Start.v rfl (Start.v rfl Start.nil))))) fun w₀ => ?_
  refine A.regs (by kernel_rfl) (by kernel_rfl) (.inl rfl) ?_
  refine RunTK.new 0 (by decide) rfl (.inl rfl) ?_
  refine RunK.nil ?_
  refine ⟨_, _, eff_box (n := 52) (d := 4) (k := 1000004) rfl (by decide), fun b4 hb4 => ?_⟩
  have hBb4 := hb4.1
  refine RunTK.new 1 (by decide) rfl (.inl rfl) ?_
  refine RunK.nil ?_
  refine ⟨_, _, eff_box (n := 52) (d := 5) (k := 1000005) rfl (by decide), fun b5 hb5 => ?_⟩
  have hBb5 := hb5.1
  have hlt_b4_b5 : b4 < b5 := hb5.2 1000004 _ _ _ rfl
  refine RunTK.new 2 (by decide) rfl (.inl rfl) ?_
  refine RunK.nil ?_
  refine ⟨_, _, eff_box (n := 52) (d := 6) (k := 1000006) rfl (by decide), fun b6 hb6 => ?_⟩
  have hBb6 := hb6.1
  have hlt_b4_b6 : b4 < b6 := hb6.2 1000004 _ _ _ rfl
  have hlt_b5_b6 : b5 < b6 := hb6.2 1000005 _ _ _ rfl
  refine RunTK.new 3 (by decide) rfl (.inl rfl) ?_
  refine RunK.nil ?_
  refine ⟨_, _, eff_box (n := 52) (d := 7) (k := 1000007) rfl (by decide), fun b7 hb7 => ?_⟩
  have hBb7 := hb7.1
  have hlt_b4_b7 : b4 < b7 := hb7.2 1000004 _ _ _ rfl
  have hlt_b5_b7 : b5 < b7 := hb7.2 1000005 _ _ _ rfl
  have hlt_b6_b7 : b6 < b7 := hb7.2 1000006 _ _ _ rfl
  refine RunTK.last ?_
  refine RunK.step rfl rfl (ok_assign rfl) ?_
  refine RunK.nil ?_
  refine A.sub (Sub.cons (t := 4) rfl (Sub.cons (t := 5) rfl (Sub.cons (t := 6) rfl (Sub.cons (t := 7) rfl (Sub.cons (t := 1000004) rfl (Sub.cons (t := 1000005) rfl (Sub.cons (t := 1000006) rfl (Sub.cons (t := 1000007) rfl Sub.nil)))))))) ?_
  refine A.seq ?_
  refine A.regs (by kernel_rfl) (by kernel_rfl) (.inl rfl) ?_
  refine RunTK.last ?_
  refine RunK.step rfl rfl (ok_loadA (s := 1000004) (by decide) Try.underlying26 rfl (size26.of (rfl)) rfl rfl) ?_
  refine RunK.step rfl rfl (ok_loadA (s := 1000005) (by decide) Try.underlying26 rfl (size26.of (rfl)) rfl rfl) ?_
  refine RunK.step rfl rfl (ok_neqT (n := 3) (decide (s = s' ∧ c = c')) flat26 (by decide) (by kernel_rfl) (by kernel_rfl) rfl rfl (kinN _ _) (kinN _ _) eqN) ?_; refine RunK.as (.bool false) (by simp [he]) ?_
  refine RunK.step rfl rfl (ok_move rfl) ?_
  refine RunK.guarded rfl rfl rfl rfl (ok_index0 (0) Try.underlying43 info23 rfl rfl (rfl) (by decide)) ?_
  refine RunK.guarded rfl rfl rfl rfl (ok_loadV (s := 1000006) (by decide) Try.underlying23 rfl rfl rfl (rfl)) ?_
  refine RunK.guarded rfl rfl rfl rfl (ok_index0 (1) Try.underlying43 info23 rfl rfl (rfl) (by decide)) ?_
  refine RunK.guarded rfl rfl rfl rfl (ok_loadV (s := 1000006) (by decide) Try.underlying23 rfl rfl rfl (rfl)) ?_
  refine RunK.guarded rfl rfl rfl rfl (ok_bin rfl rfl rfl) ?_; refine RunK.as (.bool false) (by simp; omega) ?_
  refine RunK.step rfl rfl (ok_pick rfl rfl) ?_
  refine RunK.step rfl rfl (ok_move rfl) ?_
  refine RunK.guarded rfl rfl rfl rfl (ok_index0 (0) Try.underlying43 info23 rfl rfl (rfl) (by decide)) ?_
  refine RunK.guarded rfl rfl rfl rfl (ok_loadV (s := 1000007) (by decide) Try.underlying23 rfl rfl rfl (rfl)) ?_
  refine RunK.guarded rfl rfl rfl rfl (ok_index0 (1) Try.underlying43 info23 rfl rfl (rfl) (by decide)) ?_
  refine RunK.guarded rfl rfl rfl rfl (ok_loadV (s := 1000007) (by decide) Try.underlying23 rfl rfl rfl (rfl)) ?_
  refine RunK.guarded rfl rfl rfl rfl (ok_bin rfl rfl rfl) ?_; refine RunK.as (.bool true) (by simp; omega) ?_
  refine RunK.step rfl rfl (ok_pick rfl rfl) ?_
  refine RunK.nil ?_
  refine A.sub (Sub.cons (t := 6) rfl (Sub.cons (t := 7) rfl (Sub.cons (t := 25) rfl (Sub.cons (t := 1000004) rfl (Sub.cons (t := 1000005) rfl (Sub.cons (t := 1000006) rfl (Sub.cons (t := 1000007) rfl Sub.nil))))))) ?_
  refine A.yes rfl ?_
  refine A.regs (by kernel_rfl) (by kernel_rfl) (.inl rfl) ?_
  refine RunTK.last ?_
  refine RunK.step rfl rfl (ok_assign rfl) ?_
  refine RunK.nil ?_
  refine A.sub (Sub.cons (t := 8) rfl (Sub.cons (t := 1000004) rfl (Sub.cons (t := 1000005) rfl (Sub.cons (t := 1000006) rfl (Sub.cons (t := 1000007) rfl Sub.nil))))) ?_
  refine A.ret ?_
  refine End.ret_then ?_
  exact End.ret1 rfl rfl (by first | exact Le.refl _ | exact Le.old _ _)
set_option maxHeartbeats 1000000 in
theorem ref7Over_D (s c f l s' c' f' l' : Nat) (he : s = s' ∧ c = c') (h1 : f ≤ l) (h2 : f' ≤ l') (h3 : f' ≤ f) (h4 : f ≤ l') : Fn Try.prog 16 [.v (aggV ([.int .u32 ((s : Nat) : Int), .int .u64 ((c : Nat) : Int)])), .v (aggV ([.int .u32 ((s' : Nat) : Int), .int .u64 ((c' : Nat) : Int)])), .v (aggV ([.int .u32 ((f : Nat) : Int), .int .u32 ((l : Nat) : Int)])), .v (aggV ([.int .u32 ((f' : Nat) : Int), .int .u32 ((l' : Nat) : Int)]))] (.v (.bool true)) := by
  refine Fn.of Try.func16 rfl (by kernel_rfl) Try.ntmps16 (by simp) (fun w => [(0, .v (aggV ([.int .u32 ((s : Nat) : Int), .int .u64 ((c : Nat) : Int)]))), (1, .v (aggV ([.int .u32 ((s' : Nat) : Int), .int .u64 ((c' : Nat) : Int)]))), (2, .v (aggV ([.int .u32 ((f : Nat) : Int), .int .u32 ((l : Nat) : Int)]))), (3, .v (aggV ([.int .u32 ((f' : Nat) : Int), .int .u32 ((l' : Nat) : Int)])))]) (fun w => (Start.v rfl (Start.v rfl (Start.v rfl (Start.v rfl Start.nil))))) fun w₀ => ?_
  refine A.regs (by kernel_rfl) (by kernel_rfl) (.inl rfl) ?_
  refine RunTK.new 0 (by decide) rfl (.inl rfl) ?_
  refine RunK.nil ?_
  refine ⟨_, _, eff_box (n := 52) (d := 4) (k := 1000004) rfl (by decide), fun b4 hb4 => ?_⟩
  have hBb4 := hb4.1
  refine RunTK.new 1 (by decide) rfl (.inl rfl) ?_
  refine RunK.nil ?_
  refine ⟨_, _, eff_box (n := 52) (d := 5) (k := 1000005) rfl (by decide), fun b5 hb5 => ?_⟩
  have hBb5 := hb5.1
  have hlt_b4_b5 : b4 < b5 := hb5.2 1000004 _ _ _ rfl
  refine RunTK.new 2 (by decide) rfl (.inl rfl) ?_
  refine RunK.nil ?_
  refine ⟨_, _, eff_box (n := 52) (d := 6) (k := 1000006) rfl (by decide), fun b6 hb6 => ?_⟩
  have hBb6 := hb6.1
  have hlt_b4_b6 : b4 < b6 := hb6.2 1000004 _ _ _ rfl
  have hlt_b5_b6 : b5 < b6 := hb6.2 1000005 _ _ _ rfl
  refine RunTK.new 3 (by decide) rfl (.inl rfl) ?_
  refine RunK.nil ?_
  refine ⟨_, _, eff_box (n := 52) (d := 7) (k := 1000007) rfl (by decide), fun b7 hb7 => ?_⟩
  have hBb7 := hb7.1
  have hlt_b4_b7 : b4 < b7 := hb7.2 1000004 _ _ _ rfl
  have hlt_b5_b7 : b5 < b7 := hb7.2 1000005 _ _ _ rfl
  have hlt_b6_b7 : b6 < b7 := hb7.2 1000006 _ _ _ rfl
  refine RunTK.last ?_
  refine RunK.step rfl rfl (ok_assign rfl) ?_
  refine RunK.nil ?_
  refine A.sub (Sub.cons (t := 4) rfl (Sub.cons (t := 5) rfl (Sub.cons (t := 6) rfl (Sub.cons (t := 7) rfl (Sub.cons (t := 1000004) rfl (Sub.cons (t := 1000005) rfl (Sub.cons (t := 1000006) rfl (Sub.cons (t := 1000007) rfl Sub.nil)))))))) ?_
  refine A.seq ?_
  refine A.regs (by kernel_rfl) (by kernel_rfl) (.inl rfl) ?_
  refine RunTK.last ?_
  refine RunK.step rfl rfl (ok_loadA (s := 1000004) (by decide) Try.underlying26 rfl (size26.of (rfl)) rfl rfl) ?_
  refine RunK.step rfl rfl (ok_loadA (s := 1000005) (by decide) Try.underlying26 rfl (size26.of (rfl)) rfl rfl) ?_
  refine RunK.step rfl rfl (ok_neqT (n := 3) (decide (s = s' ∧ c = c')) flat26 (by decide) (by kernel_rfl) (by kernel_rfl) rfl rfl (kinN _ _) (kinN _ _) eqN) ?_; refine RunK.as (.bool false) (by simp [he]) ?_
  refine RunK.step rfl rfl (ok_move rfl) ?_
  refine RunK.guarded rfl rfl rfl rfl (ok_index0 (0) Try.underlying43 info23 rfl rfl (rfl) (by decide)) ?_
  refine RunK.guarded rfl rfl rfl rfl (ok_loadV (s := 1000006) (by decide) Try.underlying23 rfl rfl rfl (rfl)) ?_
  refine RunK.guarded rfl rfl rfl rfl (ok_index0 (1) Try.underlying43 info23 rfl rfl (rfl) (by decide)) ?_
  refine RunK.guarded rfl rfl rfl rfl (ok_loadV (s := 1000006) (by decide) Try.underlying23 rfl rfl rfl (rfl)) ?_
  refine RunK.guarded rfl rfl rfl rfl (ok_bin rfl rfl rfl) ?_; refine RunK.as (.bool false) (by simp; omega) ?_
  refine RunK.step rfl rfl (ok_pick rfl rfl) ?_
  refine RunK.step rfl rfl (ok_move rfl) ?_
  refine RunK.guarded rfl rfl rfl rfl (ok_index0 (0) Try.underlying43 info23 rfl rfl (rfl) (by decide)) ?_
  refine RunK.guarded rfl rfl rfl rfl (ok_loadV (s := 1000007) (by decide) Try.underlying23 rfl rfl rfl (rfl)) ?_
  refine RunK.guarded rfl rfl rfl rfl (ok_index0 (1) Try.underlying43 info23 rfl rfl (rfl) (by decide)) ?_
  refine RunK.guarded rfl rfl rfl rfl (ok_loadV (s := 1000007) (by decide) Try.underlying23 rfl rfl rfl (rfl)) ?_
  refine RunK.guarded rfl rfl rfl rfl (ok_bin rfl rfl rfl) ?_; refine RunK.as (.bool false) (by simp; omega) ?_
  refine RunK.step rfl rfl (ok_pick rfl rfl) ?_
  refine RunK.nil ?_
  refine A.sub (Sub.cons (t := 6) rfl (Sub.cons (t := 7) rfl (Sub.cons (t := 25) rfl (Sub.cons (t := 1000004) rfl (Sub.cons (t := 1000005) rfl (Sub.cons (t := 1000006) rfl (Sub.cons (t := 1000007) rfl Sub.nil))))))) ?_
  refine A.no rfl ?_
  refine A.skip ?_
  refine End.normal_then (End.code ?_)
  refine A.regs (by kernel_rfl) (by kernel_rfl) (.inl rfl) ?_
  refine RunTK.last ?_
  refine RunK.step rfl rfl (ok_index0 (0) Try.underlying43 info23 rfl rfl (rfl) (by decide)) ?_
  refine RunK.step rfl rfl (ok_loadV (s := 1000006) (by decide) Try.underlying23 rfl rfl rfl (rfl)) ?_
  refine RunK.step rfl rfl (ok_index0 (0) Try.underlying43 info23 rfl rfl (rfl) (by decide)) ?_
  refine RunK.step rfl rfl (ok_loadV (s := 1000007) (by decide) Try.underlying23 rfl rfl rfl (rfl)) ?_
  refine RunK.step rfl rfl (ok_bin rfl rfl rfl) ?_; refine RunK.as (.bool true) (by simp; omega) ?_
  refine RunK.step rfl rfl (ok_move rfl) ?_
  refine RunK.guarded rfl rfl rfl rfl (ok_index0 (0) Try.underlying43 info23 rfl rfl (rfl) (by decide)) ?_
  refine RunK.guarded rfl rfl rfl rfl (ok_loadV (s := 1000006) (by decide) Try.underlying23 rfl rfl rfl (rfl)) ?_
  refine RunK.guarded rfl rfl rfl rfl (ok_index0 (1) Try.underlying43 info23 rfl rfl (rfl) (by decide)) ?_
  refine RunK.guarded rfl rfl rfl rfl (ok_loadV (s := 1000007) (by decide) Try.underlying23 rfl rfl rfl (rfl)) ?_
  refine RunK.guarded rfl rfl rfl rfl (ok_bin rfl rfl rfl) ?_; refine RunK.as (.bool true) (by simp; omega) ?_
  refine RunK.step rfl rfl (ok_pick rfl rfl) ?_
  refine RunK.step rfl rfl (ok_move rfl) ?_
  refine RunK.skipped rfl rfl rfl rfl rfl ?_
  refine RunK.skipped rfl rfl rfl rfl rfl ?_
  refine RunK.skipped rfl rfl rfl rfl rfl ?_
  refine RunK.skipped rfl rfl rfl rfl rfl ?_
  refine RunK.skipped rfl rfl rfl rfl rfl ?_
  refine RunK.skipped rfl rfl rfl rfl rfl ?_
  refine RunK.skippedU rfl rfl rfl rfl ?_
  refine RunK.skippedU rfl rfl rfl rfl ?_
  refine RunK.skippedU rfl rfl rfl rfl ?_
  refine RunK.skippedU rfl rfl rfl rfl ?_
  refine RunK.skippedU rfl rfl rfl rfl ?_
  refine RunK.skipped rfl rfl rfl rfl rfl ?_
  refine RunK.step rfl rfl (ok_pick rfl rfl) ?_
  refine RunK.step rfl rfl (ok_assign rfl) ?_
  refine RunK.nil ?_
  refine A.sub (Sub.cons (t := 8) rfl (Sub.cons (t := 1000004) rfl (Sub.cons (t := 1000005) rfl (Sub.cons (t := 1000006) rfl (Sub.cons (t := 1000007) rfl Sub.nil))))) ?_
  refine A.ret ?_
  exact End.ret1 rfl rfl (by first | exact Le.refl _ | exact Le.old _ _)
set_option maxHeartbeats 1000000 in
theorem ref7Over_E (s c f l s' c' f' l' : Nat) (he : s = s' ∧ c = c') (h1 : f ≤ l) (h2 : f' ≤ l') (h3 : f' ≤ f) (h4 : l' < f) : Fn Try.prog 16 [.v (aggV ([.int .u32 ((s : Nat) : Int), .int .u64 ((c : Nat) : Int)])), .v (aggV ([.int .u32 ((s' : Nat) : Int), .int .u64 ((c' : Nat) : Int)])), .v (aggV ([.int .u32 ((f : Nat) : Int), .int .u32 ((l : Nat) : Int)])), .v (aggV ([.int .u32 ((f' : Nat) : Int), .int .u32 ((l' : Nat) : Int)]))] (.v (.bool false)) := by
  refine Fn.of Try.func16 rfl (by kernel_rfl) Try.ntmps16 (by simp) (fun w => [(0, .v (aggV ([.int .u32 ((s : Nat) : Int), .int .u64 ((c : Nat) : Int)]))), (1, .v (aggV ([.int .u32 ((s' : Nat) : Int), .int .u64 ((c' : Nat) : Int)]))), (2, .v (aggV ([.int .u32 ((f : Nat) : Int), .int .u32 ((l : Nat) : Int)]))), (3, .v (aggV ([.int .u32 ((f' : Nat) : Int), .int .u32 ((l' : Nat) : Int)])))]) (fun w => (Start.v rfl (Start.v rfl (Start.v rfl (Start.v rfl Start.nil))))) fun w₀ => ?_
  refine A.regs (by kernel_rfl) (by kernel_rfl) (.inl rfl) ?_
  refine RunTK.new 0 (by decide) rfl (.inl rfl) ?_
  refine RunK.nil ?_
  refine ⟨_, _, eff_box (n := 52) (d := 4) (k := 1000004) rfl (by decide), fun b4 hb4 => ?_⟩
  have hBb4 := hb4.1
  refine RunTK.new 1 (by decide) rfl (.inl rfl) ?_
  refine RunK.nil ?_
  refine ⟨_, _, eff_box (n := 52) (d := 5) (k := 1000005) rfl (by decide), fun b5 hb5 => ?_⟩
  have hBb5 := hb5.1
  have hlt_b4_b5 : b4 < b5 := hb5.2 1000004 _ _ _ rfl
  refine RunTK.new 2 (by decide) rfl (.inl rfl) ?_
  refine RunK.nil ?_
  refine ⟨_, _, eff_box (n := 52) (d := 6) (k := 1000006) rfl (by decide), fun b6 hb6 => ?_⟩
  have hBb6 := hb6.1
  have hlt_b4_b6 : b4 < b6 := hb6.2 1000004 _ _ _ rfl
  have hlt_b5_b6 : b5 < b6 := hb6.2 1000005 _ _ _ rfl
  refine RunTK.new 3 (by decide) rfl (.inl rfl) ?_
  refine RunK.nil ?_
  refine ⟨_, _, eff_box (n := 52) (d := 7) (k := 1000007) rfl (by decide), fun b7 hb7 => ?_⟩
  have hBb7 := hb7.1
  have hlt_b4_b7 : b4 < b7 := hb7.2 1000004 _ _ _ rfl
  have hlt_b5_b7 : b5 < b7 := hb7.2 1000005 _ _ _ rfl
  have hlt_b6_b7 : b6 < b7 := hb7.2 1000006 _ _ _ rfl
  refine RunTK.last ?_
  refine RunK.step rfl rfl (ok_assign rfl) ?_
  refine RunK.nil ?_
  refine A.sub (Sub.cons (t := 4) rfl (Sub.cons (t := 5) rfl (Sub.cons (t := 6) rfl (Sub.cons (t := 7) rfl (Sub.cons (t := 1000004) rfl (Sub.cons (t := 1000005) rfl (Sub.cons (t := 1000006) rfl (Sub.cons (t := 1000007) rfl Sub.nil)))))))) ?_
  refine A.seq ?_
  refine A.regs (by kernel_rfl) (by kernel_rfl) (.inl rfl) ?_
  refine RunTK.last ?_
  refine RunK.step rfl rfl (ok_loadA (s := 1000004) (by decide) Try.underlying26 rfl (size26.of (rfl)) rfl rfl) ?_
  refine RunK.step rfl rfl (ok_loadA (s := 1000005) (by decide) Try.underlying26 rfl (size26.of (rfl)) rfl rfl) ?_
  refine RunK.step rfl rfl (ok_neqT (n := 3) (decide (s = s' ∧ c = c')) flat26 (by decide) (by kernel_rfl) (by kernel_rfl) rfl rfl (kinN _ _) (kinN _ _) eqN) ?_; refine RunK.as (.bool false) (by simp [he]) ?_
  refine RunK.step rfl rfl (ok_move rfl) ?_
  refine RunK.guarded rfl rfl rfl rfl (ok_index0 (0) Try.underlying43 info23 rfl rfl (rfl) (by decide)) ?_
  refine RunK.guarded rfl rfl rfl rfl (ok_loadV (s := 1000006) (by decide) Try.underlying23 rfl rfl rfl (rfl)) ?_
  refine RunK.guarded rfl rfl rfl rfl (ok_index0 (1) Try.underlying43 info23 rfl rfl (rfl) (by decide)) ?_
  refine RunK.guarded rfl rfl rfl rfl (ok_loadV (s := 1000006) (by decide) Try.underlying23 rfl rfl rfl (rfl)) ?_
  refine RunK.guarded rfl rfl rfl rfl (ok_bin rfl rfl rfl) ?_; refine RunK.as (.bool false) (by simp; omega) ?_
  refine RunK.step rfl rfl (ok_pick rfl rfl) ?_
  refine RunK.step rfl rfl (ok_move rfl) ?_
  refine RunK.guarded rfl rfl rfl rfl (ok_index0 (0) Try.underlying43 info23 rfl rfl (rfl) (by decide)) ?_
  refine RunK.guarded rfl rfl rfl rfl (ok_loadV (s := 1000007) (by decide) Try.underlying23 rfl rfl rfl (rfl)) ?_
  refine RunK.guarded rfl rfl rfl rfl (ok_index0 (1) Try.underlying43 info23 rfl rfl (rfl) (by decide)) ?_
  refine RunK.guarded rfl rfl rfl rfl (ok_loadV (s := 1000007) (by decide) Try.underlying23 rfl rfl rfl (rfl)) ?_
  refine RunK.guarded rfl rfl rfl rfl (ok_bin rfl rfl rfl) ?_; refine RunK.as (.bool false) (by simp; omega) ?_
  refine RunK.step rfl rfl (ok_pick rfl rfl) ?_
  refine RunK.nil ?_
  refine A.sub (Sub.cons (t := 6) rfl (Sub.cons (t := 7) rfl (Sub.cons (t := 25) rfl (Sub.cons (t := 1000004) rfl (Sub.cons (t := 1000005) rfl (Sub.cons (t := 1000006) rfl (Sub.cons (t := 1000007) rfl Sub.nil))))))) ?_
  refine A.no rfl ?_
  refine A.skip ?_
  refine End.normal_then (End.code ?_)
  refine A.regs (by kernel_rfl) (by kernel_rfl) (.inl rfl) ?_
  refine RunTK.last ?_
  refine RunK.step rfl rfl (ok_index0 (0) Try.underlying43 info23 rfl rfl (rfl) (by decide)) ?_
  refine RunK.step rfl rfl (ok_loadV (s := 1000006) (by decide) Try.underlying23 rfl rfl rfl (rfl)) ?_
  refine RunK.step rfl rfl (ok_index0 (0) Try.underlying43 info23 rfl rfl (rfl) (by decide)) ?_
  refine RunK.step rfl rfl (ok_loadV (s := 1000007) (by decide) Try.underlying23 rfl rfl rfl (rfl)) ?_
  refine RunK.step rfl rfl (ok_bin rfl rfl rfl) ?_; refine RunK.as (.bool true) (by simp; omega) ?_
  refine RunK.step rfl rfl (ok_move rfl) ?_
  refine RunK.guarded rfl rfl rfl rfl (ok_index0 (0) Try.underlying43 info23 rfl rfl (rfl) (by decide)) ?_
  refine RunK.guarded rfl rfl rfl rfl (ok_loadV (s := 1000006) (by decide) Try.underlying23 rfl rfl rfl (rfl)) ?_
  refine RunK.guarded rfl rfl rfl rfl (ok_index0 (1) Try.underlying43 info23 rfl rfl (rfl) (by decide)) ?_
  refine RunK.guarded rfl rfl rfl rfl (ok_loadV (s := 1000007) (by decide) Try.underlying23 rfl rfl rfl (rfl)) ?_
  refine RunK.guarded rfl rfl rfl rfl (ok_bin rfl rfl rfl) ?_; refine RunK.as (.bool false) (by simp; omega) ?_
  refine RunK.step rfl rfl (ok_pick rfl rfl) ?_
  refine RunK.step rfl rfl (ok_move rfl) ?_
  refine RunK.guarded rfl rfl rfl rfl (ok_index0 (0) Try.underlying43 info23 rfl rfl (rfl) (by decide)) ?_
  refine RunK.guarded rfl rfl rfl rfl (ok_loadV (s := 1000007) (by decide) Try.underlying23 rfl rfl rfl (rfl)) ?_
  refine RunK.guarded rfl rfl rfl rfl (ok_index0 (0) Try.underlying43 info23 rfl rfl (rfl) (by decide)) ?_
  refine RunK.guarded rfl rfl rfl rfl (ok_loadV (s := 1000006) (by decide) Try.underlying23 rfl rfl rfl (rfl)) ?_
  refine RunK.guarded rfl rfl rfl rfl (ok_bin rfl rfl rfl) ?_; refine RunK.as (.bool false) (by simp; omega) ?_
  refine RunK.guarded rfl rfl rfl rfl (ok_move rfl) ?_
  refine RunK.skipped rfl rfl rfl rfl rfl ?_
  refine RunK.skipped rfl rfl rfl rfl rfl ?_
  refine RunK.skipped rfl rfl rfl rfl rfl ?_
  refine RunK.skipped rfl rfl rfl rfl rfl ?_
  refine RunK.skipped rfl rfl rfl rfl rfl ?_
  refine RunK.guarded rfl rfl rfl rfl (ok_pick rfl rfl) ?_
  refine RunK.step rfl rfl (ok_pick rfl rfl) ?_
  refine RunK.step rfl rfl (ok_assign rfl) ?_
  refine RunK.nil ?_
  refine A.sub (Sub.cons (t := 8) rfl (Sub.cons (t := 1000004) rfl (Sub.cons (t := 1000005) rfl (Sub.cons (t := 1000006) rfl (Sub.cons (t := 1000007) rfl Sub.nil))))) ?_
  refine A.ret ?_
  exact End.ret1 rfl rfl (by first | exact Le.refl _ | exact Le.old _ _)
set_option maxHeartbeats 1000000 in
theorem ref7Over_F (s c f l s' c' f' l' : Nat) (he : s = s' ∧ c = c') (h1 : f ≤ l) (h2 : f' ≤ l') (h3 : f < f') (h4 : f' ≤ l) : Fn Try.prog 16 [.v (aggV ([.int .u32 ((s : Nat) : Int), .int .u64 ((c : Nat) : Int)])), .v (aggV ([.int .u32 ((s' : Nat) : Int), .int .u64 ((c' : Nat) : Int)])), .v (aggV ([.int .u32 ((f : Nat) : Int), .int .u32 ((l : Nat) : Int)])), .v (aggV ([.int .u32 ((f' : Nat) : Int), .int .u32 ((l' : Nat) : Int)]))] (.v (.bool true)) := by
  refine Fn.of Try.func16 rfl (by kernel_rfl) Try.ntmps16 (by simp) (fun w => [(0, .v (aggV ([.int .u32 ((s : Nat) : Int), .int .u64 ((c : Nat) : Int)]))), (1, .v (aggV ([.int .u32 ((s' : Nat) : Int), .int .u64 ((c' : Nat) : Int)]))), (2, .v (aggV ([.int .u32 ((f : Nat) : Int), .int .u32 ((l : Nat) : Int)]))), (3, .v (aggV ([.int .u32 ((f' : Nat) : Int), .int .u32 ((l' : Nat) : Int)])))]) (fun w => (Start.v rfl (Start.v rfl (Start.v rfl (Start.v rfl Start.nil))))) fun w₀ => ?_
  refine A.regs (by kernel_rfl) (by kernel_rfl) (.inl rfl) ?_
  refine RunTK.new 0 (by decide) rfl (.inl rfl) ?_
  refine RunK.nil ?_
  refine ⟨_, _, eff_box (n := 52) (d := 4) (k := 1000004) rfl (by decide), fun b4 hb4 => ?_⟩
  have hBb4 := hb4.1
  refine RunTK.new 1 (by decide) rfl (.inl rfl) ?_
  refine RunK.nil ?_
  refine ⟨_, _, eff_box (n := 52) (d := 5) (k := 1000005) rfl (by decide), fun b5 hb5 => ?_⟩
  have hBb5 := hb5.1
  have hlt_b4_b5 : b4 < b5 := hb5.2 1000004 _ _ _ rfl
  refine RunTK.new 2 (by decide) rfl (.inl rfl) ?_
  refine RunK.nil ?_
  refine ⟨_, _, eff_box (n := 52) (d := 6) (k := 1000006) rfl (by decide), fun b6 hb6 => ?_⟩
  have hBb6 := hb6.1
  have hlt_b4_b6 : b4 < b6 := hb6.2 1000004 _ _ _ rfl
  have hlt_b5_b6 : b5 < b6 := hb6.2 1000005 _ _ _ rfl
  refine RunTK.new 3 (by decide) rfl (.inl rfl) ?_
  refine RunK.nil ?_
  refine ⟨_, _, eff_box (n := 52) (d := 7) (k := 1000007) rfl (by decide), fun b7 hb7 => ?_⟩
  have hBb7 := hb7.1
  have hlt_b4_b7 : b4 < b7 := hb7.2 1000004 _ _ _ rfl
  have hlt_b5_b7 : b5 < b7 := hb7.2 1000005 _ _ _ rfl
  have hlt_b6_b7 : b6 < b7 := hb7.2 1000006 _ _ _ rfl
  refine RunTK.last ?_
  refine RunK.step rfl rfl (ok_assign rfl) ?_
  refine RunK.nil ?_
  refine A.sub (Sub.cons (t := 4) rfl (Sub.cons (t := 5) rfl (Sub.cons (t := 6) rfl (Sub.cons (t := 7) rfl (Sub.cons (t := 1000004) rfl (Sub.cons (t := 1000005) rfl (Sub.cons (t := 1000006) rfl (Sub.cons (t := 1000007) rfl Sub.nil)))))))) ?_
  refine A.seq ?_
  refine A.regs (by kernel_rfl) (by kernel_rfl) (.inl rfl) ?_
  refine RunTK.last ?_
  refine RunK.step rfl rfl (ok_loadA (s := 1000004) (by decide) Try.underlying26 rfl (size26.of (rfl)) rfl rfl) ?_
  refine RunK.step rfl rfl (ok_loadA (s := 1000005) (by decide) Try.underlying26 rfl (size26.of (rfl)) rfl rfl) ?_
  refine RunK.step rfl rfl (ok_neqT (n := 3) (decide (s = s' ∧ c = c')) flat26 (by decide) (by kernel_rfl) (by kernel_rfl) rfl rfl (kinN _ _) (kinN _ _) eqN) ?_; refine RunK.as (.bool false) (by simp [he]) ?_
  refine RunK.step rfl rfl (ok_move rfl) ?_
  refine RunK.guarded rfl rfl rfl rfl (ok_index0 (0) Try.underlying43 info23 rfl rfl (rfl) (by decide)) ?_
  refine RunK.guarded rfl rfl rfl rfl (ok_loadV (s := 1000006) (by decide) Try.underlying23 rfl rfl rfl (rfl)) ?_
  refine RunK.guarded rfl rfl rfl rfl (ok_index0 (1) Try.underlying43 info23 rfl rfl (rfl) (by decide)) ?_
  refine RunK.guarded rfl rfl rfl rfl (ok_loadV (s := 1000006) (by decide) Try.underlying23 rfl rfl rfl (rfl)) ?_
  refine RunK.guarded rfl rfl rfl rfl (ok_bin rfl rfl rfl) ?_; refine RunK.as (.bool false) (by simp; omega) ?_
  refine RunK.step rfl rfl (ok_pick rfl rfl) ?_
  refine RunK.step rfl rfl (ok_move rfl) ?_
  refine RunK.guarded rfl rfl rfl rfl (ok_index0 (0) Try.underlying43 info23 rfl rfl (rfl) (by decide)) ?_
  refine RunK.guarded rfl rfl rfl rfl (ok_loadV (s := 1000007) (by decide) Try.underlying23 rfl rfl rfl (rfl)) ?_
  refine RunK.guarded rfl rfl rfl rfl (ok_index0 (1) Try.underlying43 info23 rfl rfl (rfl) (by decide)) ?_
  refine RunK.guarded rfl rfl rfl rfl (ok_loadV (s := 1000007) (by decide) Try.underlying23 rfl rfl rfl (rfl)) ?_
  refine RunK.guarded rfl rfl rfl rfl (ok_bin rfl rfl rfl) ?_; refine RunK.as (.bool false) (by simp; omega) ?_
  refine RunK.step rfl rfl (ok_pick rfl rfl) ?_
  refine RunK.nil ?_
  refine A.sub (Sub.cons (t := 6) rfl (Sub.cons (t := 7) rfl (Sub.cons (t := 25) rfl (Sub.cons (t := 1000004) rfl (Sub.cons (t := 1000005) rfl (Sub.cons (t := 1000006) rfl (Sub.cons (t := 1000007) rfl Sub.nil))))))) ?_
  refine A.no rfl ?_
  refine A.skip ?_
  refine End.normal_then (End.code ?_)
  refine A.regs (by kernel_rfl) (by kernel_rfl) (.inl rfl) ?_
  refine RunTK.last ?_
  refine RunK.step rfl rfl (ok_index0 (0) Try.underlying43 info23 rfl rfl (rfl) (by decide)) ?_
  refine RunK.step rfl rfl (ok_loadV (s := 1000006) (by decide) Try.underlying23 rfl rfl rfl (rfl)) ?_
  refine RunK.step rfl rfl (ok_index0 (0) Try.underlying43 info23 rfl rfl (rfl) (by decide)) ?_
  refine RunK.step rfl rfl (ok_loadV (s := 1000007) (by decide) Try.underlying23 rfl rfl rfl (rfl)) ?_
  refine RunK.step rfl rfl (ok_bin rfl rfl rfl) ?_; refine RunK.as (.bool false) (by simp; omega) ?_
  refine RunK.step rfl rfl (ok_move rfl) ?_
  refine RunK.skipped rfl rfl rfl rfl rfl ?_
  refine RunK.skipped rfl rfl rfl rfl rfl ?_
  refine RunK.skipped rfl rfl rfl rfl rfl ?_
  refine RunK.skipped rfl rfl rfl rfl rfl ?_
  refine RunK.skipped rfl rfl rfl rfl rfl ?_
  refine RunK.step rfl rfl (ok_pick rfl rfl) ?_
  refine RunK.step rfl rfl (ok_move rfl) ?_
  refine RunK.guarded rfl rfl rfl rfl (ok_index0 (0) Try.underlying43 info23 rfl rfl (rfl) (by decide)) ?_
  refine RunK.guarded rfl rfl rfl rfl (ok_loadV (s := 1000007) (by decide) Try.underlying23 rfl rfl rfl (rfl)) ?_
  refine RunK.guarded rfl rfl rfl rfl (ok_index0 (0) Try.underlying43 info23 rfl rfl (rfl) (by decide)) ?_
  refine RunK.guarded rfl rfl rfl rfl (ok_loadV (s := 1000006) (by decide) Try.underlying23 rfl rfl rfl (rfl)) ?_
  refine RunK.guarded rfl rfl rfl rfl (ok_bin rfl rfl rfl) ?_; refine RunK.as (.bool true) (by simp; omega) ?_
  refine RunK.guarded rfl rfl rfl rfl (ok_move rfl) ?_
  refine RunK.guarded rfl rfl rfl rfl (ok_index0 (0) Try.underlying43 info23 rfl rfl (rfl) (by decide)) ?_
  refine RunK.guarded rfl rfl rfl rfl (ok_loadV (s := 1000007) (by decide) Try.underlying23 rfl rfl rfl (rfl)) ?_
  refine RunK.guarded rfl rfl rfl rfl (ok_index0 (1) Try.underlying43 info23 rfl rfl (rfl) (by decide)) ?_
  refine RunK.guarded rfl rfl rfl rfl (ok_loadV (s := 1000006) (by decide) Try.underlying23 rfl rfl rfl (rfl)) ?_
  refine RunK.guarded rfl rfl rfl rfl (ok_bin rfl rfl rfl) ?_; refine RunK.as (.bool true) (by simp; omega) ?_
  refine RunK.guarded rfl rfl rfl rfl (ok_pick rfl rfl) ?_
  refine RunK.step rfl rfl (ok_pick rfl rfl) ?_
  refine RunK.step rfl rfl (ok_assign rfl) ?_
  refine RunK.nil ?_
  refine A.sub (Sub.cons (t := 8) rfl (Sub.cons (t := 1000004) rfl (Sub.cons (t := 1000005) rfl (Sub.cons (t := 1000006) rfl (Sub.cons (t := 1000007) rfl Sub.nil))))) ?_
  refine A.ret ?_
  exact End.ret1 rfl rfl (by first | exact Le.refl _ | exact Le.old _ _)
set_option maxHeartbeats 1000000 in
theorem ref7Over_G (s c f l s' c' f' l' : Nat) (he : s = s' ∧ c = c') (h1 : f ≤ l) (h2 : f' ≤ l') (h3 : f < f') (h4 : l < f') : Fn Try.prog 16 [.v (aggV ([.int .u32 ((s : Nat) : Int), .int .u64 ((c : Nat) : Int)])), .v (aggV ([.int .u32 ((s' : Nat) : Int), .int .u64 ((c' : Nat) : Int)])), .v (aggV ([.int .u32 ((f : Nat) : Int), .int .u32 ((l : Nat) : Int)])), .v (aggV ([.int .u32 ((f' : Nat) : Int), .int .u32 ((l' : Nat) : Int)]))] (.v (.bool false)) := by
  refine Fn.of Try.func16 rfl (by kernel_rfl) Try.ntmps16 (by simp) (fun w => [(0, .v (aggV ([.int .u32 ((s : Nat) : Int), .int .u64 ((c : Nat) : Int)]))), (1, .v (aggV ([.int .u32 ((s' : Nat) : Int), .int .u64 ((c' : Nat) : Int)]))), (2, .v (aggV ([.int .u32 ((f : Nat) : Int), .int .u32 ((l : Nat) : Int)]))), (3, .v (aggV ([.int .u32 ((f' : Nat) : Int), .int .u32 ((l' : Nat) : Int)])))]) (fun w => (Start.v rfl (Start.v rfl (Start.v rfl (Start.v rfl Start.nil))))) fun w₀ => ?_
  refine A.regs (by kernel_rfl) (by kernel_rfl) (.inl rfl) ?_
  refine RunTK.new 0 (by decide) rfl (.inl rfl) ?_
  refine RunK.nil ?_
  refine ⟨_, _, eff_box (n := 52) (d := 4) (k := 1000004) rfl (by decide), fun b4 hb4 => ?_⟩
  have hBb4 := hb4.1
  refine RunTK.new 1 (by decide) rfl (.inl rfl) ?_
  refine RunK.nil ?_
  refine ⟨_, _, eff_box (n := 52) (d := 5) (k := 1000005) rfl (by decide), fun b5 hb5 => ?_⟩
  have hBb5 := hb5.1
  have hlt_b4_b5 : b4 < b5 := hb5.2 1000004 _ _ _ rfl
  refine RunTK.new 2 (by decide) rfl (.inl rfl) ?_
  refine RunK.nil ?_
  refine ⟨_, _, eff_box (n := 52) (d := 6) (k := 1000006) rfl (by decide), fun b6 hb6 => ?_⟩
  have hBb6 := hb6.1
  have hlt_b4_b6 : b4 < b6 := hb6.2 1000004 _ _ _ rfl
  have hlt_b5_b6 : b5 < b6 := hb6.2 1000005 _ _ _ rfl
  refine RunTK.new 3 (by decide) rfl (.inl rfl) ?_
  refine RunK.nil ?_
  refine ⟨_, _, eff_box (n := 52) (d := 7) (k := 1000007) rfl (by decide), fun b7 hb7 => ?_⟩
  have hBb7 := hb7.1
  have hlt_b4_b7 : b4 < b7 := hb7.2 1000004 _ _ _ rfl
  have hlt_b5_b7 : b5 < b7 := hb7.2 1000005 _ _ _ rfl
  have hlt_b6_b7 : b6 < b7 := hb7.2 1000006 _ _ _ rfl
  refine RunTK.last ?_
  refine RunK.step rfl rfl (ok_assign rfl) ?_
  refine RunK.nil ?_
  refine A.sub (Sub.cons (t := 4) rfl (Sub.cons (t := 5) rfl (Sub.cons (t := 6) rfl (Sub.cons (t := 7) rfl (Sub.cons (t := 1000004) rfl (Sub.cons (t := 1000005) rfl (Sub.cons (t := 1000006) rfl (Sub.cons (t := 1000007) rfl Sub.nil)))))))) ?_
  refine A.seq ?_
  refine A.regs (by kernel_rfl) (by kernel_rfl) (.inl rfl) ?_
  refine RunTK.last ?_
  refine RunK.step rfl rfl (ok_loadA (s := 1000004) (by decide) Try.underlying26 rfl (size26.of (rfl)) rfl rfl) ?_
  refine RunK.step rfl rfl (ok_loadA (s := 1000005) (by decide) Try.underlying26 rfl (size26.of (rfl)) rfl rfl) ?_
  refine RunK.step rfl rfl (ok_neqT (n := 3) (decide (s = s' ∧ c = c')) flat26 (by decide) (by kernel_rfl) (by kernel_rfl) rfl rfl (kinN _ _) (kinN _ _) eqN) ?_; refine RunK.as (.bool false) (by simp [he]) ?_
  refine RunK.step rfl rfl (ok_move rfl) ?_
  refine RunK.guarded rfl rfl rfl rfl (ok_index0 (0) Try.underlying43 info23 rfl rfl (rfl) (by decide)) ?_
  refine RunK.guarded rfl rfl rfl rfl (ok_loadV (s := 1000006) (by decide) Try.underlying23 rfl rfl rfl (rfl)) ?_
  refine RunK.guarded rfl rfl rfl rfl (ok_index0 (1) Try.underlying43 info23 rfl rfl (rfl) (by decide)) ?_
  refine RunK.guarded rfl rfl rfl rfl (ok_loadV (s := 1000006) (by decide) Try.underlying23 rfl rfl rfl (rfl)) ?_
  refine RunK.guarded rfl rfl rfl rfl (ok_bin rfl rfl rfl) ?_; refine RunK.as (.bool false) (by simp; omega) ?_
  refine RunK.step rfl rfl (ok_pick rfl rfl) ?_
  refine RunK.step rfl rfl (ok_move rfl) ?_
  refine RunK.guarded rfl rfl rfl rfl (ok_index0 (0) Try.underlying43 info23 rfl rfl (rfl) (by decide)) ?_
  refine RunK.guarded rfl rfl rfl rfl (ok_loadV (s := 1000007) (by decide) Try.underlying23 rfl rfl rfl (rfl)) ?_
  refine RunK.guarded rfl rfl rfl rfl (ok_index0 (1) Try.underlying43 info23 rfl rfl (rfl) (by decide)) ?_
  refine RunK.guarded rfl rfl rfl rfl (ok_loadV (s := 1000007) (by decide) Try.underlying23 rfl rfl rfl (rfl)) ?_
  refine RunK.guarded rfl rfl rfl rfl (ok_bin rfl rfl rfl) ?_; refine RunK.as (.bool false) (by simp; omega) ?_
  refine RunK.step rfl rfl (ok_pick rfl rfl) ?_
  refine RunK.nil ?_
  refine A.sub (Sub.cons (t := 6) rfl (Sub.cons (t := 7) rfl (Sub.cons (t := 25) rfl (Sub.cons (t := 1000004) rfl (Sub.cons (t := 1000005) rfl (Sub.cons (t := 1000006) rfl (Sub.cons (t := 1000007) rfl Sub.nil))))))) ?_
  refine A.no rfl ?_
  refine A.skip ?_
  refine End.normal_then (End.code ?_)
  refine A.regs (by kernel_rfl) (by kernel_rfl) (.inl rfl) ?_
  refine RunTK.last ?_
  refine RunK.step rfl rfl (ok_index0 (0) Try.underlying43 info23 rfl rfl (rfl) (by decide)) ?_
  refine RunK.step rfl rfl (ok_loadV (s := 1000006) (by decide) Try.underlying23 rfl rfl rfl (rfl)) ?_
  refine RunK.step rfl rfl (ok_index0 (0) Try.underlying43 info23 rfl rfl (rfl) (by decide)) ?_
  refine RunK.step rfl rfl (ok_loadV (s := 1000007) (by decide) Try.underlying23 rfl rfl rfl (rfl)) ?_
  refine RunK.step rfl rfl (ok_bin rfl rfl rfl) ?_; refine RunK.as (.bool false) (by simp; omega) ?_
  refine RunK.step rfl rfl (ok_move rfl) ?_
  refine RunK.skipped rfl rfl rfl rfl rfl ?_
  refine RunK.skipped rfl rfl rfl rfl rfl ?_
  refine RunK.skipped rfl rfl rfl rfl rfl ?_
  refine RunK.skipped rfl rfl rfl rfl rfl ?_
  refine RunK.skipped rfl rfl rfl rfl rfl ?_
  refine RunK.step rfl rfl (ok_pick rfl rfl) ?_
  refine RunK.step rfl rfl (ok_move rfl) ?_
  refine RunK.guarded rfl rfl rfl rfl (ok_index0 (0) Try.underlying43 info23 rfl rfl (rfl) (by decide)) ?_
  refine RunK.guarded rfl rfl rfl rfl (ok_loadV (s := 1000007) (by decide) Try.underlying23 rfl rfl rfl (rfl)) ?_
  refine RunK.guarded rfl rfl rfl rfl (ok_index0 (0) Try.underlying43 info23 rfl rfl (rfl) (by decide)) ?_
  refine RunK.guarded rfl rfl rfl rfl (ok_loadV (s := 1000006) (by decide) Try.underlying23 rfl rfl rfl (rfl)) ?_
  refine RunK.guarded rfl rfl rfl rfl (ok_bin rfl rfl rfl) ?_; refine RunK.as (.bool true) (by simp; omega) ?_
  refine RunK.guarded rfl rfl rfl rfl (ok_move rfl) ?_
  refine RunK.guarded rfl rfl rfl rfl (ok_index0 (0) Try.underlying43 info23 rfl rfl (rfl) (by decide)) ?_
  refine RunK.guarded rfl rfl rfl rfl (ok_loadV (s := 1000007) (by decide) Try.underlying23 rfl rfl rfl (rfl)) ?_
  refine RunK.guarded rfl rfl rfl rfl (ok_index0 (1) Try.underlying43 info23 rfl rfl (rfl) (by decide)) ?_
  refine RunK.guarded rfl rfl rfl rfl (ok_loadV (s := 1000006) (by decide) Try.underlying23 rfl rfl rfl (rfl)) ?_
  refine RunK.guarded rfl rfl rfl rfl (ok_bin rfl rfl rfl) ?_; refine RunK.as (.bool false) (by simp; omega) ?_
  refine RunK.guarded rfl rfl rfl rfl (ok_pick rfl rfl) ?_
  refine RunK.step rfl rfl (ok_pick rfl rfl) ?_
  refine RunK.step rfl rfl (ok_assign rfl) ?_
  refine RunK.nil ?_
  refine A.sub (Sub.cons (t := 8) rfl (Sub.cons (t := 1000004) rfl (Sub.cons (t := 1000005) rfl (Sub.cons (t := 1000006) rfl (Sub.cons (t := 1000007) rfl Sub.nil))))) ?_
  refine A.ret ?_
  exact End.ret1 rfl rfl (by first | exact Le.refl _ | exact Le.old _ _)
theorem ref7Over_fn (s c f l s' c' f' l' : Nat) : Fn Try.prog 16 [.v (aggV ([.int .u32 ((s : Nat) : Int), .int .u64 ((c : Nat) : Int)])), .v (aggV ([.int .u32 ((s' : Nat) : Int), .int .u64 ((c' : Nat) : Int)])), .v (aggV ([.int .u32 ((f : Nat) : Int), .int .u32 ((l : Nat) : Int)])), .v (aggV ([.int .u32 ((f' : Nat) : Int), .int .u32 ((l' : Nat) : Int)]))] (.v (.bool (overB s c f l s' c' f' l'))) := by
  by_cases he : s = s' ∧ c = c'
  · by_cases h1 : f ≤ l
    · by_cases h2 : f' ≤ l'
      · by_cases h3 : f' ≤ f
        · by_cases h4 : f ≤ l'
          · rw [show overB s c f l s' c' f' l' = true from by simp [overB, he]; omega]; exact ref7Over_D _ _ _ _ _ _ _ _ he h1 h2 h3 h4
          · rw [show overB s c f l s' c' f' l' = false from by simp [overB, he]; omega]; exact ref7Over_E _ _ _ _ _ _ _ _ he h1 h2 h3 (by omega)
        · by_cases h4 : f' ≤ l
          · rw [show overB s c f l s' c' f' l' = true from by simp [overB, he]; omega]; exact ref7Over_F _ _ _ _ _ _ _ _ he h1 h2 (by omega) h4
          · rw [show overB s c f l s' c' f' l' = false from by simp [overB, he]; omega]; exact ref7Over_G _ _ _ _ _ _ _ _ he h1 h2 (by omega) (by omega)
      · rw [show overB s c f l s' c' f' l' = false from by simp [overB, he]; omega]; exact ref7Over_C _ _ _ _ _ _ _ _ he h1 (by omega)
    · rw [show overB s c f l s' c' f' l' = false from by simp [overB, he]; omega]; exact ref7Over_B _ _ _ _ _ _ _ _ he (by omega)
  · rw [show overB s c f l s' c' f' l' = false from by simp [overB, he]]; exact ref7Over_A _ _ _ _ _ _ _ _ he
end Go.Proofs.Ythggljahgnjcbaa
