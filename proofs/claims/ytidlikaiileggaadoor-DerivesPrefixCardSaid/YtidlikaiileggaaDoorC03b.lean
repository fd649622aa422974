/-
  Package macs by facts: Block, Of, Verify.
-/
import Derived.Test.YtidlikaiileggaaDoorC02k
import Derived.Test.YtidlikaiileggaaDoorC03a
import Derived.Test.YtidlikaiileggaaDoorFresh
namespace Go.Proofs.YtidlikaiileggaaDoor
open Go Go.RowKit
set_option linter.unusedVariables false

set_option maxHeartbeats 1000000 in
theorem macBlock_fn (k : List UInt8) (hk : k.length ≤ 1000) : FnM Tryd.prog 22 tabs [byt k] (.v (aggV ((kblock k).map byteV))) := by
  refine FnM.of Tryd.func22 rfl (by kernel_rfl) Tryd.ntmps22 (by simp) (by decide) (fun w => [(0, old w.heap.size (byt k)), (1900000, tab 0 (H8.list.map u32V)), (1900001, tab 1 (K64.map u32V))]) (fun w => (StartM.old rfl (StartM.m (by simp [tabs]) (by decide) (StartM.m (by simp [tabs]) (by decide) StartM.nil)))) fun w₀ hM => ?_
  have htab := tabs_hi hM
  refine A.regs (by kernel_rfl) (by kernel_rfl) (.inl rfl) ?_
  refine RunTK.new 0 (by decide) rfl (.inl rfl) ?_
  refine RunK.nil ?_
  refine ⟨_, _, eff_alloc (n := 16) (d := 2) (k := 1000002) zero53 (by decide), fun b2 hb2 => ?_⟩
  have hBb2 := hb2.1
  refine RunTK.last ?_
  refine RunK.nil ?_
  refine A.sub (Sub.cons (t := 0) rfl (Sub.cons (t := 2) rfl (Sub.cons (t := 1000002) rfl (Sub.cons (t := 1900000) rfl (Sub.cons (t := 1900001) rfl Sub.nil))))) ?_
  refine A.regs (by kernel_rfl) (by kernel_rfl) (.inl rfl) ?_
  refine RunTK.new 0 (by decide) rfl (.inl rfl) ?_
  refine RunK.nil ?_
  refine ⟨_, _, eff_alloc (n := 16) (d := 3) (k := 1000003) zero53 (by decide), fun b3 hb3 => ?_⟩
  have hBb3 := hb3.1
  have hlt_b2_b3 : b2 < b3 := hb3.2 1000002 _ _ _ rfl
  refine RunTK.last ?_
  refine RunK.nil ?_
  refine A.sub (Sub.cons (t := 0) rfl (Sub.cons (t := 2) rfl (Sub.cons (t := 3) rfl (Sub.cons (t := 1000002) rfl (Sub.cons (t := 1000003) rfl (Sub.cons (t := 1900000) rfl (Sub.cons (t := 1900001) rfl Sub.nil))))))) ?_
  refine A.seq ?_
  refine A.regs (by kernel_rfl) (by kernel_rfl) (.inl rfl) ?_
  refine RunTK.last ?_
  refine RunK.step rfl rfl (ok_move rfl) ?_
  refine RunK.step rfl rfl (ok_lenB Tryd.underlying22 rfl (Le.old _ _)) ?_
  refine RunK.step rfl rfl (ok_bin rfl rfl rfl) ?_
  refine RunK.nil ?_
  refine A.sub (Sub.cons (t := 0) rfl (Sub.cons (t := 2) rfl (Sub.cons (t := 3) rfl (Sub.cons (t := 7) rfl (Sub.cons (t := 1000002) rfl (Sub.cons (t := 1000003) rfl (Sub.cons (t := 1900000) rfl (Sub.cons (t := 1900001) rfl Sub.nil)))))))) ?_
  refine A.cond rfl (fun hc7 => ?_) (fun hc7 => ?_)
  · have h64 : 64 < k.length := by simp at hc7; omega
    obtain ⟨L, hL⟩ : ∃ L, sha k = L := ⟨_, rfl⟩
    have hkb : kbase k = L := by rw [kbase, if_pos h64, hL]
    refine A.regs (by kernel_rfl) (by kernel_rfl) (.inl rfl) ?_
    refine RunTK.new 3 (by decide) rfl (.inl rfl) ?_
    refine RunK.step rfl rfl (ok_move rfl) ?_
    refine RunK.step rfl rfl (ok_build [old w₀.heap.size (byt k)] Tryd.underlying52 info22 rfl (by decide) (by decide) rfl ⟨rfl, rfl, trivial⟩ (fun d hd w x h => by simp only [List.mem_cons, List.not_mem_nil, or_false] at hd; subst hd; exact old_one (fun _ _ h => lst_one h) h)) ?_
    refine RunK.step rfl rfl (ok_callM (Of_fn [k] k (by simp) (by simp) (by omega)) (Sub.cons rfl (Sub.cons rfl Sub.nil)) tabs_v (Args.cons rfl (list_lst1 (Le.old _ _)) Args.nil)) ?_
    refine RunK.nil ?_
    refine ⟨_, _, eff_alloc (n := 16) (d := 4) (k := 1000004) zero25 (by decide), fun b4 hb4 => ?_⟩
    have hBb4 := hb4.1
    have hlt_b2_b4 : b2 < b4 := hb4.2 1000002 _ _ _ rfl
    have hlt_b3_b4 : b3 < b4 := hb4.2 1000003 _ _ _ rfl
    refine RunTK.eff 4 (by decide) rfl (.inl rfl) ?_
    refine RunK.nil ?_
    refine ⟨_, eff_storeA (n := 16) (s := 1000004) (size25.of (by rw [List.length_map, sha_length])) rfl rfl (all_bytes _) hBb4 rfl (by rw [List.length_map, sha_length, List.length_replicate]) (LeftS.cons (t := 0) rfl (Surv.old (by omega)) (LeftS.cons (t := 2) rfl (Surv.v _) (LeftS.cons (t := 3) rfl (Surv.v _) (LeftS.cons (t := 4) rfl (Surv.v _) (LeftS.cons (t := 7) rfl (Surv.v _) (LeftS.cons (t := 8) rfl (Surv.old (by omega)) (LeftS.cons (t := 10) rfl (Surv.v _) (LeftS.cons (t := 1000002) rfl (Surv.blkT (by decide)) (LeftS.cons (t := 1000003) rfl (Surv.blkT (by decide)) (LeftS.cons (t := 1900000) rfl (Surv.tab (by omega)) (LeftS.cons (t := 1900001) rfl (Surv.tab (by omega)) LeftS.nil))))))))))), ?_⟩
    refine RunTK.last ?_
    refine RunK.nil ?_
    refine A.sub (Sub.cons (t := 2) rfl (Sub.cons (t := 3) rfl (Sub.cons (t := 4) rfl (Sub.cons (t := 1000002) rfl (Sub.cons (t := 1000003) rfl (Sub.cons (t := 1000004) rfl (Sub.cons (t := 1900000) rfl (Sub.cons (t := 1900001) rfl Sub.nil)))))))) ?_
    refine A.reg (by kernel_rfl) (by kernel_rfl) (.inl rfl) ?_
    refine RunTK.last ?_
    refine RunK.step rfl rfl (ok_sliceA (s := 1000004) 0 32 (by decide) Tryd.underlying25 info5 rfl rfl (.inr ⟨rfl, rfl⟩) (.inr ⟨rfl, rfl⟩) (by omega) (by omega) (by rw [List.length_map, sha_length]) (by decide)) ?_
    refine RunK.step rfl rfl (ok_assign rfl) ?_
    refine RunK.nil ?_
    refine End.sub (Sub.cons (t := 0) rfl (Sub.cons (t := 2) rfl (Sub.cons (t := 3) rfl (Sub.cons (t := 1000002) rfl (Sub.cons (t := 1000003) rfl (Sub.cons (t := 1000004) rfl (Sub.cons (t := 1900000) rfl (Sub.cons (t := 1900001) rfl Sub.nil)))))))) ?_
    refine End.normal_then (End.code ?_)
    refine A.regs (by kernel_rfl) (by kernel_rfl) (.inl rfl) ?_
    refine RunTK.eff 2 (by decide) rfl (.inl rfl) ?_
    refine RunK.step rfl rfl (ok_sliceX (l := 0) (h := 64) (m := 64) Tryd.underlying53 info5 rfl (.inr ⟨rfl, rfl⟩) (.inr ⟨rfl, rfl, rfl⟩) (.inr ⟨rfl, rfl⟩) (by omega) (by omega) (by omega) (.inr rfl)) ?_
    refine RunK.step rfl rfl (ok_move rfl) ?_
    refine RunK.nil ?_
    refine ⟨_, eff_copyS (n := 16) (s := 1000003) (l := L) Tryd.underlying22 info5 rfl rfl (by first | exact hL ▸ Le.old _ _ | (rw [← hL]; exact (Le.eq (by rw [byt_vals]; congr 2 <;> rw [List.drop_zero, List.take_of_length_le (by rw [List.length_map, sha_length]; exact Nat.le_refl _)])))) hBb3 rfl (by simp) (by decide) (LeftS.cons (t := 2) rfl (Surv.v _) (LeftS.cons (t := 3) rfl (Surv.v _) (LeftS.cons (t := 12) rfl (Surv.v _) (LeftS.cons (t := 1000002) rfl (Surv.blk (by omega)) (LeftS.cons (t := 1000004) rfl (Surv.blkT (by decide)) (LeftS.cons (t := 1900000) rfl (Surv.tab (by omega)) (LeftS.cons (t := 1900001) rfl (Surv.tab (by omega)) LeftS.nil))))))), ?_⟩
    refine RunTK.last ?_
    refine RunK.nil ?_
    refine A.sub (Sub.cons (t := 2) rfl (Sub.cons (t := 3) rfl (Sub.cons (t := 1000002) rfl (Sub.eq (t := 1000003) _ rfl (show blk b3 53 _ = blk b3 53 ((kblock k).map byteV) from congrArg _ (kblock_copy hkb)) (Sub.cons (t := 1000004) rfl (Sub.cons (t := 1900000) rfl (Sub.cons (t := 1900001) rfl Sub.nil))))))) ?_
    refine A.regs (by kernel_rfl) (by kernel_rfl) (.inl rfl) ?_
    refine RunTK.eff 1 (by decide) rfl (.inl rfl) ?_
    refine RunK.step rfl rfl (ok_loadA (s := 1000003) (by decide) Tryd.underlying53 rfl (size53.of (by rw [List.length_map, kblock_length])) rfl rfl) ?_
    refine RunK.nil ?_
    refine ⟨_, eff_storeA (n := 16) (s := 1000002) (size53.of (by rw [List.length_map, kblock_length])) rfl rfl (all_bytes _) hBb2 rfl (by rw [List.length_map, kblock_length, List.length_replicate]) (LeftS.cons (t := 2) rfl (Surv.v _) (LeftS.cons (t := 3) rfl (Surv.v _) (LeftS.cons (t := 15) rfl (Surv.v _) (LeftS.cons (t := 1000003) rfl (Surv.blk (by omega)) (LeftS.cons (t := 1000004) rfl (Surv.blkT (by decide)) (LeftS.cons (t := 1900000) rfl (Surv.tab (by omega)) (LeftS.cons (t := 1900001) rfl (Surv.tab (by omega)) LeftS.nil))))))), ?_⟩
    refine RunTK.last ?_
    refine RunK.nil ?_
    refine A.sub (Sub.cons (t := 2) rfl (Sub.cons (t := 1000002) rfl (Sub.cons (t := 1000003) rfl (Sub.cons (t := 1000004) rfl (Sub.cons (t := 1900000) rfl (Sub.cons (t := 1900001) rfl Sub.nil)))))) ?_
    refine A.ret ?_
    exact End.cell1 (s := 1000002) rfl Tryd.underlying53 rfl (size53.of (by rw [List.length_map, kblock_length])) rfl rfl (Le.refl _)
  · have h64 : ¬ 64 < k.length := by simp at hc7; omega
    obtain ⟨L, hL⟩ : ∃ L, k = L := ⟨_, rfl⟩
    have hkb : kbase k = L := by rw [kbase, if_neg h64, hL]
    refine A.skip ?_
    refine End.normal_then (End.code ?_)
    refine A.regs (by kernel_rfl) (by kernel_rfl) (.inl rfl) ?_
    refine RunTK.eff 2 (by decide) rfl (.inl rfl) ?_
    refine RunK.step rfl rfl (ok_sliceX (l := 0) (h := 64) (m := 64) Tryd.underlying53 info5 rfl (.inr ⟨rfl, rfl⟩) (.inr ⟨rfl, rfl, rfl⟩) (.inr ⟨rfl, rfl⟩) (by omega) (by omega) (by omega) (.inr rfl)) ?_
    refine RunK.step rfl rfl (ok_move rfl) ?_
    refine RunK.nil ?_
    refine ⟨_, eff_copyS (n := 16) (s := 1000003) (l := L) Tryd.underlying22 info5 rfl rfl (by first | exact hL ▸ Le.old _ _ | (rw [← hL]; exact (Le.eq (by rw [byt_vals]; congr 2 <;> rw [List.drop_zero, List.take_of_length_le (by rw [List.length_map, sha_length]; exact Nat.le_refl _)])))) hBb3 rfl (by simp) (by decide) (LeftS.cons (t := 0) rfl (Surv.old (by omega)) (LeftS.cons (t := 2) rfl (Surv.v _) (LeftS.cons (t := 3) rfl (Surv.v _) (LeftS.cons (t := 7) rfl (Surv.v _) (LeftS.cons (t := 12) rfl (Surv.v _) (LeftS.cons (t := 13) rfl (Surv.old (by omega)) (LeftS.cons (t := 1000002) rfl (Surv.blk (by omega)) (LeftS.cons (t := 1900000) rfl (Surv.tab (by omega)) (LeftS.cons (t := 1900001) rfl (Surv.tab (by omega)) LeftS.nil))))))))), ?_⟩
    refine RunTK.last ?_
    refine RunK.nil ?_
    refine A.sub (Sub.cons (t := 2) rfl (Sub.cons (t := 3) rfl (Sub.cons (t := 1000002) rfl (Sub.eq (t := 1000003) _ rfl (show blk b3 53 _ = blk b3 53 ((kblock k).map byteV) from congrArg _ (kblock_copy hkb)) (Sub.cons (t := 1900000) rfl (Sub.cons (t := 1900001) rfl Sub.nil)))))) ?_
    refine A.regs (by kernel_rfl) (by kernel_rfl) (.inl rfl) ?_
    refine RunTK.eff 1 (by decide) rfl (.inl rfl) ?_
    refine RunK.step rfl rfl (ok_loadA (s := 1000003) (by decide) Tryd.underlying53 rfl (size53.of (by rw [List.length_map, kblock_length])) rfl rfl) ?_
    refine RunK.nil ?_
    refine ⟨_, eff_storeA (n := 16) (s := 1000002) (size53.of (by rw [List.length_map, kblock_length])) rfl rfl (all_bytes _) hBb2 rfl (by rw [List.length_map, kblock_length, List.length_replicate]) (LeftS.cons (t := 2) rfl (Surv.v _) (LeftS.cons (t := 3) rfl (Surv.v _) (LeftS.cons (t := 15) rfl (Surv.v _) (LeftS.cons (t := 1000003) rfl (Surv.blk (by omega)) (LeftS.cons (t := 1900000) rfl (Surv.tab (by omega)) (LeftS.cons (t := 1900001) rfl (Surv.tab (by omega)) LeftS.nil)))))), ?_⟩
    refine RunTK.last ?_
    refine RunK.nil ?_
    refine A.sub (Sub.cons (t := 2) rfl (Sub.cons (t := 1000002) rfl (Sub.cons (t := 1000003) rfl (Sub.cons (t := 1900000) rfl (Sub.cons (t := 1900001) rfl Sub.nil))))) ?_
    refine A.ret ?_
    exact End.cell1 (s := 1000002) rfl Tryd.underlying53 rfl (size53.of (by rw [List.length_map, kblock_length])) rfl rfl (Le.refl _)
set_option maxHeartbeats 1000000 in
theorem macKeyed_fn (c : UInt8) (k : List UInt8) : FnM Tryd.prog 23 tabs [.v (aggV ((kblock k).map byteV)), .v (byteV c)] (.v (stV (kpad c k))) := by
  refine FnM.of Tryd.func23 rfl (by kernel_rfl) Tryd.ntmps23 (by simp) (by decide) (fun w => [(0, .v (aggV ((kblock k).map byteV))), (1, .v (byteV c)), (1900000, tab 0 (H8.list.map u32V)), (1900001, tab 1 (K64.map u32V))]) (fun w => (StartM.v rfl (StartM.v rfl (StartM.m (by simp [tabs]) (by decide) (StartM.m (by simp [tabs]) (by decide) StartM.nil))))) fun w₀ hM => ?_
  have htab := tabs_hi hM
  refine A.regs (by kernel_rfl) (by kernel_rfl) (.inl rfl) ?_
  refine RunTK.new 0 (by decide) rfl (.inl rfl) ?_
  refine RunK.nil ?_
  refine ⟨_, _, eff_box (n := 19) (d := 2) (k := 1000002) rfl (by decide), fun b2 hb2 => ?_⟩
  have hBb2 := hb2.1
  refine RunTK.new 1 (by decide) rfl (.inl rfl) ?_
  refine RunK.nil ?_
  refine ⟨_, _, eff_alloc (n := 19) (d := 4) (k := 1000004) zero59 (by decide), fun b4 hb4 => ?_⟩
  have hBb4 := hb4.1
  have hlt_b2_b4 : b2 < b4 := hb4.2 1000002 _ _ _ rfl
  refine RunTK.last ?_
  refine RunK.nil ?_
  refine A.sub (Sub.cons (t := 1) rfl (Sub.cons (t := 2) rfl (Sub.cons (t := 4) rfl (Sub.cons (t := 1000002) rfl (Sub.cons (t := 1000004) rfl (Sub.cons (t := 1900000) rfl (Sub.cons (t := 1900001) rfl Sub.nil))))))) ?_
  refine A.seq ?_
  refine A.regs (by kernel_rfl) (by kernel_rfl) (.inl rfl) ?_
  refine RunTK.last ?_
  refine RunK.step rfl rfl (ok_move rfl) ?_
  refine RunK.nil ?_
  refine A.sub (Sub.cons (t := 1) rfl (Sub.cons (t := 2) rfl (Sub.cons (t := 4) rfl (Sub.cons (t := 6) rfl (Sub.cons (t := 1000002) rfl (Sub.cons (t := 1000004) rfl (Sub.cons (t := 1900000) rfl (Sub.cons (t := 1900001) rfl Sub.nil)))))))) ?_
  refine A.block ?_
  refine A.loop (ι := Nat) (fun i => i ≤ 64) (fun i => [(1, .v (byteV c)), (2, .v (.pointer (some ⟨b2, 0, none⟩))), (4, .v (.pointer (some ⟨b4, 0, none⟩))), (6, .v (.int .i64 ((i : Nat) : Int))), (1000002, blk b2 53 ((kpart c k i).map byteV)), (1000004, blk b4 59 (List.replicate 8 (.int .u32 0) ++ List.replicate 64 (.int .u8 0) ++ [.int .u64 0])), (1900000, tab 0 (H8.list.map u32V)), (1900001, tab 1 (K64.map u32V))]) (fun i => 64 - i) 0 ?_ ?_ ?_
  · exact Nat.zero_le _
  · exact (Sub.cons (t := 1) rfl (Sub.cons (t := 2) rfl (Sub.cons (t := 4) rfl (Sub.cons (t := 6) rfl (Sub.eq (t := 1000002) _ rfl (by rw [kpart_zero]) (Sub.cons (t := 1000004) rfl (Sub.cons (t := 1900000) rfl (Sub.cons (t := 1900001) rfl Sub.nil))))))))
  intro i hi
  refine A.regs (by kernel_rfl) (by kernel_rfl) (.inl rfl) ?_
  refine RunTK.last ?_
  refine RunK.step rfl rfl (ok_bin rfl rfl rfl) ?_
  refine RunK.nil ?_
  refine A.sub (Sub.cons (t := 1) rfl (Sub.cons (t := 2) rfl (Sub.cons (t := 4) rfl (Sub.cons (t := 6) rfl (Sub.cons (t := 7) rfl (Sub.cons (t := 1000002) rfl (Sub.cons (t := 1000004) rfl (Sub.cons (t := 1900000) rfl (Sub.cons (t := 1900001) rfl Sub.nil))))))))) ?_
  refine A.seq ?_
  refine A.cond rfl (fun hc7 => ?_) (fun hc7 => ?_)
  · have hlt : i < 64 := by simp at hc7; omega
    refine A.skip ?_
    refine End.normal_then (End.code ?_)
    refine A.seq ?_
    refine A.block ?_
    refine A.regs (by kernel_rfl) (by kernel_rfl) (.inl rfl) ?_
    refine RunTK.last ?_
    refine RunK.step rfl rfl (ok_move rfl) ?_
    refine RunK.step rfl rfl (ok_assign rfl) ?_
    refine RunK.nil ?_
    refine A.sub (Sub.cons (t := 1) rfl (Sub.cons (t := 2) rfl (Sub.cons (t := 4) rfl (Sub.cons (t := 5) rfl (Sub.cons (t := 6) rfl (Sub.cons (t := 1000002) rfl (Sub.cons (t := 1000004) rfl (Sub.cons (t := 1900000) rfl (Sub.cons (t := 1900001) rfl Sub.nil))))))))) ?_
    refine A.reg (by kernel_rfl) (by kernel_rfl) (.inl rfl) ?_
    refine RunTK.eff 6 (by decide) rfl (.inl rfl) ?_
    refine RunK.step rfl rfl (ok_move rfl) ?_
    refine RunK.step rfl rfl (ok_index0 _ Tryd.underlying53 info5 rfl rfl (rfl) (by omega)) ?_
    refine RunK.step rfl rfl (ok_loadV (s := 1000002) (by decide) Tryd.underlying5 rfl rfl rfl (kpart_get (by omega))) ?_
    refine RunK.step rfl rfl (ok_move rfl) ?_
    refine RunK.step rfl rfl (ok_bin rfl rfl rfl) ?_; refine RunK.as (byteV ((kblock k).getD i 0 ^^^ c)) (congrArg (Value.int .u8) (xor_u8_nat ((kblock k).getD i 0) c)) ?_
    refine RunK.step rfl rfl (ok_index0 _ Tryd.underlying53 info5 rfl rfl (rfl) (by omega)) ?_
    refine RunK.nil ?_
    refine ⟨_, eff_storeS (n := 19) (s := 1000002) info5 rfl rfl rfl hBb2 rfl (by rw [List.length_map, kpart_length (by omega)]; exact hlt) (LeftS.cons (t := 1) rfl (Surv.v _) (LeftS.cons (t := 2) rfl (Surv.v _) (LeftS.cons (t := 4) rfl (Surv.v _) (LeftS.cons (t := 5) rfl (Surv.v _) (LeftS.cons (t := 6) rfl (Surv.v _) (LeftS.cons (t := 9) rfl (Surv.v _) (LeftS.cons (t := 10) rfl (Surv.v _) (LeftS.cons (t := 11) rfl (Surv.v _) (LeftS.cons (t := 12) rfl (Surv.v _) (LeftS.cons (t := 13) rfl (Surv.v _) (LeftS.cons (t := 14) rfl (Surv.v _) (LeftS.cons (t := 1000004) rfl (Surv.blkT (by decide)) (LeftS.cons (t := 1900000) rfl (Surv.tab (by omega)) (LeftS.cons (t := 1900001) rfl (Surv.tab (by omega)) LeftS.nil)))))))))))))), ?_⟩
    refine RunTK.last ?_
    refine RunK.nil ?_
    refine End.sub (Sub.cons (t := 1) rfl (Sub.cons (t := 2) rfl (Sub.cons (t := 4) rfl (Sub.cons (t := 6) rfl (Sub.eq (t := 1000002) _ rfl (show blk b2 53 _ = blk b2 53 ((kpart c k (i + 1)).map byteV) from congrArg _ (kpart_set hlt)) (Sub.cons (t := 1000004) rfl (Sub.cons (t := 1900000) rfl (Sub.cons (t := 1900001) rfl Sub.nil)))))))) ?_
    refine End.normal_block ?_
    refine End.normal_then (End.code ?_)
    refine A.reg (by kernel_rfl) (by kernel_rfl) (.inl rfl) ?_
    refine RunTK.last ?_
    refine RunK.step rfl rfl (ok_bin rfl rfl rfl) ?_; refine RunK.as (.int .i64 ((i + 1 : Nat) : Int)) (by rw [wrap_i64 (by omega) (by omega)]; first | rfl | (congr 1; omega)) ?_
    refine RunK.step rfl rfl (ok_move rfl) ?_
    refine RunK.nil ?_
    refine End.sub (Sub.cons (t := 1) rfl (Sub.cons (t := 2) rfl (Sub.cons (t := 4) rfl (Sub.cons (t := 6) rfl (Sub.cons (t := 1000002) rfl (Sub.cons (t := 1000004) rfl (Sub.cons (t := 1900000) rfl (Sub.cons (t := 1900001) rfl Sub.nil)))))))) ?_
    refine End.normal_then ?_
    refine End.again (i + 1) ?_ ?_ ?_
    · show _ ≤ _; omega
    · show _ - _ < _ - _; omega
    · exact (Sub.cons (t := 1) rfl (Sub.cons (t := 2) rfl (Sub.cons (t := 4) rfl (Sub.cons (t := 6) rfl (Sub.cons (t := 1000002) rfl (Sub.cons (t := 1000004) rfl (Sub.cons (t := 1900000) rfl (Sub.cons (t := 1900001) rfl Sub.nil))))))))
  · obtain rfl : i = 64 := by simp at hc7; omega
    rw [kpart_full]
    refine A.exit ?_
    refine End.exit_then ?_
    refine End.exit_then ?_
    refine End.exit_here ?_
    refine End.normal_then (End.code ?_)
    refine A.regs (by kernel_rfl) (by kernel_rfl) (.inr (by kernel_rfl)) ?_
    refine RunTK.eff 3 (by decide) rfl (.inr (by kernel_rfl)) ?_
    refine RunK.step rfl rfl (ok_call New_fn Args.nil) ?_
    refine RunK.step rfl rfl ((ok_sliceA (s := 1000002) 0 64 (by decide) Tryd.underlying53 info5 rfl rfl (.inr ⟨rfl, rfl⟩) (.inr ⟨rfl, rfl⟩) (by omega) (by omega) (by rw [List.length_map, kpad_length]) (by decide)).le (d' := byt (kpad c k)) (Le.eq (by rw [byt_vals]; congr 2 <;> rw [List.drop_zero, List.take_of_length_le (by rw [List.length_map, kpad_length]; exact Nat.le_refl _)]))) ?_
    refine RunK.step rfl rfl (ok_callM (Write_fn [] (kpad c k) (by simp [kpad_length])) (Sub.cons rfl (Sub.cons rfl Sub.nil)) tabs_v (Args.cons rfl (Le.refl _) (Args.cons rfl (Le.refl _) Args.nil))) ?_; refine RunK.as (stV (kpad c k)) (by rw [List.nil_append]) ?_
    refine RunK.nil ?_
    refine ⟨_, eff_storeA (n := 19) (s := 1000004) (size59.of (stL_length _)) rfl rfl (stL_ones _) hBb4 rfl (by first | exact (stL_length _).trans (stL_length _).symm | exact (stL_length _).symm | rfl) (LeftS.cons (t := 1) rfl (Surv.v _) (LeftS.cons (t := 2) rfl (Surv.v _) (LeftS.cons (t := 4) rfl (Surv.v _) (LeftS.cons (t := 6) rfl (Surv.v _) (LeftS.cons (t := 7) rfl (Surv.v _) (LeftS.cons (t := 16) rfl (Surv.v _) (LeftS.cons (t := 18) rfl (Surv.v _) (LeftS.cons (t := 1000002) rfl (Surv.blkT (by decide)) (LeftS.cons (t := 1900000) rfl (Surv.tab (by omega)) (LeftS.cons (t := 1900001) rfl (Surv.tab (by omega)) LeftS.nil)))))))))), ?_⟩
    refine RunTK.last ?_
    refine RunK.nil ?_
    refine A.sub (Sub.cons (t := 4) rfl (Sub.cons (t := 1000002) rfl (Sub.cons (t := 1000004) rfl (Sub.cons (t := 1900000) rfl (Sub.cons (t := 1900001) rfl Sub.nil))))) ?_
    refine A.ret ?_
    exact End.cell1 (s := 1000004) rfl Tryd.underlying59 rfl (size59.of (stL_length _)) rfl rfl (Le.refl _)
set_option maxHeartbeats 2000000 in
theorem macOf_fn (k : List UInt8) (ps : List (List UInt8)) (m : List UInt8) (hm : ps.flatten = m) (hk : k.length ≤ 1000) (hps : ps.length ≤ 1000) (hml : m.length ≤ 10000) : FnM Tryd.prog 17 tabs [byt k, lst (ps.map byt)] (.v (aggV ((hmac k m).map byteV))) := by
  subst hm
  refine FnM.of Tryd.func17 rfl (by kernel_rfl) Tryd.ntmps17 (by simp) (by decide) (fun w => [(0, old w.heap.size (byt k)), (1, old w.heap.size (lst (ps.map byt))), (1900000, tab 0 (H8.list.map u32V)), (1900001, tab 1 (K64.map u32V))]) (fun w => (StartM.old rfl (StartM.old rfl (StartM.m (by simp [tabs]) (by decide) (StartM.m (by simp [tabs]) (by decide) StartM.nil))))) fun w₀ hM => ?_
  have htab := tabs_hi hM
  refine A.regs (by kernel_rfl) (by kernel_rfl) (.inl rfl) ?_
  refine RunTK.new 0 (by decide) rfl (.inl rfl) ?_
  refine RunK.nil ?_
  refine ⟨_, _, eff_alloc (n := 31) (d := 4) (k := 1000004) zero25 (by decide), fun b4 hb4 => ?_⟩
  have hBb4 := hb4.1
  refine RunTK.last ?_
  refine RunK.nil ?_
  refine A.sub (Sub.cons (t := 0) rfl (Sub.cons (t := 1) rfl (Sub.cons (t := 4) rfl (Sub.cons (t := 1000004) rfl (Sub.cons (t := 1900000) rfl (Sub.cons (t := 1900001) rfl Sub.nil)))))) ?_
  refine A.regs (by kernel_rfl) (by kernel_rfl) (.inl rfl) ?_
  refine RunTK.new 2 (by decide) rfl (.inl rfl) ?_
  refine RunK.step rfl rfl (ok_move rfl) ?_
  refine RunK.step rfl rfl (ok_callM (macBlock_fn k hk) (Sub.cons rfl (Sub.cons rfl Sub.nil)) tabs_v (Args.cons rfl (by first | exact Le.refl _ | exact Le.old _ _ | exact le_byt _ _ | exact (Le.old _ _).trans (le_byt _ _) | exact le_lst _ _ | exact (Le.old _ _).trans (le_lst _ _) | exact (Le.old _ _).trans (Le.old _ _) | exact (Le.old _ _).trans ((Le.old _ _).trans (le_byt _ _)) | exact byt_nil_le | exact lst_nil_le | exact bytes_nil_le | exact list_nil_le) Args.nil)) ?_
  refine RunK.nil ?_
  refine ⟨_, _, eff_alloc (n := 31) (d := 5) (k := 1000005) zero53 (by decide), fun b5 hb5 => ?_⟩
  have hBb5 := hb5.1
  have hlt_b4_b5 : b4 < b5 := hb5.2 1000004 _ _ _ rfl
  refine RunTK.eff 3 (by decide) rfl (.inl rfl) ?_
  refine RunK.nil ?_
  refine ⟨_, eff_storeA (n := 31) (s := 1000005) (size53.of (by rw [List.length_map, kblock_length])) rfl rfl (all_bytes _) hBb5 rfl (by rw [List.length_map, kblock_length, List.length_replicate]) (LeftS.cons (t := 0) rfl (Surv.old (by omega)) (LeftS.cons (t := 1) rfl (Surv.old (by omega)) (LeftS.cons (t := 4) rfl (Surv.v _) (LeftS.cons (t := 5) rfl (Surv.v _) (LeftS.cons (t := 10) rfl (Surv.old (by omega)) (LeftS.cons (t := 11) rfl (Surv.v _) (LeftS.cons (t := 1000004) rfl (Surv.blkT (by decide)) (LeftS.cons (t := 1900000) rfl (Surv.tab (by omega)) (LeftS.cons (t := 1900001) rfl (Surv.tab (by omega)) LeftS.nil))))))))), ?_⟩
  refine RunTK.last ?_
  refine RunK.nil ?_
  refine A.sub (Sub.cons (t := 1) rfl (Sub.cons (t := 4) rfl (Sub.cons (t := 5) rfl (Sub.cons (t := 1000004) rfl (Sub.cons (t := 1000005) rfl (Sub.cons (t := 1900000) rfl (Sub.cons (t := 1900001) rfl Sub.nil))))))) ?_
  refine A.regs (by kernel_rfl) (by kernel_rfl) (.inl rfl) ?_
  refine RunTK.new 2 (by decide) rfl (.inl rfl) ?_
  refine RunK.step rfl rfl (ok_loadA (s := 1000005) (by decide) Tryd.underlying53 rfl (size53.of (by rw [List.length_map, kblock_length])) rfl rfl) ?_
  refine RunK.step rfl rfl (ok_callM (macKeyed_fn 54 k) (Sub.cons rfl (Sub.cons rfl Sub.nil)) tabs_v (Args.cons rfl (Le.refl _) (Args.cons rfl (Le.refl _) Args.nil))) ?_
  refine RunK.nil ?_
  refine ⟨_, _, eff_alloc (n := 31) (d := 6) (k := 1000006) zero59 (by decide), fun b6 hb6 => ?_⟩
  have hBb6 := hb6.1
  have hlt_b4_b6 : b4 < b6 := hb6.2 1000004 _ _ _ rfl
  have hlt_b5_b6 : b5 < b6 := hb6.2 1000005 _ _ _ rfl
  refine RunTK.eff 3 (by decide) rfl (.inl rfl) ?_
  refine RunK.nil ?_
  refine ⟨_, eff_storeA (n := 31) (s := 1000006) (size59.of (stL_length _)) rfl rfl (stL_ones _) hBb6 rfl (by first | exact (stL_length _).trans (stL_length _).symm | exact (stL_length _).symm | rfl) (LeftS.cons (t := 1) rfl (Surv.old (by omega)) (LeftS.cons (t := 4) rfl (Surv.v _) (LeftS.cons (t := 5) rfl (Surv.v _) (LeftS.cons (t := 6) rfl (Surv.v _) (LeftS.cons (t := 12) rfl (Surv.v _) (LeftS.cons (t := 13) rfl (Surv.v _) (LeftS.cons (t := 1000004) rfl (Surv.blkT (by decide)) (LeftS.cons (t := 1000005) rfl (Surv.blkT (by decide)) (LeftS.cons (t := 1900000) rfl (Surv.tab (by omega)) (LeftS.cons (t := 1900001) rfl (Surv.tab (by omega)) LeftS.nil)))))))))), ?_⟩
  refine RunTK.last ?_
  refine RunK.nil ?_
  refine A.sub (Sub.cons (t := 1) rfl (Sub.cons (t := 4) rfl (Sub.cons (t := 5) rfl (Sub.cons (t := 6) rfl (Sub.cons (t := 1000004) rfl (Sub.cons (t := 1000005) rfl (Sub.cons (t := 1000006) rfl (Sub.cons (t := 1900000) rfl (Sub.cons (t := 1900001) rfl Sub.nil))))))))) ?_
  refine A.seq ?_
  refine A.regs (by kernel_rfl) (by kernel_rfl) (.inl rfl) ?_
  refine RunTK.last ?_
  refine RunK.step rfl rfl (ok_move rfl) ?_
  refine RunK.step rfl rfl (ok_len Tryd.underlying52 rfl (by first | exact Le.refl _ | exact Le.old _ _ | exact le_byt _ _ | exact (Le.old _ _).trans (le_byt _ _) | exact le_lst _ _ | exact (Le.old _ _).trans (le_lst _ _) | exact (Le.old _ _).trans (Le.old _ _) | exact (Le.old _ _).trans ((Le.old _ _).trans (le_byt _ _)) | exact byt_nil_le | exact lst_nil_le | exact bytes_nil_le | exact list_nil_le)) ?_; refine RunK.as (.int .i64 (ps.length : Int)) (by simp) ?_
  refine RunK.step rfl rfl (ok_move rfl) ?_
  refine RunK.nil ?_
  refine A.sub (Sub.cons (t := 4) rfl (Sub.cons (t := 5) rfl (Sub.cons (t := 6) rfl (Sub.cons (t := 14) rfl (Sub.cons (t := 15) rfl (Sub.cons (t := 16) rfl (Sub.cons (t := 1000004) rfl (Sub.cons (t := 1000005) rfl (Sub.cons (t := 1000006) rfl (Sub.cons (t := 1900000) rfl (Sub.cons (t := 1900001) rfl Sub.nil))))))))))) ?_
  refine A.block ?_
  refine A.loop (ι := Nat) (fun i => i ≤ ps.length) (fun i => [(14, old w₀.heap.size (lst (ps.map byt))), (4, .v (.pointer (some ⟨b4, 0, none⟩))), (5, .v (.pointer (some ⟨b5, 0, none⟩))), (6, .v (.pointer (some ⟨b6, 0, none⟩))), (15, .v (.int .i64 (ps.length : Int))), (16, .v (.int .i64 ((i : Nat) : Int))), (1000004, blk b4 25 (List.replicate 32 (.int .u8 0))), (1000005, blk b5 53 ((kblock k).map byteV)), (1000006, blk b6 59 (stL ((kpad 54 k) ++ (ps.take i).flatten))), (1900000, tab 0 (H8.list.map u32V)), (1900001, tab 1 (K64.map u32V))]) (fun i => ps.length - i) 0 ?_ ?_ ?_
  · exact Nat.zero_le _
  · exact (Sub.cons (t := 14) rfl (Sub.cons (t := 4) rfl (Sub.cons (t := 5) rfl (Sub.cons (t := 6) rfl (Sub.cons (t := 15) rfl (Sub.cons (t := 16) rfl (Sub.cons (t := 1000004) rfl (Sub.cons (t := 1000005) rfl (Sub.eq (t := 1000006) _ rfl (by simp) (Sub.cons (t := 1900000) rfl (Sub.cons (t := 1900001) rfl Sub.nil)))))))))))
  intro i hi
  refine A.regs (by kernel_rfl) (by kernel_rfl) (.inl rfl) ?_
  refine RunTK.last ?_
  refine RunK.step rfl rfl (ok_bin rfl rfl rfl) ?_
  refine RunK.nil ?_
  refine A.sub (Sub.cons (t := 4) rfl (Sub.cons (t := 5) rfl (Sub.cons (t := 6) rfl (Sub.cons (t := 14) rfl (Sub.cons (t := 15) rfl (Sub.cons (t := 16) rfl (Sub.cons (t := 17) rfl (Sub.cons (t := 1000004) rfl (Sub.cons (t := 1000005) rfl (Sub.cons (t := 1000006) rfl (Sub.cons (t := 1900000) rfl (Sub.cons (t := 1900001) rfl Sub.nil)))))))))))) ?_
  refine A.seq ?_
  refine A.cond rfl (fun hc17 => ?_) (fun hc17 => ?_)
  · have hlt : i < ps.length := by simp at hc17; omega
    have hget : ps[i]? = some ps[i] := List.getElem?_eq_getElem hlt
    have hT := flatten_take_le ps (i + 1)
    rw [flatten_take_succ hget, List.length_append] at hT
    refine A.skip ?_
    refine End.normal_then (End.code ?_)
    refine A.seq ?_
    refine A.block ?_
    refine A.regs (by kernel_rfl) (by kernel_rfl) (.inl rfl) ?_
    refine RunTK.last ?_
    refine RunK.step rfl rfl (ok_index (d := byt ps[i]) Tryd.underlying52 info22 rfl (by first | exact Le.refl _ | exact Le.old _ _ | exact le_byt _ _ | exact (Le.old _ _).trans (le_byt _ _) | exact le_lst _ _ | exact (Le.old _ _).trans (le_lst _ _) | exact (Le.old _ _).trans (Le.old _ _) | exact (Le.old _ _).trans ((Le.old _ _).trans (le_byt _ _)) | exact byt_nil_le | exact lst_nil_le | exact bytes_nil_le | exact list_nil_le) rfl (by omega) (by simp [hlt])) ?_
    refine RunK.step rfl rfl (ok_load Tryd.underlying22 rfl rfl) ?_
    refine RunK.step rfl rfl (ok_assign rfl) ?_
    refine RunK.nil ?_
    refine A.sub (Sub.cons (t := 4) rfl (Sub.cons (t := 5) rfl (Sub.cons (t := 6) rfl (Sub.cons (t := 8) rfl (Sub.cons (t := 14) rfl (Sub.cons (t := 15) rfl (Sub.cons (t := 16) rfl (Sub.cons (t := 1000004) rfl (Sub.cons (t := 1000005) rfl (Sub.cons (t := 1000006) rfl (Sub.cons (t := 1900000) rfl (Sub.cons (t := 1900001) rfl Sub.nil)))))))))))) ?_
    refine A.reg (by kernel_rfl) (by kernel_rfl) (.inl rfl) ?_
    refine RunTK.eff 3 (by decide) rfl (.inl rfl) ?_
    refine RunK.step rfl rfl (ok_loadA (s := 1000006) (by decide) Tryd.underlying59 rfl (size59.of (stL_length _)) rfl rfl) ?_
    refine RunK.step rfl rfl (ok_move rfl) ?_
    refine RunK.step rfl rfl (ok_callM (Write_fn ((kpad 54 k) ++ (ps.take i).flatten) ps[i] (by simp only [List.length_append, kpad_length]; omega)) (Sub.cons rfl (Sub.cons rfl Sub.nil)) tabs_v (Args.cons rfl (Le.refl _) (Args.cons rfl (Le.refl _) Args.nil))) ?_; refine RunK.as (stV ((kpad 54 k) ++ (ps.take (i + 1)).flatten)) (by rw [flatten_take_succ hget, List.append_assoc]) ?_
    refine RunK.nil ?_
    refine ⟨_, eff_storeA (n := 31) (s := 1000006) (size59.of (stL_length _)) rfl rfl (stL_ones _) hBb6 rfl (by first | exact (stL_length _).trans (stL_length _).symm | exact (stL_length _).symm | rfl) (LeftS.cons (t := 4) rfl (Surv.v _) (LeftS.cons (t := 5) rfl (Surv.v _) (LeftS.cons (t := 6) rfl (Surv.v _) (LeftS.cons (t := 14) rfl (Surv.old (by omega)) (LeftS.cons (t := 15) rfl (Surv.v _) (LeftS.cons (t := 16) rfl (Surv.v _) (LeftS.cons (t := 20) rfl (Surv.v _) (LeftS.cons (t := 22) rfl (Surv.v _) (LeftS.cons (t := 1000004) rfl (Surv.blkT (by decide)) (LeftS.cons (t := 1000005) rfl (Surv.blkT (by decide)) (LeftS.cons (t := 1900000) rfl (Surv.tab (by omega)) (LeftS.cons (t := 1900001) rfl (Surv.tab (by omega)) LeftS.nil)))))))))))), ?_⟩
    refine RunTK.last ?_
    refine RunK.nil ?_
    refine End.sub (Sub.cons (t := 4) rfl (Sub.cons (t := 5) rfl (Sub.cons (t := 6) rfl (Sub.cons (t := 14) rfl (Sub.cons (t := 15) rfl (Sub.cons (t := 16) rfl (Sub.cons (t := 1000004) rfl (Sub.cons (t := 1000005) rfl (Sub.cons (t := 1000006) rfl (Sub.cons (t := 1900000) rfl (Sub.cons (t := 1900001) rfl Sub.nil))))))))))) ?_
    refine End.normal_block ?_
    refine End.normal_then (End.code ?_)
    refine A.reg (by kernel_rfl) (by kernel_rfl) (.inl rfl) ?_
    refine RunTK.last ?_
    refine RunK.step rfl rfl (ok_bin rfl rfl rfl) ?_; refine RunK.as (.int .i64 ((i + 1 : Nat) : Int)) (by rw [wrap_i64 (by omega) (by omega)]; first | rfl | (congr 1; omega)) ?_
    refine RunK.step rfl rfl (ok_move rfl) ?_
    refine RunK.nil ?_
    refine End.sub (Sub.cons (t := 4) rfl (Sub.cons (t := 5) rfl (Sub.cons (t := 6) rfl (Sub.cons (t := 14) rfl (Sub.cons (t := 15) rfl (Sub.cons (t := 16) rfl (Sub.cons (t := 1000004) rfl (Sub.cons (t := 1000005) rfl (Sub.cons (t := 1000006) rfl (Sub.cons (t := 1900000) rfl (Sub.cons (t := 1900001) rfl Sub.nil))))))))))) ?_
    refine End.normal_then ?_
    refine End.again (i + 1) ?_ ?_ ?_
    · show _ ≤ _; omega
    · show _ - _ < _ - _; omega
    · exact (Sub.cons (t := 14) rfl (Sub.cons (t := 4) rfl (Sub.cons (t := 5) rfl (Sub.cons (t := 6) rfl (Sub.cons (t := 15) rfl (Sub.cons (t := 16) rfl (Sub.cons (t := 1000004) rfl (Sub.cons (t := 1000005) rfl (Sub.cons (t := 1000006) rfl (Sub.cons (t := 1900000) rfl (Sub.cons (t := 1900001) rfl Sub.nil)))))))))))
  · obtain rfl : i = ps.length := by simp at hc17; omega
    rw [List.take_length]
    refine A.exit ?_
    refine End.exit_then ?_
    refine End.exit_then ?_
    refine End.exit_here ?_
    refine End.normal_then (End.code ?_)
    refine A.regs (by kernel_rfl) (by kernel_rfl) (.inl rfl) ?_
    refine RunTK.new 2 (by decide) rfl (.inl rfl) ?_
    refine RunK.step rfl rfl (ok_loadA (s := 1000006) (by decide) Tryd.underlying59 rfl (size59.of (stL_length _)) rfl rfl) ?_
    refine RunK.step rfl rfl (ok_callM (Sum_fn ((kpad 54 k) ++ ps.flatten) (by simp only [List.length_append, kpad_length]; omega)) (Sub.cons rfl (Sub.cons rfl Sub.nil)) tabs_v (Args.cons rfl (Le.refl _) Args.nil)) ?_
    refine RunK.nil ?_
    refine ⟨_, _, eff_alloc (n := 31) (d := 9) (k := 1000009) zero25 (by decide), fun b9 hb9 => ?_⟩
    have hBb9 := hb9.1
    have hlt_b4_b9 : b4 < b9 := hb9.2 1000004 _ _ _ rfl
    have hlt_b5_b9 : b5 < b9 := hb9.2 1000005 _ _ _ rfl
    have hlt_b6_b9 : b6 < b9 := hb9.2 1000006 _ _ _ rfl
    refine RunTK.eff 3 (by decide) rfl (.inl rfl) ?_
    refine RunK.nil ?_
    refine ⟨_, eff_storeA (n := 31) (s := 1000009) (size25.of (by rw [List.length_map, sha_length])) rfl rfl (all_bytes _) hBb9 rfl (by rw [List.length_map, sha_length, List.length_replicate]) (LeftS.cons (t := 4) rfl (Surv.v _) (LeftS.cons (t := 5) rfl (Surv.v _) (LeftS.cons (t := 6) rfl (Surv.v _) (LeftS.cons (t := 9) rfl (Surv.v _) (LeftS.cons (t := 14) rfl (Surv.old (by omega)) (LeftS.cons (t := 15) rfl (Surv.v _) (LeftS.cons (t := 16) rfl (Surv.v _) (LeftS.cons (t := 17) rfl (Surv.v _) (LeftS.cons (t := 24) rfl (Surv.v _) (LeftS.cons (t := 25) rfl (Surv.v _) (LeftS.cons (t := 1000004) rfl (Surv.blk (by omega)) (LeftS.cons (t := 1000005) rfl (Surv.blkT (by decide)) (LeftS.cons (t := 1000006) rfl (Surv.blkT (by decide)) (LeftS.cons (t := 1900000) rfl (Surv.tab (by omega)) (LeftS.cons (t := 1900001) rfl (Surv.tab (by omega)) LeftS.nil))))))))))))))), ?_⟩
    refine RunTK.last ?_
    refine RunK.nil ?_
    refine A.sub (Sub.cons (t := 4) rfl (Sub.cons (t := 5) rfl (Sub.cons (t := 9) rfl (Sub.cons (t := 1000004) rfl (Sub.cons (t := 1000005) rfl (Sub.cons (t := 1000006) rfl (Sub.cons (t := 1000009) rfl (Sub.cons (t := 1900000) rfl (Sub.cons (t := 1900001) rfl Sub.nil))))))))) ?_
    refine A.regs (by kernel_rfl) (by kernel_rfl) (.inr (by kernel_rfl)) ?_
    refine RunTK.eff 5 (by decide) rfl (.inr (by kernel_rfl)) ?_
    refine RunK.step rfl rfl (ok_loadA (s := 1000005) (by decide) Tryd.underlying53 rfl (size53.of (by rw [List.length_map, kblock_length])) rfl rfl) ?_
    refine RunK.step rfl rfl (ok_callM (macKeyed_fn 92 k) (Sub.cons rfl (Sub.cons rfl Sub.nil)) tabs_v (Args.cons rfl (Le.refl _) (Args.cons rfl (Le.refl _) Args.nil))) ?_
    refine RunK.step rfl rfl ((ok_sliceA (s := 1000009) 0 32 (by decide) Tryd.underlying25 info5 rfl rfl (.inr ⟨rfl, rfl⟩) (.inr ⟨rfl, rfl⟩) (by omega) (by omega) (by rw [List.length_map, sha_length]) (by decide)).le (d' := byt (sha ((kpad 54 k) ++ ps.flatten))) (Le.eq (by rw [byt_vals]; congr 2 <;> rw [List.drop_zero, List.take_of_length_le (by rw [List.length_map, sha_length]; exact Nat.le_refl _)]))) ?_
    refine RunK.step rfl rfl (ok_callM (Write_fn (kpad 92 k) (sha ((kpad 54 k) ++ ps.flatten)) (by simp [kpad_length, sha_length])) (Sub.cons rfl (Sub.cons rfl Sub.nil)) tabs_v (Args.cons rfl (Le.refl _) (Args.cons rfl (Le.refl _) Args.nil))) ?_
    refine RunK.step rfl rfl (ok_callM (Sum_fn (kpad 92 k ++ sha ((kpad 54 k) ++ ps.flatten)) (by simp [kpad_length, sha_length])) (Sub.cons rfl (Sub.cons rfl Sub.nil)) tabs_v (Args.cons rfl (Le.refl _) Args.nil)) ?_; refine RunK.as (aggV ((hmac k ps.flatten).map byteV)) (rfl) ?_
    refine RunK.nil ?_
    refine ⟨_, eff_storeA (n := 31) (s := 1000004) (size25.of (by rw [List.length_map, hmac_length])) rfl rfl (all_bytes _) hBb4 rfl (by rw [List.length_map, hmac_length, List.length_replicate]) (LeftS.cons (t := 4) rfl (Surv.v _) (LeftS.cons (t := 5) rfl (Surv.v _) (LeftS.cons (t := 9) rfl (Surv.v _) (LeftS.cons (t := 26) rfl (Surv.v _) (LeftS.cons (t := 27) rfl (Surv.v _) (LeftS.cons (t := 29) rfl (Surv.v _) (LeftS.cons (t := 30) rfl (Surv.v _) (LeftS.cons (t := 1000005) rfl (Surv.blkT (by decide)) (LeftS.cons (t := 1000006) rfl (Surv.blkT (by decide)) (LeftS.cons (t := 1000009) rfl (Surv.blk (by omega)) (LeftS.cons (t := 1900000) rfl (Surv.tab (by omega)) (LeftS.cons (t := 1900001) rfl (Surv.tab (by omega)) LeftS.nil)))))))))))), ?_⟩
    refine RunTK.last ?_
    refine RunK.nil ?_
    refine A.sub (Sub.cons (t := 4) rfl (Sub.cons (t := 1000004) rfl (Sub.cons (t := 1000005) rfl (Sub.cons (t := 1000006) rfl (Sub.cons (t := 1000009) rfl (Sub.cons (t := 1900000) rfl (Sub.cons (t := 1900001) rfl Sub.nil))))))) ?_
    refine A.ret ?_
    exact End.cell1 (s := 1000004) rfl Tryd.underlying25 rfl (size25.of (by rw [List.length_map, hmac_length])) rfl rfl (Le.refl _)
-- caisson/macs.Verify: not at this seat
end Go.Proofs.YtidlikaiileggaaDoor
