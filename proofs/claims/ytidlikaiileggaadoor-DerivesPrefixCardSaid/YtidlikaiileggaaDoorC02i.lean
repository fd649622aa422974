/-
  Package digests by facts, part three: Write.
-/
import Derived.Test.YtidlikaiileggaaDoorC02h
import Derived.Test.YtidlikaiileggaaDoorC02f
namespace Go.Proofs.YtidlikaiileggaaDoor
open Go Go.RowKit
set_option linter.unusedVariables false
theorem block_len (L r : List UInt8) (h : (L.length + min r.length (64 - L.length % 64)) % 64 = 0) (h0 : 0 < r.length) : L.length % 64 + (r.take (64 - L.length % 64)).length = 64 := by
  have hk : L.length % 64 < 64 := Nat.mod_lt _ (by decide)
  rw [List.length_take]; omega
theorem part_len (L r : List UInt8) (h : ¬ (L.length + min r.length (64 - L.length % 64)) % 64 = 0) : (L.length + (r.take (64 - L.length % 64)).length) / 64 = L.length / 64 := by
  have hk : L.length % 64 < 64 := Nat.mod_lt _ (by decide)
  rw [List.length_take]; omega

set_option maxHeartbeats 1000000 in
theorem Write_fn (l b : List UInt8) (hl : l.length + b.length ≤ 1000000) : FnM Tryd.prog 24 tabs [.v (stV l), byt b] (.v (stV (l ++ b))) := by
  refine FnM.of Tryd.func24 rfl (by kernel_rfl) Tryd.ntmps24 (by simp) (by decide) (fun w => [(0, .v (stV l)), (1, old w.heap.size (byt b)), (1900000, tab 0 (H8.list.map u32V)), (1900001, tab 1 (K64.map u32V))]) (fun w => (StartM.v rfl (StartM.old rfl (StartM.m (by simp [tabs]) (by decide) (StartM.m (by simp [tabs]) (by decide) StartM.nil))))) fun w₀ hM => ?_
  have htab := tabs_hi hM
  refine A.regs (by kernel_rfl) (by kernel_rfl) (.inl rfl) ?_
  refine RunTK.new 0 (by decide) rfl (.inl rfl) ?_
  refine RunK.nil ?_
  refine ⟨_, _, eff_box (n := 36) (d := 2) (k := 1000002) rfl (by decide), fun b2 hb2 => ?_⟩
  have hBb2 := hb2.1
  refine RunTK.new 1 (by decide) rfl (.inl rfl) ?_
  refine RunK.nil ?_
  refine ⟨_, _, eff_alloc (n := 36) (d := 4) (k := 1000004) zero59 (by decide), fun b4 hb4 => ?_⟩
  have hBb4 := hb4.1
  have hlt_b2_b4 : b2 < b4 := hb4.2 1000002 _ _ _ rfl
  refine RunTK.last ?_
  refine RunK.nil ?_
  refine A.sub (Sub.cons (t := 1) rfl (Sub.cons (t := 2) rfl (Sub.cons (t := 4) rfl (Sub.cons (t := 1000002) rfl (Sub.cons (t := 1000004) rfl (Sub.cons (t := 1900000) rfl (Sub.cons (t := 1900001) rfl Sub.nil))))))) ?_
  refine A.seq ?_
  refine A.block ?_
  refine A.loop (ι := Nat) (fun c => c ≤ b.length) (fun c => [(1, old w₀.heap.size (byt (b.drop c))), (2, .v (.pointer (some ⟨b2, 0, none⟩))), (4, .v (.pointer (some ⟨b4, 0, none⟩))), (1000002, blk b2 59 (stL (l ++ b.take c))), (1000004, blk b4 59 (List.replicate 8 (.int .u32 0) ++ List.replicate 64 (.int .u8 0) ++ [.int .u64 0])), (1900000, tab 0 (H8.list.map u32V)), (1900001, tab 1 (K64.map u32V))]) (fun c => b.length - c) 0 ?_ ?_ ?_
  · exact Nat.zero_le _
  · exact (Sub.eq (t := 1) _ rfl (by rw [List.drop_zero]) (Sub.cons (t := 2) rfl (Sub.cons (t := 4) rfl (Sub.eq (t := 1000002) _ rfl (by rw [List.take_zero, List.append_nil]) (Sub.cons (t := 1000004) rfl (Sub.cons (t := 1900000) rfl (Sub.cons (t := 1900001) rfl Sub.nil)))))))
  intro c hc
  obtain ⟨L, hL⟩ : ∃ L, l ++ b.take c = L := ⟨_, rfl⟩
  obtain ⟨r, hr⟩ : ∃ r, b.drop c = r := ⟨_, rfl⟩
  have hLl : L.length = l.length + c := by rw [← hL]; simp; omega
  have hrl' : r.length = b.length - c := by rw [← hr]; simp
  rw [hL, hr]
  refine A.seq ?_
  refine A.regs (by kernel_rfl) (by kernel_rfl) (.inl rfl) ?_
  refine RunTK.last ?_
  refine RunK.step rfl rfl (ok_move rfl) ?_
  refine RunK.step rfl rfl (ok_lenB Tryd.underlying22 rfl (Le.old _ _)) ?_
  refine RunK.step rfl rfl (ok_bin rfl rfl rfl) ?_
  refine RunK.nil ?_
  refine A.sub (Sub.cons (t := 1) rfl (Sub.cons (t := 2) rfl (Sub.cons (t := 4) rfl (Sub.cons (t := 9) rfl (Sub.cons (t := 1000002) rfl (Sub.cons (t := 1000004) rfl (Sub.cons (t := 1900000) rfl (Sub.cons (t := 1900001) rfl Sub.nil)))))))) ?_
  refine A.cond rfl (fun hc9 => ?_) (fun hc9 => ?_)
  · have hrl : 0 < r.length := by simp at hc9; omega
    refine A.skip ?_
    refine End.normal_then (End.code ?_)
    refine A.block ?_
    refine A.regs (by kernel_rfl) (by kernel_rfl) (.inl rfl) ?_
    refine RunTK.new 2 (by decide) rfl (.inl rfl) ?_
    refine RunK.step rfl rfl (ok_loadA (s := 1000002) (by decide) Tryd.underlying59 rfl (size59.of (stL_length _)) rfl rfl) ?_
    refine RunK.step rfl rfl (ok_callM (compressed_fn L (by omega)) (Sub.cons rfl (Sub.cons rfl Sub.nil)) tabs_v (Args.cons rfl (by first | exact Le.refl _ | exact Le.old _ _ | exact le_byt _ _ | exact (Le.old _ _).trans (le_byt _ _) | exact le_lst _ _ | exact (Le.old _ _).trans (le_lst _ _) | exact (Le.old _ _).trans (Le.old _ _) | exact (Le.old _ _).trans ((Le.old _ _).trans (le_byt _ _)) | exact byt_nil_le | exact lst_nil_le | exact bytes_nil_le | exact list_nil_le) Args.nil)) ?_
    refine RunK.nil ?_
    refine ⟨_, _, eff_alloc (n := 36) (d := 5) (k := 1000005) zero56 (by decide), fun b5 hb5 => ?_⟩
    have hBb5 := hb5.1
    have hlt_b2_b5 : b2 < b5 := hb5.2 1000002 _ _ _ rfl
    have hlt_b4_b5 : b4 < b5 := hb5.2 1000004 _ _ _ rfl
    refine RunTK.eff 3 (by decide) rfl (.inl rfl) ?_
    refine RunK.nil ?_
    refine ⟨_, eff_storeA (n := 36) (s := 1000005) (size56.of (R8.size _)) rfl rfl (all_u32 _) hBb5 rfl ((R8.size _).symm) (LeftS.cons (t := 1) rfl (Surv.old (by omega)) (LeftS.cons (t := 2) rfl (Surv.v _) (LeftS.cons (t := 4) rfl (Surv.v _) (LeftS.cons (t := 5) rfl (Surv.v _) (LeftS.cons (t := 9) rfl (Surv.v _) (LeftS.cons (t := 10) rfl (Surv.v _) (LeftS.cons (t := 11) rfl (Surv.v _) (LeftS.cons (t := 1000002) rfl (Surv.blkT (by decide)) (LeftS.cons (t := 1000004) rfl (Surv.blkT (by decide)) (LeftS.cons (t := 1900000) rfl (Surv.tab (by omega)) (LeftS.cons (t := 1900001) rfl (Surv.tab (by omega)) LeftS.nil))))))))))), ?_⟩
    refine RunTK.last ?_
    refine RunK.nil ?_
    refine A.sub (Sub.cons (t := 1) rfl (Sub.cons (t := 2) rfl (Sub.cons (t := 4) rfl (Sub.cons (t := 5) rfl (Sub.cons (t := 1000002) rfl (Sub.cons (t := 1000004) rfl (Sub.cons (t := 1000005) rfl (Sub.cons (t := 1900000) rfl (Sub.cons (t := 1900001) rfl Sub.nil))))))))) ?_
    refine A.regs (by kernel_rfl) (by kernel_rfl) (.inl rfl) ?_
    refine RunTK.eff 5 (by decide) rfl (.inl rfl) ?_
    refine RunK.step rfl rfl (ok_field field59_1 (by decide) rfl) ?_
    refine RunK.step rfl rfl (ok_loadA (s := 1000002) (by decide) Tryd.underlying59 rfl (size59.of (stL_length _)) rfl rfl) ?_
    refine RunK.step rfl rfl (ok_call (filled_fn (fullR L) (restL L) L.length (restL_length L) (by omega)) (Args.cons rfl (Le.refl _) Args.nil)) ?_
    refine RunK.step rfl rfl (ok_sliceX (l := L.length % 64) (h := 64) (m := 64) Tryd.underlying53 info5 rfl (.inl ⟨_, _, rfl, rfl⟩) (.inr ⟨rfl, rfl, rfl⟩) (.inr ⟨rfl, rfl⟩) (by omega) (by omega) (by omega) (.inl (by omega))) ?_
    refine RunK.step rfl rfl (ok_move rfl) ?_
    refine RunK.nil ?_
    refine ⟨_, eff_copyS (n := 36) (s := 1000002) (l := r) Tryd.underlying22 info5 rfl rfl (Le.old _ _) hBb2 rfl (by rw [stL_length]; omega) (by decide) (LeftS.cons (t := 1) rfl (Surv.old (by omega)) (LeftS.cons (t := 2) rfl (Surv.v _) (LeftS.cons (t := 4) rfl (Surv.v _) (LeftS.cons (t := 5) rfl (Surv.v _) (LeftS.cons (t := 12) rfl (Surv.v _) (LeftS.cons (t := 13) rfl (Surv.v _) (LeftS.cons (t := 14) rfl (Surv.v _) (LeftS.cons (t := 15) rfl (Surv.v _) (LeftS.cons (t := 16) rfl (Surv.old (by omega)) (LeftS.cons (t := 1000004) rfl (Surv.blk (by omega)) (LeftS.cons (t := 1000005) rfl (Surv.blkT (by decide)) (LeftS.cons (t := 1900000) rfl (Surv.tab (by omega)) (LeftS.cons (t := 1900001) rfl (Surv.tab (by omega)) LeftS.nil))))))))))))), ?_⟩
    refine RunTK.last ?_
    refine RunK.step rfl rfl (ok_assign rfl) ?_
    refine RunK.nil ?_
    refine A.sub (Sub.cons (t := 1) rfl (Sub.cons (t := 2) rfl (Sub.cons (t := 4) rfl (Sub.cons (t := 5) rfl (Sub.cons (t := 6) rfl (Sub.eq (t := 1000002) _ rfl (show blk b2 59 _ = blk b2 59 (stM (fullR L) (restL (L ++ r.take (64 - L.length % 64))) L.length) from congrArg _ (st_copy L r)) (Sub.cons (t := 1000004) rfl (Sub.cons (t := 1000005) rfl (Sub.cons (t := 1900000) rfl (Sub.cons (t := 1900001) rfl Sub.nil)))))))))) ?_
    refine A.regs (by kernel_rfl) (by kernel_rfl) (.inl rfl) ?_
    refine RunTK.last ?_
    refine RunK.step rfl rfl (ok_move rfl) ?_
    refine RunK.step rfl rfl (ok_move rfl) ?_
    refine RunK.step rfl rfl ((ok_sliceO (l := min r.length (64 - L.length % 64)) (h := r.length) (f := byt r) (ds := r.map byteD) Tryd.underlying22 info5 rfl (Le.refl _) (.inl ⟨_, _, rfl, rfl⟩) (.inr ⟨rfl, by simp⟩) (by omega) (by simp)).le (d' := old w₀.heap.size (byt (r.drop (min r.length (64 - L.length % 64))))) (Le.eq (by rw [byt, List.map_drop, List.take_of_length_le (by simp)]))) ?_
    refine RunK.step rfl rfl (ok_assign rfl) ?_
    refine RunK.nil ?_
    refine A.sub (Sub.cons (t := 1) rfl (Sub.cons (t := 2) rfl (Sub.cons (t := 4) rfl (Sub.cons (t := 5) rfl (Sub.cons (t := 6) rfl (Sub.cons (t := 1000002) rfl (Sub.cons (t := 1000004) rfl (Sub.cons (t := 1000005) rfl (Sub.cons (t := 1900000) rfl (Sub.cons (t := 1900001) rfl Sub.nil)))))))))) ?_
    refine A.regs (by kernel_rfl) (by kernel_rfl) (.inl rfl) ?_
    refine RunTK.eff 6 (by decide) rfl (.inl rfl) ?_
    refine RunK.step rfl rfl (ok_field field59_2 (by decide) rfl) ?_
    refine RunK.step rfl rfl (ok_loadV (s := 1000002) (by decide) Tryd.underlying57 rfl rfl rfl (stM_size (restL_length _))) ?_
    refine RunK.step rfl rfl (ok_move rfl) ?_
    refine RunK.step rfl rfl (ok_conv Tryd.underlying3 Tryd.underlying57 rfl) ?_; refine RunK.as (.int .u64 ((min r.length (64 - L.length % 64) : Nat) : Int)) (by rw [wrapN_u64 (by omega)]) ?_
    refine RunK.step rfl rfl (ok_bin rfl rfl rfl) ?_; refine RunK.as (.int .u64 ((L.length + min r.length (64 - L.length % 64) : Nat) : Int)) (by rw [wrap_u64 (by omega) (by omega)]; congr 1) ?_
    refine RunK.step rfl rfl (ok_field field59_2 (by decide) rfl) ?_
    refine RunK.nil ?_
    refine ⟨_, eff_storeS (n := 36) (s := 1000002) info57 rfl rfl rfl hBb2 rfl (by rw [stM_length (restL_length _)]; decide) (LeftS.cons (t := 1) rfl (Surv.old (by omega)) (LeftS.cons (t := 2) rfl (Surv.v _) (LeftS.cons (t := 4) rfl (Surv.v _) (LeftS.cons (t := 5) rfl (Surv.v _) (LeftS.cons (t := 6) rfl (Surv.v _) (LeftS.cons (t := 21) rfl (Surv.v _) (LeftS.cons (t := 22) rfl (Surv.v _) (LeftS.cons (t := 23) rfl (Surv.v _) (LeftS.cons (t := 24) rfl (Surv.v _) (LeftS.cons (t := 25) rfl (Surv.v _) (LeftS.cons (t := 26) rfl (Surv.v _) (LeftS.cons (t := 1000004) rfl (Surv.blk (by omega)) (LeftS.cons (t := 1000005) rfl (Surv.blkT (by decide)) (LeftS.cons (t := 1900000) rfl (Surv.tab (by omega)) (LeftS.cons (t := 1900001) rfl (Surv.tab (by omega)) LeftS.nil))))))))))))))), ?_⟩
    refine RunTK.last ?_
    refine RunK.nil ?_
    refine A.sub (Sub.cons (t := 1) rfl (Sub.cons (t := 2) rfl (Sub.cons (t := 4) rfl (Sub.cons (t := 5) rfl (Sub.eq (t := 1000002) _ rfl (show blk b2 59 _ = blk b2 59 (stM (fullR L) (restL (L ++ r.take (64 - L.length % 64))) (L.length + min r.length (64 - L.length % 64))) from congrArg _ (stM_setSize (restL_length _))) (Sub.cons (t := 1000004) rfl (Sub.cons (t := 1000005) rfl (Sub.cons (t := 1900000) rfl (Sub.cons (t := 1900001) rfl Sub.nil))))))))) ?_
    refine A.regs (by kernel_rfl) (by kernel_rfl) (.inl rfl) ?_
    refine RunTK.last ?_
    refine RunK.step rfl rfl (ok_loadA (s := 1000002) (by decide) Tryd.underlying59 rfl (size59.of (stM_length (restL_length _))) rfl rfl) ?_
    refine RunK.step rfl rfl (ok_call (filled_fn (fullR L) (restL (L ++ r.take (64 - L.length % 64))) (L.length + min r.length (64 - L.length % 64)) (restL_length _) (by omega)) (Args.cons rfl (Le.refl _) Args.nil)) ?_
    refine RunK.step rfl rfl (ok_bin rfl rfl rfl) ?_
    refine RunK.nil ?_
    refine A.sub (Sub.cons (t := 1) rfl (Sub.cons (t := 2) rfl (Sub.cons (t := 4) rfl (Sub.cons (t := 5) rfl (Sub.cons (t := 29) rfl (Sub.cons (t := 1000002) rfl (Sub.cons (t := 1000004) rfl (Sub.cons (t := 1000005) rfl (Sub.cons (t := 1900000) rfl (Sub.cons (t := 1900001) rfl Sub.nil)))))))))) ?_
    refine A.cond rfl (fun hc29 => ?_) (fun hc29 => ?_)
    · refine A.reg (by kernel_rfl) (by kernel_rfl) (.inl rfl) ?_
      refine RunTK.eff 5 (by decide) rfl (.inl rfl) ?_
      refine RunK.step rfl rfl (ok_loadA (s := 1000005) (by decide) Tryd.underlying56 rfl (size56.of (R8.size _)) rfl rfl) ?_
      refine RunK.step rfl rfl (ok_field field59_1 (by decide) rfl) ?_
      refine RunK.step rfl rfl (ok_loadP (s := 1000002) (by decide) Tryd.underlying53 rfl size53 rfl rfl (by rw [stM_length (restL_length _)]; decide) (stM_rest (restL_length _))) ?_
      refine RunK.step rfl rfl (ok_callM (Compress_fn (chain H8 L (L.length / 64)) (restL (L ++ r.take (64 - L.length % 64))) (restL_length _)) (Sub.cons rfl (Sub.cons rfl Sub.nil)) tabs_v (Args.cons rfl (by first | exact Le.refl _ | exact Le.old _ _ | exact le_byt _ _ | exact (Le.old _ _).trans (le_byt _ _) | exact le_lst _ _ | exact (Le.old _ _).trans (le_lst _ _) | exact (Le.old _ _).trans (Le.old _ _) | exact (Le.old _ _).trans ((Le.old _ _).trans (le_byt _ _)) | exact byt_nil_le | exact lst_nil_le | exact bytes_nil_le | exact list_nil_le) (Args.cons rfl (by first | exact Le.refl _ | exact Le.old _ _ | exact le_byt _ _ | exact (Le.old _ _).trans (le_byt _ _) | exact le_lst _ _ | exact (Le.old _ _).trans (le_lst _ _) | exact (Le.old _ _).trans (Le.old _ _) | exact (Le.old _ _).trans ((Le.old _ _).trans (le_byt _ _)) | exact byt_nil_le | exact lst_nil_le | exact bytes_nil_le | exact list_nil_le) Args.nil))) ?_
      refine RunK.step rfl rfl (ok_field field59_0 (by decide) rfl) ?_
      refine RunK.nil ?_
      refine ⟨_, eff_storeP (n := 36) (s := 1000002) (size56.of (R8.size _)) rfl rfl (all_u32 _) hBb2 rfl (by rw [stM_length (restL_length _), R8.size]; decide) (LeftS.cons (t := 1) rfl (Surv.old (by omega)) (LeftS.cons (t := 2) rfl (Surv.v _) (LeftS.cons (t := 4) rfl (Surv.v _) (LeftS.cons (t := 5) rfl (Surv.v _) (LeftS.cons (t := 29) rfl (Surv.v _) (LeftS.cons (t := 30) rfl (Surv.v _) (LeftS.cons (t := 31) rfl (Surv.v _) (LeftS.cons (t := 32) rfl (Surv.v _) (LeftS.cons (t := 33) rfl (Surv.v _) (LeftS.cons (t := 34) rfl (Surv.v _) (LeftS.cons (t := 1000004) rfl (Surv.blk (by omega)) (LeftS.cons (t := 1000005) rfl (Surv.blkT (by decide)) (LeftS.cons (t := 1900000) rfl (Surv.tab (by omega)) (LeftS.cons (t := 1900001) rfl (Surv.tab (by omega)) LeftS.nil)))))))))))))), ?_⟩
      refine RunTK.last ?_
      refine RunK.nil ?_
      refine End.sub (Sub.cons (t := 1) rfl (Sub.cons (t := 2) rfl (Sub.cons (t := 4) rfl (Sub.eq (t := 1000002) _ rfl (show blk b2 59 _ = blk b2 59 (stL (L ++ r.take (64 - L.length % 64))) from congrArg _ (by rw [stM_setFull, stL, fullR_step L _ (block_len L r (by have := beq_iff_eq.1 hc29; omega) (by omega)), List.length_append, List.length_take, Nat.min_comm (64 - L.length % 64)])) (Sub.cons (t := 1000004) rfl (Sub.cons (t := 1000005) rfl (Sub.cons (t := 1900000) rfl (Sub.cons (t := 1900001) rfl Sub.nil)))))))) ?_
      refine End.normal_block ?_
      refine End.normal_then ?_
      refine End.again (c + min r.length (64 - L.length % 64)) ?_ ?_ ?_
      · show _ ≤ _; omega
      · show _ - _ < _ - _; omega
      · exact (Sub.eq (t := 1) _ rfl (by rw [← List.drop_drop, hr]) (Sub.cons (t := 2) rfl (Sub.cons (t := 4) rfl (Sub.eq (t := 1000002) _ rfl (by rw [List.take_add, hr, ← List.append_assoc, hL, Nat.min_comm r.length, ← List.take_eq_take_min]) (Sub.cons (t := 1000004) rfl (Sub.cons (t := 1900000) rfl (Sub.cons (t := 1900001) rfl Sub.nil)))))))
    · have hst : stM (fullR L) (restL (L ++ r.take (64 - L.length % 64))) (L.length + min r.length (64 - L.length % 64)) = stL (L ++ r.take (64 - L.length % 64)) := by
        rw [stL, fullR_same L _ (part_len L r (by have := beq_eq_false_iff_ne.1 hc29; omega)), List.length_append, List.length_take, Nat.min_comm (64 - L.length % 64)]
      rw [hst]
      refine A.skip ?_
      refine End.normal_block ?_
      refine End.normal_then ?_
      refine End.again (c + min r.length (64 - L.length % 64)) ?_ ?_ ?_
      · show _ ≤ _; omega
      · show _ - _ < _ - _; omega
      · exact (Sub.eq (t := 1) _ rfl (by rw [← List.drop_drop, hr]) (Sub.cons (t := 2) rfl (Sub.cons (t := 4) rfl (Sub.eq (t := 1000002) _ rfl (by rw [List.take_add, hr, ← List.append_assoc, hL, Nat.min_comm r.length, ← List.take_eq_take_min]) (Sub.cons (t := 1000004) rfl (Sub.cons (t := 1900000) rfl (Sub.cons (t := 1900001) rfl Sub.nil)))))))
  · have hr0 : r = [] := by simpa using hc9
    refine A.exit ?_
    refine End.exit_then ?_
    refine End.exit_then ?_
    refine End.exit_here ?_
    refine End.normal_then (End.code ?_)
    refine A.regs (by kernel_rfl) (by kernel_rfl) (.inl rfl) ?_
    refine RunTK.eff 1 (by decide) rfl (.inl rfl) ?_
    refine RunK.step rfl rfl (ok_loadA (s := 1000002) (by decide) Tryd.underlying59 rfl (size59.of (stL_length _)) rfl rfl) ?_
    refine RunK.nil ?_
    refine ⟨_, eff_storeA (n := 36) (s := 1000004) (size59.of (stL_length _)) rfl rfl (stL_ones _) hBb4 rfl ((stL_length _).symm) (LeftS.cons (t := 1) rfl (Surv.old (by omega)) (LeftS.cons (t := 2) rfl (Surv.v _) (LeftS.cons (t := 4) rfl (Surv.v _) (LeftS.cons (t := 9) rfl (Surv.v _) (LeftS.cons (t := 35) rfl (Surv.v _) (LeftS.cons (t := 1000002) rfl (Surv.blk (by omega)) (LeftS.cons (t := 1900000) rfl (Surv.tab (by omega)) (LeftS.cons (t := 1900001) rfl (Surv.tab (by omega)) LeftS.nil)))))))), ?_⟩
    refine RunTK.last ?_
    refine RunK.nil ?_
    refine A.sub (Sub.cons (t := 4) rfl (Sub.cons (t := 1000002) rfl (Sub.cons (t := 1000004) rfl (Sub.cons (t := 1900000) rfl (Sub.cons (t := 1900001) rfl Sub.nil))))) ?_
    refine A.ret ?_
    exact End.cell1 (s := 1000004) rfl Tryd.underlying59 rfl (size59.of (stL_length _)) rfl rfl (Le.v (by rw [← hL, stV]; simp [List.drop_eq_nil_iff.1 (hr.trans hr0), List.take_of_length_le]))
end Go.Proofs.YtidlikaiileggaaDoor
