/-
  The laws of caissonlaw02, by facts, part two: DigestsParts, DigestsKnown.
-/
import Derived.Test.YtlnnhlgfomklcaaDoorC02l
namespace Go.Proofs.YtlnnhlgfomklcaaDoor
open Go Go.RowKit
set_option linter.unusedVariables false
theorem map_getD64 {l : List Nat} {i : Nat} (h : i < l.length) : (l.map u64D)[i]? = some (u64D (l.getD i 0)) := by simp [h]
theorem sieve_small : (sieveN 310).all (fun q => decide (q < 65536)) = true := by kernel_rfl
theorem sieve_mem {i : Nat} (h : i < 64) : (sieveN 310).getD i 0 ∈ sieveN 310 := by
  rw [List.getD_eq_getElem?_getD, List.getElem?_eq_getElem (by rw [sieve310]; exact h)]
  exact List.getElem_mem _
theorem sieve_lt {i : Nat} (h : i < 64) : (sieveN 310).getD i 0 < 65536 := by
  simpa using (List.all_eq_true.1 sieve_small) _ (sieve_mem h)
theorem root3_get {i : Nat} (h : i < 64) : K64.getD i 0 = rootF ((sieveN 310).getD i 0) 3 := by
  rw [← roots3, List.getD_eq_getElem?_getD, List.getElem?_map, List.getD_eq_getElem?_getD, List.getElem?_eq_getElem (by rw [sieve310]; exact h)]
  rfl
theorem root2_get {i : Nat} (h : i < 8) : H8.list.getD i 0 = rootF ((sieveN 310).getD i 0) 2 := by
  rw [← roots2, List.getD_eq_getElem?_getD, List.getElem?_map, List.getElem?_take, if_pos h, List.getD_eq_getElem?_getD, List.getElem?_eq_getElem (by rw [sieve310]; omega)]
  rfl

set_option maxHeartbeats 4000000 in
theorem DigestsParts_fn (l : List (List UInt8)) : FnM Tryd.prog 5 tabs [lst (l.map byt)] (.v (.bool true)) := by
  refine FnM.of Tryd.func5 rfl (by kernel_rfl) Tryd.ntmps5 (by simp) (by decide) (fun w => [(0, old w.heap.size (lst (l.map byt))), (1900000, tab 0 (H8.list.map u32V)), (1900001, tab 1 (K64.map u32V))]) (fun w => (StartM.old rfl (StartM.m (by simp [tabs]) (by decide) (StartM.m (by simp [tabs]) (by decide) StartM.nil)))) fun w₀ hM => ?_
  have htab := tabs_hi hM
  refine A.regs (by kernel_rfl) (by kernel_rfl) (.inl rfl) ?_
  refine RunTK.last ?_
  refine RunK.step rfl rfl (ok_assign rfl) ?_
  refine RunK.nil ?_
  refine A.sub (Sub.cons (t := 0) rfl (Sub.cons (t := 1900000) rfl (Sub.cons (t := 1900001) rfl Sub.nil))) ?_
  refine A.seq ?_
  refine A.regs (by kernel_rfl) (by kernel_rfl) (.inl rfl) ?_
  refine RunTK.last ?_
  refine RunK.step rfl rfl (ok_move rfl) ?_
  refine RunK.step rfl rfl (ok_len Tryd.underlying45 rfl (by first | exact Le.refl _ | exact Le.old _ _ | exact le_byt _ _ | exact (Le.old _ _).trans (le_byt _ _) | exact le_lst _ _ | exact (Le.old _ _).trans (le_lst _ _) | exact (Le.old _ _).trans (Le.old _ _) | exact (Le.old _ _).trans ((Le.old _ _).trans (le_byt _ _)) | exact byt_nil_le | exact lst_nil_le | exact bytes_nil_le | exact list_nil_le)) ?_; refine RunK.as (.int .i64 (l.length : Int)) (by simp) ?_
  refine RunK.step rfl rfl (ok_bin rfl rfl rfl) ?_
  refine RunK.nil ?_
  refine A.sub (Sub.cons (t := 0) rfl (Sub.cons (t := 10) rfl (Sub.cons (t := 1900000) rfl (Sub.cons (t := 1900001) rfl Sub.nil)))) ?_
  refine A.cond rfl (fun hc10 => ?_) (fun hc10 => ?_)
  · refine A.regs (by kernel_rfl) (by kernel_rfl) (.inl rfl) ?_
    refine RunTK.last ?_
    refine RunK.step rfl rfl (ok_callM lives_fn (Sub.cons rfl (Sub.cons rfl Sub.nil)) tabs_v Args.nil) ?_
    refine RunK.step rfl rfl (ok_assign rfl) ?_
    refine RunK.nil ?_
    refine A.sub (Sub.cons (t := 2) rfl (Sub.cons (t := 1900000) rfl (Sub.cons (t := 1900001) rfl Sub.nil))) ?_
    refine A.ret ?_
    refine End.ret_then ?_
    exact End.ret1 rfl rfl (by first | exact Le.refl _ | exact Le.old _ _)
  · have hl8 : l.length ≤ 8 := by simp at hc10; omega
    refine A.skip ?_
    refine End.normal_then (End.code ?_)
    refine A.regs (by kernel_rfl) (by kernel_rfl) (.inl rfl) ?_
    refine RunTK.last ?_
    refine RunK.step rfl rfl (ok_assign rfl) ?_
    refine RunK.nil ?_
    refine A.sub (Sub.cons (t := 0) rfl (Sub.cons (t := 3) rfl (Sub.cons (t := 1900000) rfl (Sub.cons (t := 1900001) rfl Sub.nil)))) ?_
    refine A.regs (by kernel_rfl) (by kernel_rfl) (.inl rfl) ?_
    refine RunTK.new 0 (by decide) rfl (.inl rfl) ?_
    refine RunK.nil ?_
    refine ⟨_, _, eff_alloc (n := 89) (d := 4) (k := 1000004) zero40 (by decide), fun b4 hb4 => ?_⟩
    have hBb4 := hb4.1
    refine RunTK.last ?_
    refine RunK.nil ?_
    refine A.sub (Sub.cons (t := 0) rfl (Sub.cons (t := 3) rfl (Sub.cons (t := 4) rfl (Sub.cons (t := 1000004) rfl (Sub.cons (t := 1900000) rfl (Sub.cons (t := 1900001) rfl Sub.nil)))))) ?_
    refine A.regs (by kernel_rfl) (by kernel_rfl) (.inl rfl) ?_
    refine RunTK.new 1 (by decide) rfl (.inl rfl) ?_
    refine RunK.step rfl rfl (ok_call New_fn Args.nil) ?_
    refine RunK.nil ?_
    refine ⟨_, _, eff_alloc (n := 89) (d := 5) (k := 1000005) zero40 (by decide), fun b5 hb5 => ?_⟩
    have hBb5 := hb5.1
    have hlt_b4_b5 : b4 < b5 := hb5.2 1000004 _ _ _ rfl
    refine RunTK.eff 2 (by decide) rfl (.inl rfl) ?_
    refine RunK.nil ?_
    refine ⟨_, eff_storeA (n := 89) (s := 1000005) (size40.of (stL_length _)) rfl rfl (stL_ones _) hBb5 rfl (by first | exact (stL_length _).trans (stL_length _).symm | exact (stL_length _).symm) (LeftS.cons (t := 0) rfl (Surv.old (by omega)) (LeftS.cons (t := 3) rfl (Surv.v _) (LeftS.cons (t := 4) rfl (Surv.v _) (LeftS.cons (t := 5) rfl (Surv.v _) (LeftS.cons (t := 12) rfl (Surv.v _) (LeftS.cons (t := 1000004) rfl (Surv.blk (by omega)) (LeftS.cons (t := 1900000) rfl (Surv.tab (by omega)) (LeftS.cons (t := 1900001) rfl (Surv.tab (by omega)) LeftS.nil)))))))), ?_⟩
    refine RunTK.last ?_
    refine RunK.nil ?_
    refine A.sub (Sub.cons (t := 0) rfl (Sub.cons (t := 3) rfl (Sub.cons (t := 4) rfl (Sub.cons (t := 5) rfl (Sub.cons (t := 1000004) rfl (Sub.cons (t := 1000005) rfl (Sub.cons (t := 1900000) rfl (Sub.cons (t := 1900001) rfl Sub.nil)))))))) ?_
    refine A.seq ?_
    refine A.regs (by kernel_rfl) (by kernel_rfl) (.inl rfl) ?_
    refine RunTK.last ?_
    refine RunK.step rfl rfl (ok_assign rfl) ?_
    refine RunK.nil ?_
    refine A.sub (Sub.cons (t := 0) rfl (Sub.cons (t := 3) rfl (Sub.cons (t := 4) rfl (Sub.cons (t := 5) rfl (Sub.cons (t := 6) rfl (Sub.cons (t := 1000004) rfl (Sub.cons (t := 1000005) rfl (Sub.cons (t := 1900000) rfl (Sub.cons (t := 1900001) rfl Sub.nil))))))))) ?_
    refine A.block ?_
    refine A.subL (SubL.cons (t := 0) rfl (Le.refl _) (SubL.cons (t := 3) rfl (own_nil (B := w₀.heap.size) (e := 5)) (SubL.cons (t := 4) rfl (Le.refl _) (SubL.cons (t := 5) rfl (Le.refl _) (SubL.cons (t := 6) rfl (Le.refl _) (SubL.cons (t := 1000004) rfl (Le.refl _) (SubL.cons (t := 1000005) rfl (Le.refl _) (SubL.cons (t := 1900000) rfl (Le.refl _) (SubL.cons (t := 1900001) rfl (Le.refl _) SubL.nil))))))))) ?_
    refine A.loop (ι := Nat) (fun i => i ≤ l.length ∧ ((l.take i).flatten).length ≤ 100 * i) (fun i => [(0, old w₀.heap.size (lst (l.map byt))), (3, own w₀.heap.size 5 ((l.take i).flatten).length (((l.take i).flatten).map byteV)), (4, .v (.pointer (some ⟨b4, 0, none⟩))), (5, .v (.pointer (some ⟨b5, 0, none⟩))), (6, .v (.int .i64 (i : Int))), (1000004, blk b4 40 (stL (l.take i).flatten)), (1000005, blk b5 40 (stL (l.take i).flatten)), (1900000, tab 0 (H8.list.map u32V)), (1900001, tab 1 (K64.map u32V))]) (fun i => l.length - i) 0 ?_ ?_ ?_
    · exact ⟨Nat.zero_le _, by simp⟩
    · exact (Sub.cons (t := 0) rfl (Sub.eq (t := 3) _ rfl (by simp) (Sub.cons (t := 4) rfl (Sub.cons (t := 5) rfl (Sub.cons (t := 6) rfl (Sub.eq (t := 1000004) _ rfl (by rw [List.take_zero, List.flatten_nil, stL_nil]) (Sub.eq (t := 1000005) _ rfl (by simp) (Sub.cons (t := 1900000) rfl (Sub.cons (t := 1900001) rfl Sub.nil)))))))))
    intro i hs
    obtain ⟨hs1, hs2⟩ := hs
    refine A.seq ?_
    refine A.regs (by kernel_rfl) (by kernel_rfl) (.inl rfl) ?_
    refine RunTK.last ?_
    refine RunK.step rfl rfl (ok_move rfl) ?_
    refine RunK.step rfl rfl (ok_move rfl) ?_
    refine RunK.step rfl rfl (ok_len Tryd.underlying45 rfl (by first | exact Le.refl _ | exact Le.old _ _ | exact le_byt _ _ | exact (Le.old _ _).trans (le_byt _ _) | exact le_lst _ _ | exact (Le.old _ _).trans (le_lst _ _) | exact (Le.old _ _).trans (Le.old _ _) | exact (Le.old _ _).trans ((Le.old _ _).trans (le_byt _ _)) | exact byt_nil_le | exact lst_nil_le | exact bytes_nil_le | exact list_nil_le)) ?_; refine RunK.as (.int .i64 (l.length : Int)) (by simp) ?_
    refine RunK.step rfl rfl (ok_bin rfl rfl rfl) ?_
    refine RunK.nil ?_
    refine A.sub (Sub.cons (t := 0) rfl (Sub.cons (t := 3) rfl (Sub.cons (t := 4) rfl (Sub.cons (t := 5) rfl (Sub.cons (t := 6) rfl (Sub.cons (t := 16) rfl (Sub.cons (t := 1000004) rfl (Sub.cons (t := 1000005) rfl (Sub.cons (t := 1900000) rfl (Sub.cons (t := 1900001) rfl Sub.nil)))))))))) ?_
    refine A.cond rfl (fun hc16 => ?_) (fun hc16 => ?_)
    · have hlt : i < l.length := by simp at hc16; omega
      have hget : l[i]? = some l[i] := List.getElem?_eq_getElem hlt
      refine A.skip ?_
      refine End.normal_then (End.code ?_)
      refine A.seq ?_
      refine A.block ?_
      refine A.seq ?_
      refine A.regs (by kernel_rfl) (by kernel_rfl) (.inl rfl) ?_
      refine RunTK.last ?_
      refine RunK.step rfl rfl (ok_move rfl) ?_
      refine RunK.step rfl rfl (ok_move rfl) ?_
      refine RunK.step rfl rfl (ok_index (d := byt l[i]) Tryd.underlying45 info30 rfl (by first | exact Le.refl _ | exact Le.old _ _ | exact le_byt _ _ | exact (Le.old _ _).trans (le_byt _ _) | exact le_lst _ _ | exact (Le.old _ _).trans (le_lst _ _) | exact (Le.old _ _).trans (Le.old _ _) | exact (Le.old _ _).trans ((Le.old _ _).trans (le_byt _ _)) | exact byt_nil_le | exact lst_nil_le | exact bytes_nil_le | exact list_nil_le) rfl (by omega) (by simp [hlt])) ?_
      refine RunK.step rfl rfl (ok_load Tryd.underlying30 rfl rfl) ?_
      refine RunK.step rfl rfl (ok_lenB Tryd.underlying30 rfl (Le.refl _)) ?_
      refine RunK.step rfl rfl (ok_bin rfl rfl rfl) ?_
      refine RunK.nil ?_
      refine A.sub (Sub.cons (t := 0) rfl (Sub.cons (t := 3) rfl (Sub.cons (t := 4) rfl (Sub.cons (t := 5) rfl (Sub.cons (t := 6) rfl (Sub.cons (t := 24) rfl (Sub.cons (t := 1000004) rfl (Sub.cons (t := 1000005) rfl (Sub.cons (t := 1900000) rfl (Sub.cons (t := 1900001) rfl Sub.nil)))))))))) ?_
      refine A.cond rfl (fun hc24 => ?_) (fun hc24 => ?_)
      · refine A.regs (by kernel_rfl) (by kernel_rfl) (.inl rfl) ?_
        refine RunTK.last ?_
        refine RunK.step rfl rfl (ok_callM lives_fn (Sub.cons rfl (Sub.cons rfl Sub.nil)) tabs_v Args.nil) ?_
        refine RunK.step rfl rfl (ok_assign rfl) ?_
        refine RunK.nil ?_
        refine A.sub (Sub.cons (t := 2) rfl (Sub.cons (t := 1000004) rfl (Sub.cons (t := 1000005) rfl (Sub.cons (t := 1900000) rfl (Sub.cons (t := 1900001) rfl Sub.nil))))) ?_
        refine A.ret ?_
        refine End.ret_then ?_
        refine End.ret_block ?_
        refine End.ret_then ?_
        refine End.ret_then ?_
        refine End.ret_block ?_
        refine End.ret_then ?_
        exact End.ret1 rfl rfl (by first | exact Le.refl _ | exact Le.old _ _)
      · have h100 : l[i].length ≤ 100 := by simp at hc24; omega
        have hf1 : ((l.take (i + 1)).flatten).length = ((l.take i).flatten).length + l[i].length := by rw [flatten_take_succ hget, List.length_append]
        refine A.skip ?_
        refine End.normal_then (End.code ?_)
        refine A.regs (by kernel_rfl) (by kernel_rfl) (.inl rfl) ?_
        refine RunTK.new 1 (by decide) rfl (.inl rfl) ?_
        refine RunK.step rfl rfl (ok_loadA (s := 1000005) (by decide) Tryd.underlying40 rfl (size40.of (stL_length _)) rfl rfl) ?_
        refine RunK.nil ?_
        refine ⟨_, _, eff_alloc (n := 89) (d := 7) (k := 1000007) zero40 (by decide), fun b7 hb7 => ?_⟩
        have hBb7 := hb7.1
        have hlt_b4_b7 : b4 < b7 := hb7.2 1000004 _ _ _ rfl
        have hlt_b5_b7 : b5 < b7 := hb7.2 1000005 _ _ _ rfl
        refine RunTK.eff 2 (by decide) rfl (.inl rfl) ?_
        refine RunK.nil ?_
        refine ⟨_, eff_storeA (n := 89) (s := 1000007) (size40.of (stL_length _)) rfl rfl (stL_ones _) hBb7 rfl (by first | exact (stL_length _).trans (stL_length _).symm | exact (stL_length _).symm) (LeftS.cons (t := 0) rfl (Surv.old (by omega)) (LeftS.cons (t := 3) rfl (Surv.own (by decide)) (LeftS.cons (t := 4) rfl (Surv.v _) (LeftS.cons (t := 5) rfl (Surv.v _) (LeftS.cons (t := 6) rfl (Surv.v _) (LeftS.cons (t := 7) rfl (Surv.v _) (LeftS.cons (t := 24) rfl (Surv.v _) (LeftS.cons (t := 26) rfl (Surv.v _) (LeftS.cons (t := 1000004) rfl (Surv.blk (by omega)) (LeftS.cons (t := 1000005) rfl (Surv.blk (by omega)) (LeftS.cons (t := 1900000) rfl (Surv.tab (by omega)) (LeftS.cons (t := 1900001) rfl (Surv.tab (by omega)) LeftS.nil)))))))))))), ?_⟩
        refine RunTK.last ?_
        refine RunK.nil ?_
        refine A.sub (Sub.cons (t := 0) rfl (Sub.cons (t := 3) rfl (Sub.cons (t := 4) rfl (Sub.cons (t := 5) rfl (Sub.cons (t := 6) rfl (Sub.cons (t := 7) rfl (Sub.cons (t := 1000004) rfl (Sub.cons (t := 1000005) rfl (Sub.cons (t := 1000007) rfl (Sub.cons (t := 1900000) rfl (Sub.cons (t := 1900001) rfl Sub.nil))))))))))) ?_
        refine A.regs (by kernel_rfl) (by kernel_rfl) (.inl rfl) ?_
        refine RunTK.eff 5 (by decide) rfl (.inl rfl) ?_
        refine RunK.step rfl rfl (ok_move rfl) ?_
        refine RunK.step rfl rfl (ok_move rfl) ?_
        refine RunK.step rfl rfl (ok_move rfl) ?_
        refine RunK.step rfl rfl (ok_index (d := byt l[i]) Tryd.underlying45 info30 rfl (by first | exact Le.refl _ | exact Le.old _ _ | exact le_byt _ _ | exact (Le.old _ _).trans (le_byt _ _) | exact le_lst _ _ | exact (Le.old _ _).trans (le_lst _ _) | exact (Le.old _ _).trans (Le.old _ _) | exact (Le.old _ _).trans ((Le.old _ _).trans (le_byt _ _)) | exact byt_nil_le | exact lst_nil_le | exact bytes_nil_le | exact list_nil_le) rfl (by omega) (by simp [hlt])) ?_
        refine RunK.step rfl rfl (ok_load Tryd.underlying30 rfl rfl) ?_
        refine RunK.nil ?_
        refine ⟨_, eff_appendS (vs := l[i].map byteV) Tryd.underlying30 info5 (by decide) rfl rfl rfl (Le.eq (byt_vals _)) (by simp [byteV, Value.oneCell']) (by simp only [List.length_map]; omega) (by decide) (fun g hg => (LeftS.cons (t := 0) rfl (Surv.old (by omega)) (LeftS.cons (t := 4) rfl (Surv.v _) (LeftS.cons (t := 5) rfl (Surv.v _) (LeftS.cons (t := 6) rfl (Surv.v _) (LeftS.cons (t := 7) rfl (Surv.v _) (LeftS.cons (t := 28) rfl (Surv.old (by omega)) (LeftS.cons (t := 29) rfl (Surv.v _) (LeftS.cons (t := 1000004) rfl (Surv.blkT (by decide)) (LeftS.cons (t := 1000005) rfl (Surv.blkT (by decide)) (LeftS.cons (t := 1000007) rfl (Surv.blkT (by decide)) (LeftS.cons (t := 1900000) rfl (Surv.tab (by omega)) (LeftS.cons (t := 1900001) rfl (Surv.tab (by omega)) LeftS.nil))))))))))))), ?_⟩
        refine RunTK.last ?_
        refine RunK.step rfl rfl (ok_assign rfl) ?_
        refine RunK.nil ?_
        refine A.sub (Sub.cons (t := 0) rfl (Sub.eq (t := 3) _ rfl (show own w₀.heap.size 5 (((l.take i).flatten).length + (l[i].map byteV).length) (((l.take i).flatten).map byteV ++ l[i].map byteV) = own w₀.heap.size 5 ((l.take (i + 1)).flatten).length (((l.take (i + 1)).flatten).map byteV) from by rw [flatten_take_succ hget]; simp) (Sub.cons (t := 4) rfl (Sub.cons (t := 5) rfl (Sub.cons (t := 6) rfl (Sub.cons (t := 7) rfl (Sub.cons (t := 1000004) rfl (Sub.cons (t := 1000005) rfl (Sub.cons (t := 1000007) rfl (Sub.cons (t := 1900000) rfl (Sub.cons (t := 1900001) rfl Sub.nil))))))))))) ?_
        refine A.regs (by kernel_rfl) (by kernel_rfl) (.inr (by kernel_rfl)) ?_
        refine RunTK.eff 6 (by decide) rfl (.inr (by kernel_rfl)) ?_
        refine RunK.step rfl rfl (ok_loadA (s := 1000005) (by decide) Tryd.underlying40 rfl (size40.of (stL_length _)) rfl rfl) ?_
        refine RunK.step rfl rfl (ok_move rfl) ?_
        refine RunK.step rfl rfl (ok_move rfl) ?_
        refine RunK.step rfl rfl (ok_index (d := byt l[i]) Tryd.underlying45 info30 rfl (by first | exact Le.refl _ | exact Le.old _ _ | exact le_byt _ _ | exact (Le.old _ _).trans (le_byt _ _) | exact le_lst _ _ | exact (Le.old _ _).trans (le_lst _ _) | exact (Le.old _ _).trans (Le.old _ _) | exact (Le.old _ _).trans ((Le.old _ _).trans (le_byt _ _)) | exact byt_nil_le | exact lst_nil_le | exact bytes_nil_le | exact list_nil_le) rfl (by omega) (by simp [hlt])) ?_
        refine RunK.step rfl rfl (ok_load Tryd.underlying30 rfl rfl) ?_
        refine RunK.step rfl rfl (ok_callM (Write_fn (l.take i).flatten l[i] (by omega)) (Sub.cons rfl (Sub.cons rfl Sub.nil)) tabs_v (Args.cons rfl (Le.refl _) (Args.cons rfl (Le.refl _) Args.nil))) ?_; refine RunK.as (stV (l.take (i + 1)).flatten) (by rw [flatten_take_succ hget]) ?_
        refine RunK.nil ?_
        refine ⟨_, eff_storeA (n := 89) (s := 1000005) (size40.of (stL_length _)) rfl rfl (stL_ones _) hBb5 rfl (by first | exact (stL_length _).trans (stL_length _).symm | exact (stL_length _).symm) (LeftS.cons (t := 0) rfl (Surv.old (by omega)) (LeftS.cons (t := 3) rfl (Surv.own (by decide)) (LeftS.cons (t := 4) rfl (Surv.v _) (LeftS.cons (t := 5) rfl (Surv.v _) (LeftS.cons (t := 6) rfl (Surv.v _) (LeftS.cons (t := 7) rfl (Surv.v _) (LeftS.cons (t := 33) rfl (Surv.v _) (LeftS.cons (t := 34) rfl (Surv.old (by omega)) (LeftS.cons (t := 35) rfl (Surv.v _) (LeftS.cons (t := 38) rfl (Surv.v _) (LeftS.cons (t := 1000004) rfl (Surv.blk (by omega)) (LeftS.cons (t := 1000007) rfl (Surv.blk (by omega)) (LeftS.cons (t := 1900000) rfl (Surv.tab (by omega)) (LeftS.cons (t := 1900001) rfl (Surv.tab (by omega)) LeftS.nil)))))))))))))), ?_⟩
        refine RunTK.last ?_
        refine RunK.nil ?_
        refine A.sub (Sub.cons (t := 0) rfl (Sub.cons (t := 3) rfl (Sub.cons (t := 4) rfl (Sub.cons (t := 5) rfl (Sub.cons (t := 6) rfl (Sub.cons (t := 7) rfl (Sub.cons (t := 1000004) rfl (Sub.cons (t := 1000005) rfl (Sub.cons (t := 1000007) rfl (Sub.cons (t := 1900000) rfl (Sub.cons (t := 1900001) rfl Sub.nil))))))))))) ?_
        refine A.regs (by kernel_rfl) (by kernel_rfl) (.inr (by kernel_rfl)) ?_
        refine RunTK.eff 6 (by decide) rfl (.inr (by kernel_rfl)) ?_
        refine RunK.step rfl rfl (ok_loadA (s := 1000004) (by decide) Tryd.underlying40 rfl (size40.of (stL_length _)) rfl rfl) ?_
        refine RunK.step rfl rfl (ok_move rfl) ?_
        refine RunK.step rfl rfl (ok_move rfl) ?_
        refine RunK.step rfl rfl (ok_index (d := byt l[i]) Tryd.underlying45 info30 rfl (by first | exact Le.refl _ | exact Le.old _ _ | exact le_byt _ _ | exact (Le.old _ _).trans (le_byt _ _) | exact le_lst _ _ | exact (Le.old _ _).trans (le_lst _ _) | exact (Le.old _ _).trans (Le.old _ _) | exact (Le.old _ _).trans ((Le.old _ _).trans (le_byt _ _)) | exact byt_nil_le | exact lst_nil_le | exact bytes_nil_le | exact list_nil_le) rfl (by omega) (by simp [hlt])) ?_
        refine RunK.step rfl rfl (ok_load Tryd.underlying30 rfl rfl) ?_
        refine RunK.step rfl rfl (ok_callM (Write_fn (l.take i).flatten l[i] (by omega)) (Sub.cons rfl (Sub.cons rfl Sub.nil)) tabs_v (Args.cons rfl (Le.refl _) (Args.cons rfl (Le.refl _) Args.nil))) ?_; refine RunK.as (stV (l.take (i + 1)).flatten) (by rw [flatten_take_succ hget]) ?_
        refine RunK.nil ?_
        refine ⟨_, eff_storeA (n := 89) (s := 1000004) (size40.of (stL_length _)) rfl rfl (stL_ones _) hBb4 rfl (by first | exact (stL_length _).trans (stL_length _).symm | exact (stL_length _).symm) (LeftS.cons (t := 0) rfl (Surv.old (by omega)) (LeftS.cons (t := 3) rfl (Surv.own (by decide)) (LeftS.cons (t := 4) rfl (Surv.v _) (LeftS.cons (t := 5) rfl (Surv.v _) (LeftS.cons (t := 6) rfl (Surv.v _) (LeftS.cons (t := 7) rfl (Surv.v _) (LeftS.cons (t := 39) rfl (Surv.v _) (LeftS.cons (t := 40) rfl (Surv.old (by omega)) (LeftS.cons (t := 41) rfl (Surv.v _) (LeftS.cons (t := 44) rfl (Surv.v _) (LeftS.cons (t := 1000005) rfl (Surv.blk (by omega)) (LeftS.cons (t := 1000007) rfl (Surv.blk (by omega)) (LeftS.cons (t := 1900000) rfl (Surv.tab (by omega)) (LeftS.cons (t := 1900001) rfl (Surv.tab (by omega)) LeftS.nil)))))))))))))), ?_⟩
        refine RunTK.last ?_
        refine RunK.nil ?_
        refine A.sub (Sub.cons (t := 0) rfl (Sub.cons (t := 3) rfl (Sub.cons (t := 4) rfl (Sub.cons (t := 5) rfl (Sub.cons (t := 6) rfl (Sub.cons (t := 7) rfl (Sub.cons (t := 1000004) rfl (Sub.cons (t := 1000005) rfl (Sub.cons (t := 1000007) rfl (Sub.cons (t := 1900000) rfl (Sub.cons (t := 1900001) rfl Sub.nil))))))))))) ?_
        refine A.regs (by kernel_rfl) (by kernel_rfl) (.inr (by kernel_rfl)) ?_
        refine RunTK.last ?_
        refine RunK.step rfl rfl (ok_loadA (s := 1000005) (by decide) Tryd.underlying40 rfl (size40.of (stL_length _)) rfl rfl) ?_
        refine RunK.step rfl rfl (ok_callM (Sum_fn (l.take (i + 1)).flatten (by omega)) (Sub.cons rfl (Sub.cons rfl Sub.nil)) tabs_v (Args.cons rfl (Le.refl _) Args.nil)) ?_
        refine RunK.step rfl rfl (ok_move rfl) ?_
        refine RunK.step rfl rfl (ok_call (refSum_fn (l.take (i + 1)).flatten (by omega)) (Args.cons rfl (own_cat rfl rfl) Args.nil)) ?_
        refine RunK.step rfl rfl (ok_neqA Tryd.underlying35 Tryd.underlying5 info5 (by kernel_rfl) rfl rfl rfl (by rw [List.length_map, sha_length]) (ints_u8 _)) ?_
        refine RunK.step rfl rfl (ok_move rfl) ?_
        refine RunK.guarded rfl rfl rfl rfl (ok_loadA (s := 1000004) (by decide) Tryd.underlying40 rfl (size40.of (stL_length _)) rfl rfl) ?_
        refine RunK.guarded rfl rfl rfl rfl (ok_callM (Sum_fn (l.take (i + 1)).flatten (by omega)) (Sub.cons rfl (Sub.cons rfl Sub.nil)) tabs_v (Args.cons rfl (Le.refl _) Args.nil)) ?_
        refine RunK.guarded rfl rfl rfl rfl (ok_loadA (s := 1000005) (by decide) Tryd.underlying40 rfl (size40.of (stL_length _)) rfl rfl) ?_
        refine RunK.guarded rfl rfl rfl rfl (ok_callM (Sum_fn (l.take (i + 1)).flatten (by omega)) (Sub.cons rfl (Sub.cons rfl Sub.nil)) tabs_v (Args.cons rfl (Le.refl _) Args.nil)) ?_
        refine RunK.guarded rfl rfl rfl rfl (ok_neqA Tryd.underlying35 Tryd.underlying5 info5 (by kernel_rfl) rfl rfl rfl (by rw [List.length_map, sha_length]) (ints_u8 _)) ?_
        refine RunK.step rfl rfl (ok_pick rfl rfl) ?_; refine RunK.as (.bool false) (by rfl) ?_
        refine RunK.step rfl rfl (ok_move rfl) ?_
        refine RunK.guarded rfl rfl rfl rfl (ok_loadA (s := 1000007) (by decide) Tryd.underlying40 rfl (size40.of (stL_length _)) rfl rfl) ?_
        refine RunK.guarded rfl rfl rfl rfl (ok_callM (Sum_fn (l.take i).flatten (by omega)) (Sub.cons rfl (Sub.cons rfl Sub.nil)) tabs_v (Args.cons rfl (Le.refl _) Args.nil)) ?_
        refine RunK.guarded rfl rfl rfl rfl (ok_move rfl) ?_
        refine RunK.guarded rfl rfl rfl rfl (ok_move rfl) ?_
        refine RunK.guarded rfl rfl rfl rfl (ok_lenB (l := (l.take (i + 1)).flatten) Tryd.underlying30 rfl (own_cat rfl rfl)) ?_
        refine RunK.guarded rfl rfl rfl rfl (ok_move rfl) ?_
        refine RunK.guarded rfl rfl rfl rfl (ok_move rfl) ?_
        refine RunK.guarded rfl rfl rfl rfl (ok_index (d := byt l[i]) Tryd.underlying45 info30 rfl (by first | exact Le.refl _ | exact Le.old _ _ | exact le_byt _ _ | exact (Le.old _ _).trans (le_byt _ _) | exact le_lst _ _ | exact (Le.old _ _).trans (le_lst _ _) | exact (Le.old _ _).trans (Le.old _ _) | exact (Le.old _ _).trans ((Le.old _ _).trans (le_byt _ _)) | exact byt_nil_le | exact lst_nil_le | exact bytes_nil_le | exact list_nil_le) rfl (by omega) (by simp [hlt])) ?_
        refine RunK.guarded rfl rfl rfl rfl (ok_load Tryd.underlying30 rfl rfl) ?_
        refine RunK.guarded rfl rfl rfl rfl (ok_lenB Tryd.underlying30 rfl (Le.refl _)) ?_
        refine RunK.guarded rfl rfl rfl rfl (ok_bin rfl rfl rfl) ?_; refine RunK.as (.int .i64 ((((l.take i).flatten).length : Nat) : Int)) (by rw [wrap_i64 (by omega) (by omega)]; congr 1; omega) ?_
        refine RunK.guarded rfl rfl rfl rfl ((ok_slice (ds := ((l.take (i + 1)).flatten).map byteD) 0 ((l.take i).flatten).length Tryd.underlying30 info5 rfl (own_cat rfl rfl) (.inr ⟨rfl, rfl⟩) (.inl ⟨_, _, rfl, rfl⟩) (by omega) (by simp only [List.length_map]; omega)).le (d' := byt (l.take i).flatten) (Le.eq (by rw [List.drop_zero, ← List.map_take, flatten_take_succ hget, List.take_left' rfl]; rfl))) ?_
        refine RunK.guarded rfl rfl rfl rfl (ok_call (refSum_fn (l.take i).flatten (by omega)) (Args.cons rfl (Le.refl _) Args.nil)) ?_
        refine RunK.guarded rfl rfl rfl rfl (ok_neqA Tryd.underlying35 Tryd.underlying5 info5 (by kernel_rfl) rfl rfl rfl (by rw [List.length_map, sha_length]) (ints_u8 _)) ?_
        refine RunK.step rfl rfl (ok_pick rfl rfl) ?_; refine RunK.as (.bool false) (by rfl) ?_
        refine RunK.nil ?_
        refine A.sub (Sub.cons (t := 0) rfl (Sub.cons (t := 3) rfl (Sub.cons (t := 4) rfl (Sub.cons (t := 5) rfl (Sub.cons (t := 6) rfl (Sub.cons (t := 72) rfl (Sub.cons (t := 1000004) rfl (Sub.cons (t := 1000005) rfl (Sub.cons (t := 1000007) rfl (Sub.cons (t := 1900000) rfl (Sub.cons (t := 1900001) rfl Sub.nil))))))))))) ?_
        refine A.no rfl ?_
        refine A.skip ?_
        refine End.normal_block ?_
        refine End.normal_then (End.code ?_)
        refine A.reg (by kernel_rfl) (by kernel_rfl) (.inl rfl) ?_
        refine RunTK.last ?_
        refine RunK.step rfl rfl (ok_move rfl) ?_
        refine RunK.step rfl rfl (ok_bin rfl rfl rfl) ?_; refine RunK.as (.int .i64 ((i + 1 : Nat) : Int)) (by rw [wrap_i64 (by omega) (by omega)]; first | rfl | (congr 1; omega)) ?_
        refine RunK.step rfl rfl (ok_assign rfl) ?_
        refine RunK.nil ?_
        refine End.sub (Sub.cons (t := 0) rfl (Sub.cons (t := 3) rfl (Sub.cons (t := 4) rfl (Sub.cons (t := 5) rfl (Sub.cons (t := 6) rfl (Sub.cons (t := 1000004) rfl (Sub.cons (t := 1000005) rfl (Sub.cons (t := 1000007) rfl (Sub.cons (t := 1900000) rfl (Sub.cons (t := 1900001) rfl Sub.nil)))))))))) ?_
        refine End.normal_then ?_
        refine End.again (i + 1) ?_ ?_ ?_
        · show _ ∧ _; rw [hf1]; omega
        · show _ - _ < _ - _; omega
        · exact (Sub.cons (t := 0) rfl (Sub.cons (t := 3) rfl (Sub.cons (t := 4) rfl (Sub.cons (t := 5) rfl (Sub.cons (t := 6) rfl (Sub.cons (t := 1000004) rfl (Sub.cons (t := 1000005) rfl (Sub.cons (t := 1900000) rfl (Sub.cons (t := 1900001) rfl Sub.nil)))))))))
    · obtain rfl : i = l.length := by simp at hc16; omega
      rw [List.take_length] at hs2
      rw [List.take_length]
      refine A.exit ?_
      refine End.exit_then ?_
      refine End.exit_then ?_
      refine End.exit_here ?_
      refine End.normal_then (End.code ?_)
      refine A.regs (by kernel_rfl) (by kernel_rfl) (.inl rfl) ?_
      refine RunTK.last ?_
      refine RunK.step rfl rfl (ok_move rfl) ?_
      refine RunK.step rfl rfl (ok_callM (Of_fn l l.flatten rfl (by omega) (by omega)) (Sub.cons rfl (Sub.cons rfl Sub.nil)) tabs_v (Args.cons rfl (Le.old _ _) Args.nil)) ?_
      refine RunK.step rfl rfl (ok_move rfl) ?_
      refine RunK.step rfl rfl (ok_call (refSum_fn l.flatten (by omega)) (Args.cons rfl (own_cat rfl rfl) Args.nil)) ?_
      refine RunK.step rfl rfl (ok_eqlA Tryd.underlying35 Tryd.underlying5 info5 (by kernel_rfl) rfl rfl rfl (by rw [List.length_map, sha_length]) (ints_u8 _)) ?_
      refine RunK.step rfl rfl (ok_move rfl) ?_
      refine RunK.guarded rfl rfl rfl rfl (ok_loadA (s := 1000005) (by decide) Tryd.underlying40 rfl (size40.of (stL_length _)) rfl rfl) ?_
      refine RunK.guarded rfl rfl rfl rfl (ok_callM (Sum_fn l.flatten (by omega)) (Sub.cons rfl (Sub.cons rfl Sub.nil)) tabs_v (Args.cons rfl (Le.refl _) Args.nil)) ?_
      refine RunK.guarded rfl rfl rfl rfl (ok_move rfl) ?_
      refine RunK.guarded rfl rfl rfl rfl (ok_build [own w₀.heap.size 5 (l.flatten).length ((l.flatten).map byteV)] Tryd.underlying45 info30 rfl (by decide) (by decide) rfl ⟨rfl, rfl, trivial⟩ (fun d hd w x h => by simp only [List.mem_cons, List.not_mem_nil, or_false] at hd; subst hd; exact own_one h)) ?_
      refine RunK.guarded rfl rfl rfl rfl (ok_callM (Of_fn [l.flatten] l.flatten (by simp) (by simp) (by omega)) (Sub.cons rfl (Sub.cons rfl Sub.nil)) tabs_v (Args.cons rfl (list_lst1 (own_cat rfl rfl)) Args.nil)) ?_
      refine RunK.guarded rfl rfl rfl rfl (ok_eqlA Tryd.underlying35 Tryd.underlying5 info5 (by kernel_rfl) rfl rfl rfl (by rw [List.length_map, sha_length]) (ints_u8 _)) ?_
      refine RunK.step rfl rfl (ok_pick rfl rfl) ?_; refine RunK.as (.bool true) (by rfl) ?_
      refine RunK.step rfl rfl (ok_move rfl) ?_
      refine RunK.guarded rfl rfl rfl rfl (ok_callM lives_fn (Sub.cons rfl (Sub.cons rfl Sub.nil)) tabs_v Args.nil) ?_
      refine RunK.step rfl rfl (ok_pick rfl rfl) ?_; refine RunK.as (.bool true) (by rfl) ?_
      refine RunK.step rfl rfl (ok_assign rfl) ?_
      refine RunK.nil ?_
      refine A.sub (Sub.cons (t := 2) rfl (Sub.cons (t := 1000004) rfl (Sub.cons (t := 1000005) rfl (Sub.cons (t := 1900000) rfl (Sub.cons (t := 1900001) rfl Sub.nil))))) ?_
      refine A.ret ?_
      exact End.ret1 rfl rfl (by first | exact Le.refl _ | exact Le.old _ _)
set_option maxHeartbeats 4000000 in
theorem DigestsKnown_fn  : FnM Tryd.prog 7 tabs [] (.v (.bool true)) := by
  refine FnM.of Tryd.func7 rfl (by kernel_rfl) Tryd.ntmps7 (by simp) (by decide) (fun w => [(1900000, tab 0 (H8.list.map u32V)), (1900001, tab 1 (K64.map u32V))]) (fun w => (StartM.m (by simp [tabs]) (by decide) (StartM.m (by simp [tabs]) (by decide) StartM.nil))) fun w₀ hM => ?_
  have htab := tabs_hi hM
  refine A.regs (by kernel_rfl) (by kernel_rfl) (.inl rfl) ?_
  refine RunTK.last ?_
  refine RunK.step rfl rfl (ok_assign rfl) ?_
  refine RunK.nil ?_
  refine A.sub (Sub.cons (t := 1900000) rfl (Sub.cons (t := 1900001) rfl Sub.nil)) ?_
  refine A.regs (by kernel_rfl) (by kernel_rfl) (.inl rfl) ?_
  refine RunTK.new 4 (by decide) rfl (.inl rfl) ?_
  refine RunK.step rfl rfl (ok_call refConstants_fn Args.nil) ?_
  refine RunK.step rfl rfl (ok_move rfl) ?_
  refine RunK.step rfl rfl (ok_extract rfl rfl) ?_
  refine RunK.step rfl rfl (ok_extract rfl rfl) ?_
  refine RunK.nil ?_
  refine ⟨_, _, eff_alloc (n := 76) (d := 1) (k := 1000001) zero26 (by decide), fun b1 hb1 => ?_⟩
  have hBb1 := hb1.1
  refine RunTK.new 5 (by decide) rfl (.inl rfl) ?_
  refine RunK.nil ?_
  refine ⟨_, _, eff_alloc (n := 76) (d := 2) (k := 1000002) zero23 (by decide), fun b2 hb2 => ?_⟩
  have hBb2 := hb2.1
  have hlt_b1_b2 : b1 < b2 := hb2.2 1000001 _ _ _ rfl
  refine RunTK.eff 6 (by decide) rfl (.inl rfl) ?_
  refine RunK.nil ?_
  refine ⟨_, eff_storeA (n := 76) (s := 1000001) (size26.of (by rw [List.length_map, K64_lit])) rfl rfl (all_u32 _) hBb1 rfl (by rw [List.length_map, K64_lit, List.length_replicate]) (LeftS.cons (t := 1) rfl (Surv.v _) (LeftS.cons (t := 2) rfl (Surv.v _) (LeftS.cons (t := 11) rfl (Surv.v _) (LeftS.cons (t := 12) rfl (Surv.v _) (LeftS.cons (t := 1000002) rfl (Surv.blkT (by decide)) (LeftS.cons (t := 1900000) rfl (Surv.tab (by omega)) (LeftS.cons (t := 1900001) rfl (Surv.tab (by omega)) LeftS.nil))))))), ?_⟩
  refine RunTK.eff 7 (by decide) rfl (.inl rfl) ?_
  refine RunK.nil ?_
  refine ⟨_, eff_storeA (n := 76) (s := 1000002) (size23.of (R8.size _)) rfl rfl (all_u32 _) hBb2 rfl ((R8.size _).symm) (LeftS.cons (t := 1) rfl (Surv.v _) (LeftS.cons (t := 2) rfl (Surv.v _) (LeftS.cons (t := 11) rfl (Surv.v _) (LeftS.cons (t := 12) rfl (Surv.v _) (LeftS.cons (t := 1000001) rfl (Surv.blkT (by decide)) (LeftS.cons (t := 1900000) rfl (Surv.tab (by omega)) (LeftS.cons (t := 1900001) rfl (Surv.tab (by omega)) LeftS.nil))))))), ?_⟩
  refine RunTK.last ?_
  refine RunK.nil ?_
  refine A.sub (Sub.cons (t := 1) rfl (Sub.cons (t := 2) rfl (Sub.cons (t := 1000001) rfl (Sub.cons (t := 1000002) rfl (Sub.cons (t := 1900000) rfl (Sub.cons (t := 1900001) rfl Sub.nil)))))) ?_
  refine A.regs (by kernel_rfl) (by kernel_rfl) (.inl rfl) ?_
  refine RunTK.last ?_
  refine RunK.step rfl rfl (ok_call Primes_fn (Args.cons rfl (Le.refl _) Args.nil)) ?_
  refine RunK.step rfl rfl (ok_assign rfl) ?_
  refine RunK.nil ?_
  refine A.sub (Sub.cons (t := 1) rfl (Sub.cons (t := 2) rfl (Sub.cons (t := 3) rfl (Sub.cons (t := 1000001) rfl (Sub.cons (t := 1000002) rfl (Sub.cons (t := 1900000) rfl (Sub.cons (t := 1900001) rfl Sub.nil))))))) ?_
  refine A.seq ?_
  refine A.regs (by kernel_rfl) (by kernel_rfl) (.inl rfl) ?_
  refine RunTK.last ?_
  refine RunK.step rfl rfl (ok_assign rfl) ?_
  refine RunK.nil ?_
  refine A.sub (Sub.cons (t := 1) rfl (Sub.cons (t := 2) rfl (Sub.cons (t := 3) rfl (Sub.cons (t := 4) rfl (Sub.cons (t := 1000001) rfl (Sub.cons (t := 1000002) rfl (Sub.cons (t := 1900000) rfl (Sub.cons (t := 1900001) rfl Sub.nil)))))))) ?_
  refine A.block ?_
  refine A.loop (ι := Nat) (fun i => i ≤ 64) (fun i => [(1, .v (.pointer (some ⟨b1, 0, none⟩))), (2, .v (.pointer (some ⟨b2, 0, none⟩))), (3, lst ((sieveN 310).map u64D)), (4, .v (.int .i64 (i : Int))), (1000001, blk b1 26 (K64.map u32V)), (1000002, blk b2 23 (H8.list.map u32V)), (1900000, tab 0 (H8.list.map u32V)), (1900001, tab 1 (K64.map u32V))]) (fun i => 64 - i) 0 ?_ ?_ ?_
  · exact Nat.zero_le _
  · exact (Sub.cons (t := 1) rfl (Sub.cons (t := 2) rfl (Sub.cons (t := 3) rfl (Sub.cons (t := 4) rfl (Sub.cons (t := 1000001) rfl (Sub.cons (t := 1000002) rfl (Sub.cons (t := 1900000) rfl (Sub.cons (t := 1900001) rfl Sub.nil))))))))
  intro i hi
  refine A.seq ?_
  refine A.regs (by kernel_rfl) (by kernel_rfl) (.inl rfl) ?_
  refine RunTK.last ?_
  refine RunK.step rfl rfl (ok_move rfl) ?_
  refine RunK.step rfl rfl (ok_bin rfl rfl rfl) ?_
  refine RunK.nil ?_
  refine A.sub (Sub.cons (t := 1) rfl (Sub.cons (t := 2) rfl (Sub.cons (t := 3) rfl (Sub.cons (t := 4) rfl (Sub.cons (t := 15) rfl (Sub.cons (t := 1000001) rfl (Sub.cons (t := 1000002) rfl (Sub.cons (t := 1900000) rfl (Sub.cons (t := 1900001) rfl Sub.nil))))))))) ?_
  refine A.cond rfl (fun hc15 => ?_) (fun hc15 => ?_)
  · have hlt : i < 64 := by simp at hc15; omega
    refine A.skip ?_
    refine End.normal_then (End.code ?_)
    refine A.seq ?_
    refine A.block ?_
    refine A.regs (by kernel_rfl) (by kernel_rfl) (.inr (by kernel_rfl)) ?_
    refine RunTK.last ?_
    refine RunK.step rfl rfl (ok_move rfl) ?_
    refine RunK.step rfl rfl (ok_move rfl) ?_
    refine RunK.step rfl rfl (ok_index (d := u64D ((sieveN 310).getD i 0)) Tryd.underlying48 info38 rfl (Le.refl _) rfl (by omega) (map_getD64 (by rw [sieve310]; omega))) ?_
    refine RunK.step rfl rfl (ok_load Tryd.underlying38 rfl rfl) ?_
    refine RunK.step rfl rfl (ok_call (Root_fn ((sieveN 310).getD i 0) 3 (sieve_pos _ _ (sieve_mem (by omega))) (sieve_lt (by omega)) (.inr rfl)) (Args.cons rfl (Le.refl _) (Args.cons rfl (Le.refl _) Args.nil))) ?_
    refine RunK.step rfl rfl (ok_move rfl) ?_
    refine RunK.step rfl rfl (ok_index0 _ Tryd.underlying26 info22 rfl rfl (rfl) (by omega)) ?_
    refine RunK.step rfl rfl (ok_loadV (s := 1000001) (by decide) Tryd.underlying22 rfl rfl rfl (map_get32 (by rw [K64_lit]; omega))) ?_
    refine RunK.step rfl rfl (ok_bin rfl rfl rfl) ?_; refine RunK.as (.bool false) (by rw [root3_get hlt]; simp) ?_
    refine RunK.nil ?_
    refine A.sub (Sub.cons (t := 1) rfl (Sub.cons (t := 2) rfl (Sub.cons (t := 3) rfl (Sub.cons (t := 4) rfl (Sub.cons (t := 26) rfl (Sub.cons (t := 1000001) rfl (Sub.cons (t := 1000002) rfl (Sub.cons (t := 1900000) rfl (Sub.cons (t := 1900001) rfl Sub.nil))))))))) ?_
    refine A.no rfl ?_
    refine A.skip ?_
    refine End.normal_block ?_
    refine End.normal_then (End.code ?_)
    refine A.reg (by kernel_rfl) (by kernel_rfl) (.inl rfl) ?_
    refine RunTK.last ?_
    refine RunK.step rfl rfl (ok_move rfl) ?_
    refine RunK.step rfl rfl (ok_bin rfl rfl rfl) ?_; refine RunK.as (.int .i64 ((i + 1 : Nat) : Int)) (by rw [wrap_i64 (by omega) (by omega)]; first | rfl | (congr 1; omega)) ?_
    refine RunK.step rfl rfl (ok_assign rfl) ?_
    refine RunK.nil ?_
    refine End.sub (Sub.cons (t := 1) rfl (Sub.cons (t := 2) rfl (Sub.cons (t := 3) rfl (Sub.cons (t := 4) rfl (Sub.cons (t := 1000001) rfl (Sub.cons (t := 1000002) rfl (Sub.cons (t := 1900000) rfl (Sub.cons (t := 1900001) rfl Sub.nil)))))))) ?_
    refine End.normal_then ?_
    refine End.again (i + 1) ?_ ?_ ?_
    · show _ ≤ _; omega
    · show _ - _ < _ - _; omega
    · exact (Sub.cons (t := 1) rfl (Sub.cons (t := 2) rfl (Sub.cons (t := 3) rfl (Sub.cons (t := 4) rfl (Sub.cons (t := 1000001) rfl (Sub.cons (t := 1000002) rfl (Sub.cons (t := 1900000) rfl (Sub.cons (t := 1900001) rfl Sub.nil))))))))
  · obtain rfl : i = 64 := by simp at hc15; omega
    refine A.exit ?_
    refine End.exit_then ?_
    refine End.exit_then ?_
    refine End.exit_here ?_
    refine End.normal_then (End.code ?_)
    refine A.seq ?_
    refine A.regs (by kernel_rfl) (by kernel_rfl) (.inl rfl) ?_
    refine RunTK.last ?_
    refine RunK.step rfl rfl (ok_assign rfl) ?_
    refine RunK.nil ?_
    refine A.sub (Sub.cons (t := 2) rfl (Sub.cons (t := 3) rfl (Sub.cons (t := 5) rfl (Sub.cons (t := 1000001) rfl (Sub.cons (t := 1000002) rfl (Sub.cons (t := 1900000) rfl (Sub.cons (t := 1900001) rfl Sub.nil))))))) ?_
    refine A.block ?_
    refine A.loop (ι := Nat) (fun i => i ≤ 8) (fun i => [(2, .v (.pointer (some ⟨b2, 0, none⟩))), (3, lst ((sieveN 310).map u64D)), (5, .v (.int .i64 (i : Int))), (1000001, blk b1 26 (K64.map u32V)), (1000002, blk b2 23 (H8.list.map u32V)), (1900000, tab 0 (H8.list.map u32V)), (1900001, tab 1 (K64.map u32V))]) (fun i => 8 - i) 0 ?_ ?_ ?_
    · exact Nat.zero_le _
    · exact (Sub.cons (t := 2) rfl (Sub.cons (t := 3) rfl (Sub.cons (t := 5) rfl (Sub.cons (t := 1000001) rfl (Sub.cons (t := 1000002) rfl (Sub.cons (t := 1900000) rfl (Sub.cons (t := 1900001) rfl Sub.nil)))))))
    intro i hi
    refine A.seq ?_
    refine A.regs (by kernel_rfl) (by kernel_rfl) (.inl rfl) ?_
    refine RunTK.last ?_
    refine RunK.step rfl rfl (ok_move rfl) ?_
    refine RunK.step rfl rfl (ok_bin rfl rfl rfl) ?_
    refine RunK.nil ?_
    refine A.sub (Sub.cons (t := 2) rfl (Sub.cons (t := 3) rfl (Sub.cons (t := 5) rfl (Sub.cons (t := 28) rfl (Sub.cons (t := 1000001) rfl (Sub.cons (t := 1000002) rfl (Sub.cons (t := 1900000) rfl (Sub.cons (t := 1900001) rfl Sub.nil)))))))) ?_
    refine A.cond rfl (fun hc28 => ?_) (fun hc28 => ?_)
    · have hlt : i < 8 := by simp at hc28; omega
      refine A.skip ?_
      refine End.normal_then (End.code ?_)
      refine A.seq ?_
      refine A.block ?_
      refine A.regs (by kernel_rfl) (by kernel_rfl) (.inr (by kernel_rfl)) ?_
      refine RunTK.last ?_
      refine RunK.step rfl rfl (ok_move rfl) ?_
      refine RunK.step rfl rfl (ok_move rfl) ?_
      refine RunK.step rfl rfl (ok_index (d := u64D ((sieveN 310).getD i 0)) Tryd.underlying48 info38 rfl (Le.refl _) rfl (by omega) (map_getD64 (by rw [sieve310]; omega))) ?_
      refine RunK.step rfl rfl (ok_load Tryd.underlying38 rfl rfl) ?_
      refine RunK.step rfl rfl (ok_call (Root_fn ((sieveN 310).getD i 0) 2 (sieve_pos _ _ (sieve_mem (by omega))) (sieve_lt (by omega)) (.inl rfl)) (Args.cons rfl (Le.refl _) (Args.cons rfl (Le.refl _) Args.nil))) ?_
      refine RunK.step rfl rfl (ok_move rfl) ?_
      refine RunK.step rfl rfl (ok_index0 _ Tryd.underlying23 info22 rfl rfl (rfl) (by omega)) ?_
      refine RunK.step rfl rfl (ok_loadV (s := 1000002) (by decide) Tryd.underlying22 rfl rfl rfl (map_get32 (by show i < 8; omega))) ?_
      refine RunK.step rfl rfl (ok_bin rfl rfl rfl) ?_; refine RunK.as (.bool false) (by rw [root2_get hlt]; simp) ?_
      refine RunK.nil ?_
      refine A.sub (Sub.cons (t := 2) rfl (Sub.cons (t := 3) rfl (Sub.cons (t := 5) rfl (Sub.cons (t := 39) rfl (Sub.cons (t := 1000001) rfl (Sub.cons (t := 1000002) rfl (Sub.cons (t := 1900000) rfl (Sub.cons (t := 1900001) rfl Sub.nil)))))))) ?_
      refine A.no rfl ?_
      refine A.skip ?_
      refine End.normal_block ?_
      refine End.normal_then (End.code ?_)
      refine A.reg (by kernel_rfl) (by kernel_rfl) (.inl rfl) ?_
      refine RunTK.last ?_
      refine RunK.step rfl rfl (ok_move rfl) ?_
      refine RunK.step rfl rfl (ok_bin rfl rfl rfl) ?_; refine RunK.as (.int .i64 ((i + 1 : Nat) : Int)) (by rw [wrap_i64 (by omega) (by omega)]; first | rfl | (congr 1; omega)) ?_
      refine RunK.step rfl rfl (ok_assign rfl) ?_
      refine RunK.nil ?_
      refine End.sub (Sub.cons (t := 2) rfl (Sub.cons (t := 3) rfl (Sub.cons (t := 5) rfl (Sub.cons (t := 1000001) rfl (Sub.cons (t := 1000002) rfl (Sub.cons (t := 1900000) rfl (Sub.cons (t := 1900001) rfl Sub.nil))))))) ?_
      refine End.normal_then ?_
      refine End.again (i + 1) ?_ ?_ ?_
      · show _ ≤ _; omega
      · show _ - _ < _ - _; omega
      · exact (Sub.cons (t := 2) rfl (Sub.cons (t := 3) rfl (Sub.cons (t := 5) rfl (Sub.cons (t := 1000001) rfl (Sub.cons (t := 1000002) rfl (Sub.cons (t := 1900000) rfl (Sub.cons (t := 1900001) rfl Sub.nil)))))))
    · obtain rfl : i = 8 := by simp at hc28; omega
      refine A.exit ?_
      refine End.exit_then ?_
      refine End.exit_then ?_
      refine End.exit_here ?_
      refine End.normal_then (End.code ?_)
      refine A.regs (by kernel_rfl) (by kernel_rfl) (.inl rfl) ?_
      refine RunTK.last ?_
      refine RunK.step rfl rfl (ok_make 130 Tryd.underlying30 info5 (by decide) rfl rfl rfl rfl rfl (by decide)) ?_
      refine RunK.step rfl rfl (ok_assign rfl) ?_
      refine RunK.nil ?_
      refine A.sub (Sub.cons (t := 2) rfl (Sub.cons (t := 6) rfl (Sub.cons (t := 1000001) rfl (Sub.cons (t := 1000002) rfl (Sub.cons (t := 1900000) rfl (Sub.cons (t := 1900001) rfl Sub.nil)))))) ?_
      refine A.open (t := 6) (k := 1000096) rfl fun g hBg => ?_
      refine A.seq ?_
      refine A.regs (by kernel_rfl) (by kernel_rfl) (.inl rfl) ?_
      refine RunTK.last ?_
      refine RunK.step rfl rfl (ok_assign rfl) ?_
      refine RunK.nil ?_
      refine A.sub (Sub.cons (t := 2) rfl (Sub.cons (t := 6) rfl (Sub.cons (t := 7) rfl (Sub.cons (t := 1000001) rfl (Sub.cons (t := 1000002) rfl (Sub.cons (t := 1000096) rfl (Sub.cons (t := 1900000) rfl (Sub.cons (t := 1900001) rfl Sub.nil)))))))) ?_
      refine A.block ?_
      refine A.loop (ι := (Nat × List UInt8)) (fun s => s.1 ≤ 131 ∧ s.2.length = 130) (fun s => [(2, .v (.pointer (some ⟨b2, 0, none⟩))), (6, .v (.slice (some ⟨g, 0, none⟩) 130 130)), (7, .v (.int .i64 (s.1 : Int))), (1000002, blk b2 23 (H8.list.map u32V)), (1000096, blk g 5 (s.2.map byteV)), (1900000, tab 0 (H8.list.map u32V)), (1900001, tab 1 (K64.map u32V))]) (fun s => 131 - s.1) (0, List.replicate 130 0) ?_ ?_ ?_
      · exact ⟨by decide, by simp⟩
      · exact (Sub.cons (t := 2) rfl (Sub.eq (t := 6) _ rfl (by simp) (Sub.cons (t := 7) rfl (Sub.cons (t := 1000002) rfl (Sub.eq (t := 1000096) _ rfl (by simp [byteV]) (Sub.cons (t := 1900000) rfl (Sub.cons (t := 1900001) rfl Sub.nil)))))))
      intro s hs
      obtain ⟨hs1, hs2⟩ := hs
      refine A.seq ?_
      refine A.regs (by kernel_rfl) (by kernel_rfl) (.inl rfl) ?_
      refine RunTK.last ?_
      refine RunK.step rfl rfl (ok_move rfl) ?_
      refine RunK.step rfl rfl (ok_bin rfl rfl rfl) ?_
      refine RunK.nil ?_
      refine A.sub (Sub.cons (t := 2) rfl (Sub.cons (t := 6) rfl (Sub.cons (t := 7) rfl (Sub.cons (t := 42) rfl (Sub.cons (t := 1000002) rfl (Sub.cons (t := 1000096) rfl (Sub.cons (t := 1900000) rfl (Sub.cons (t := 1900001) rfl Sub.nil)))))))) ?_
      refine A.cond rfl (fun hc42 => ?_) (fun hc42 => ?_)
      · have hn : s.1 < 131 := by simp at hc42; omega
        refine A.skip ?_
        refine End.normal_then (End.code ?_)
        refine A.seq ?_
        refine A.block ?_
        refine A.seq ?_
        refine A.regs (by kernel_rfl) (by kernel_rfl) (.inl rfl) ?_
        refine RunTK.last ?_
        refine RunK.step rfl rfl (ok_assign rfl) ?_
        refine RunK.nil ?_
        refine A.sub (Sub.cons (t := 2) rfl (Sub.cons (t := 6) rfl (Sub.cons (t := 7) rfl (Sub.cons (t := 8) rfl (Sub.cons (t := 1000002) rfl (Sub.cons (t := 1000096) rfl (Sub.cons (t := 1900000) rfl (Sub.cons (t := 1900001) rfl Sub.nil)))))))) ?_
        refine A.block ?_
        refine A.loop (ι := (Nat × List UInt8)) (fun r => r.1 ≤ s.1 ∧ r.2.length = 130) (fun r => [(2, .v (.pointer (some ⟨b2, 0, none⟩))), (6, .v (.slice (some ⟨g, 0, none⟩) 130 130)), (7, .v (.int .i64 (s.1 : Int))), (8, .v (.int .i64 (r.1 : Int))), (1000002, blk b2 23 (H8.list.map u32V)), (1000096, blk g 5 (r.2.map byteV)), (1900000, tab 0 (H8.list.map u32V)), (1900001, tab 1 (K64.map u32V))]) (fun r => s.1 - r.1) (0, s.2) ?_ ?_ ?_
        · exact ⟨Nat.zero_le _, hs2⟩
        · exact (Sub.cons (t := 2) rfl (Sub.cons (t := 6) rfl (Sub.cons (t := 7) rfl (Sub.cons (t := 8) rfl (Sub.cons (t := 1000002) rfl (Sub.cons (t := 1000096) rfl (Sub.cons (t := 1900000) rfl (Sub.cons (t := 1900001) rfl Sub.nil))))))))
        intro r hr
        obtain ⟨hr1, hr2⟩ := hr
        refine A.seq ?_
        refine A.regs (by kernel_rfl) (by kernel_rfl) (.inl rfl) ?_
        refine RunTK.last ?_
        refine RunK.step rfl rfl (ok_move rfl) ?_
        refine RunK.step rfl rfl (ok_move rfl) ?_
        refine RunK.step rfl rfl (ok_bin rfl rfl rfl) ?_
        refine RunK.nil ?_
        refine A.sub (Sub.cons (t := 2) rfl (Sub.cons (t := 6) rfl (Sub.cons (t := 7) rfl (Sub.cons (t := 8) rfl (Sub.cons (t := 47) rfl (Sub.cons (t := 1000002) rfl (Sub.cons (t := 1000096) rfl (Sub.cons (t := 1900000) rfl (Sub.cons (t := 1900001) rfl Sub.nil))))))))) ?_
        refine A.cond rfl (fun hc47 => ?_) (fun hc47 => ?_)
        · have hlt : r.1 < s.1 := by simp at hc47; omega
          refine A.skip ?_
          refine End.normal_then (End.code ?_)
          refine A.seq ?_
          refine A.block ?_
          refine A.reg (by kernel_rfl) (by kernel_rfl) (.inl rfl) ?_
          refine RunTK.eff 8 (by decide) rfl (.inl rfl) ?_
          refine RunK.step rfl rfl (ok_move rfl) ?_
          refine RunK.step rfl rfl (ok_move rfl) ?_
          refine RunK.step rfl rfl (ok_move rfl) ?_
          refine RunK.step rfl rfl (ok_bin rfl rfl rfl) ?_; refine RunK.as (.int .i64 ((7 * r.1 : Nat) : Int)) (by rw [wrap_i64 (by omega) (by omega)]; first | rfl | (congr 1; omega)) ?_
          refine RunK.step rfl rfl (ok_move rfl) ?_
          refine RunK.step rfl rfl (ok_bin rfl rfl rfl) ?_; refine RunK.as (.int .i64 ((7 * r.1 + s.1 : Nat) : Int)) (by rw [wrap_i64 (by omega) (by omega)]; first | rfl | (congr 1; omega)) ?_
          refine RunK.step rfl rfl (ok_conv Tryd.underlying3 Tryd.underlying5 rfl) ?_; refine RunK.as (byteV (UInt8.ofNat (7 * r.1 + s.1))) (by rw [wrap_u8_nat]; rfl) ?_
          refine RunK.step rfl rfl (ok_indexV r.1 Tryd.underlying30 info5 rfl rfl rfl (by omega)) ?_
          refine RunK.nil ?_
          refine ⟨_, eff_storeS (n := 76) (s := 1000096) info5 rfl rfl rfl hBg rfl (by simp; omega) (LeftS.cons (t := 2) rfl (Surv.v _) (LeftS.cons (t := 6) rfl (Surv.v _) (LeftS.cons (t := 7) rfl (Surv.v _) (LeftS.cons (t := 8) rfl (Surv.v _) (LeftS.cons (t := 47) rfl (Surv.v _) (LeftS.cons (t := 50) rfl (Surv.v _) (LeftS.cons (t := 51) rfl (Surv.v _) (LeftS.cons (t := 52) rfl (Surv.v _) (LeftS.cons (t := 53) rfl (Surv.v _) (LeftS.cons (t := 54) rfl (Surv.v _) (LeftS.cons (t := 55) rfl (Surv.v _) (LeftS.cons (t := 56) rfl (Surv.v _) (LeftS.cons (t := 57) rfl (Surv.v _) (LeftS.cons (t := 1000002) rfl (Surv.blkT (by decide)) (LeftS.cons (t := 1900000) rfl (Surv.tab (by omega)) (LeftS.cons (t := 1900001) rfl (Surv.tab (by omega)) LeftS.nil)))))))))))))))), ?_⟩
          refine RunTK.last ?_
          refine RunK.nil ?_
          refine End.sub (Sub.cons (t := 2) rfl (Sub.cons (t := 6) rfl (Sub.cons (t := 7) rfl (Sub.cons (t := 8) rfl (Sub.cons (t := 1000002) rfl (Sub.cons (t := 1000096) rfl (Sub.cons (t := 1900000) rfl (Sub.cons (t := 1900001) rfl Sub.nil)))))))) ?_
          refine End.normal_block ?_
          refine End.normal_then (End.code ?_)
          refine A.reg (by kernel_rfl) (by kernel_rfl) (.inl rfl) ?_
          refine RunTK.last ?_
          refine RunK.step rfl rfl (ok_move rfl) ?_
          refine RunK.step rfl rfl (ok_bin rfl rfl rfl) ?_; refine RunK.as (.int .i64 ((r.1 + 1 : Nat) : Int)) (by rw [wrap_i64 (by omega) (by omega)]; first | rfl | (congr 1; omega)) ?_
          refine RunK.step rfl rfl (ok_assign rfl) ?_
          refine RunK.nil ?_
          refine End.sub (Sub.cons (t := 2) rfl (Sub.cons (t := 6) rfl (Sub.cons (t := 7) rfl (Sub.cons (t := 8) rfl (Sub.cons (t := 1000002) rfl (Sub.cons (t := 1000096) rfl (Sub.cons (t := 1900000) rfl (Sub.cons (t := 1900001) rfl Sub.nil)))))))) ?_
          refine End.normal_then ?_
          refine End.again (r.1 + 1, r.2.set r.1 (UInt8.ofNat (7 * r.1 + s.1))) ?_ ?_ ?_
          · show _ ∧ _; simp; omega
          · show _ - _ < _ - _; omega
          · exact (Sub.cons (t := 2) rfl (Sub.cons (t := 6) rfl (Sub.cons (t := 7) rfl (Sub.cons (t := 8) rfl (Sub.cons (t := 1000002) rfl (Sub.eq (t := 1000096) _ rfl (by rw [Nat.zero_add, ← List.map_set]) (Sub.cons (t := 1900000) rfl (Sub.cons (t := 1900001) rfl Sub.nil))))))))
        · refine A.exit ?_
          refine End.exit_then ?_
          refine End.exit_then ?_
          refine End.exit_here ?_
          refine End.normal_then (End.code ?_)
          refine A.regs (by kernel_rfl) (by kernel_rfl) (.inl rfl) ?_
          refine RunTK.last ?_
          refine RunK.step rfl rfl (ok_moveB (s := 1000096) r.2 (by decide) rfl rfl (by omega) (by omega) (by decide) (by rw [List.drop_zero, List.take_of_length_le (by simp; omega)])) ?_
          refine RunK.step rfl rfl (ok_move rfl) ?_
          refine RunK.step rfl rfl ((ok_slice (ds := r.2.map byteD) 0 s.1 Tryd.underlying30 info5 rfl (Le.refl _) (.inr ⟨rfl, rfl⟩) (.inl ⟨_, _, rfl, rfl⟩) (by omega) (by simp; omega)).le (d' := byt (r.2.take s.1)) (Le.eq (by rw [List.drop_zero, ← List.map_take]; rfl))) ?_
          refine RunK.step rfl rfl (ok_callM (DigestsOf_fn (r.2.take s.1)) (Sub.cons rfl (Sub.cons rfl Sub.nil)) tabs_v (Args.cons rfl (by first | exact Le.refl _ | exact Le.old _ _ | exact le_byt _ _ | exact (Le.old _ _).trans (le_byt _ _) | exact le_lst _ _ | exact (Le.old _ _).trans (le_lst _ _) | exact (Le.old _ _).trans (Le.old _ _) | exact (Le.old _ _).trans ((Le.old _ _).trans (le_byt _ _)) | exact byt_nil_le | exact lst_nil_le | exact bytes_nil_le | exact list_nil_le) Args.nil)) ?_
          refine RunK.step rfl rfl (ok_not rfl) ?_; refine RunK.as (.bool false) (by rfl) ?_
          refine RunK.nil ?_
          refine A.sub (Sub.cons (t := 2) rfl (Sub.cons (t := 6) rfl (Sub.cons (t := 7) rfl (Sub.cons (t := 62) rfl (Sub.cons (t := 1000002) rfl (Sub.cons (t := 1000096) rfl (Sub.cons (t := 1900000) rfl (Sub.cons (t := 1900001) rfl Sub.nil)))))))) ?_
          refine A.no rfl ?_
          refine A.skip ?_
          refine End.normal_block ?_
          refine End.normal_then (End.code ?_)
          refine A.reg (by kernel_rfl) (by kernel_rfl) (.inl rfl) ?_
          refine RunTK.last ?_
          refine RunK.step rfl rfl (ok_move rfl) ?_
          refine RunK.step rfl rfl (ok_bin rfl rfl rfl) ?_; refine RunK.as (.int .i64 ((s.1 + 1 : Nat) : Int)) (by rw [wrap_i64 (by omega) (by omega)]; first | rfl | (congr 1; omega)) ?_
          refine RunK.step rfl rfl (ok_assign rfl) ?_
          refine RunK.nil ?_
          refine End.sub (Sub.cons (t := 2) rfl (Sub.cons (t := 6) rfl (Sub.cons (t := 7) rfl (Sub.cons (t := 1000002) rfl (Sub.cons (t := 1000096) rfl (Sub.cons (t := 1900000) rfl (Sub.cons (t := 1900001) rfl Sub.nil))))))) ?_
          refine End.normal_then ?_
          refine End.again (s.1 + 1, r.2) ?_ ?_ ?_
          · show _ ∧ _; exact ⟨by omega, by omega⟩
          · show _ - _ < _ - _; omega
          · exact (Sub.cons (t := 2) rfl (Sub.cons (t := 6) rfl (Sub.cons (t := 7) rfl (Sub.cons (t := 1000002) rfl (Sub.cons (t := 1000096) rfl (Sub.cons (t := 1900000) rfl (Sub.cons (t := 1900001) rfl Sub.nil)))))))
      · refine A.exit ?_
        refine End.exit_then ?_
        refine End.exit_then ?_
        refine End.exit_here ?_
        refine End.normal_then (End.code ?_)
        refine A.regs (by kernel_rfl) (by kernel_rfl) (.inl rfl) ?_
        refine RunTK.last ?_
        refine RunK.step rfl rfl (ok_lit [] (List.replicate 8 (.int .u32 0) ++ List.replicate 64 (.int .u8 0) ++ [.int .u64 0]) (fun _ _ => rfl) (by kernel_rfl)) ?_
        refine RunK.step rfl rfl (ok_callM (Sum_fn [] (by decide)) (Sub.cons rfl (Sub.cons rfl Sub.nil)) tabs_v (Args.cons rfl (Le.refl _) Args.nil)) ?_
        refine RunK.step rfl rfl (ok_build [.v (.slice none 0 0)] Tryd.underlying45 info30 rfl (by decide) (by decide) rfl ⟨rfl, rfl, trivial⟩ (fun d hd w x h => by simp only [List.mem_cons, List.not_mem_nil, or_false] at hd; subst hd; exact v_one rfl h)) ?_
        refine RunK.step rfl rfl (ok_callM (Of_fn [[]] [] rfl (by decide) (by decide)) (Sub.cons rfl (Sub.cons rfl Sub.nil)) tabs_v (Args.cons rfl (list_lst1 byt_nil_le) Args.nil)) ?_
        refine RunK.step rfl rfl (ok_eqlA Tryd.underlying35 Tryd.underlying5 info5 (by kernel_rfl) rfl rfl rfl (by rw [List.length_map, sha_length]) (ints_u8 _)) ?_
        refine RunK.step rfl rfl (ok_move rfl) ?_
        refine RunK.guarded rfl rfl rfl rfl (ok_loadA (s := 1000002) (by decide) Tryd.underlying23 rfl (size23.of (R8.size _)) rfl rfl) ?_
        refine RunK.guarded rfl rfl rfl rfl (ok_litP [_] Tryd.underlying24 info5 zero24 (by decide) ⟨rfl, rfl, trivial⟩ rfl) ?_; refine RunK.as (aggV ((128 :: List.replicate 63 0 : List UInt8).map byteV)) (by rfl) ?_
        refine RunK.guarded rfl rfl rfl rfl (ok_callM (DigestsCompress_fn H8 (128 :: List.replicate 63 0) (by decide)) (Sub.cons rfl (Sub.cons rfl Sub.nil)) tabs_v (Args.cons rfl (by first | exact Le.refl _ | exact Le.old _ _ | exact le_byt _ _ | exact (Le.old _ _).trans (le_byt _ _) | exact le_lst _ _ | exact (Le.old _ _).trans (le_lst _ _) | exact (Le.old _ _).trans (Le.old _ _) | exact (Le.old _ _).trans ((Le.old _ _).trans (le_byt _ _)) | exact byt_nil_le | exact lst_nil_le | exact bytes_nil_le | exact list_nil_le) (Args.cons rfl (by first | exact Le.refl _ | exact Le.old _ _ | exact le_byt _ _ | exact (Le.old _ _).trans (le_byt _ _) | exact le_lst _ _ | exact (Le.old _ _).trans (le_lst _ _) | exact (Le.old _ _).trans (Le.old _ _) | exact (Le.old _ _).trans ((Le.old _ _).trans (le_byt _ _)) | exact byt_nil_le | exact lst_nil_le | exact bytes_nil_le | exact list_nil_le) Args.nil))) ?_
        refine RunK.step rfl rfl (ok_pick rfl rfl) ?_; refine RunK.as (.bool true) (by rfl) ?_
        refine RunK.step rfl rfl (ok_move rfl) ?_
        refine RunK.guarded rfl rfl rfl rfl (ok_callM lives_fn (Sub.cons rfl (Sub.cons rfl Sub.nil)) tabs_v Args.nil) ?_
        refine RunK.step rfl rfl (ok_pick rfl rfl) ?_; refine RunK.as (.bool true) (by rfl) ?_
        refine RunK.step rfl rfl (ok_assign rfl) ?_
        refine RunK.nil ?_
        refine A.sub (Sub.cons (t := 0) rfl (Sub.cons (t := 1000002) rfl (Sub.cons (t := 1000096) rfl (Sub.cons (t := 1900000) rfl (Sub.cons (t := 1900001) rfl Sub.nil))))) ?_
        refine A.ret ?_
        exact End.ret1 rfl rfl (by first | exact Le.refl _ | exact Le.old _ _)
end Go.Proofs.YtlnnhlgfomklcaaDoor
