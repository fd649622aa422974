/-
  Package digests by facts, part five: Of; and the functions is and lives of the statements' package.
-/
import Derived.Test.YtlnnhlgfomklcaaDoorC02j
import Derived.Test.YtlnnhlgfomklcaaDoorEq
import Derived.Test.YtlnnhlgfomklcaaDoorMark
namespace Go.Proofs.YtlnnhlgfomklcaaDoor
open Go Go.RowKit
set_option linter.unusedVariables false

theorem refPut32_fnP (v : Int) (hv0 : 0 ≤ v) (hv : v < 4294967296) : Fn Tryd.prog 26 [.v (.int .u32 v)] (bytes (be 4 v.toNat) 4) :=
  (refPut32_fnB v hv0 hv).fn fun _ => fresh_bytes (be_length _ _).symm (by decide)
set_option maxHeartbeats 400000 in
theorem Of_fn (ps : List (List UInt8)) (l : List UInt8) (hl : ps.flatten = l) (hps : ps.length ≤ 1000000) (htot : l.length ≤ 1000000) : FnM Tryd.prog 13 tabs [lst (ps.map byt)] (.v (aggV ((sha l).map byteV))) := by
  subst hl
  refine FnM.of Tryd.func13 rfl (by kernel_rfl) Tryd.ntmps13 (by simp) (by decide) (fun w => [(0, old w.heap.size (lst (ps.map byt))), (1900000, tab 0 (H8.list.map u32V)), (1900001, tab 1 (K64.map u32V))]) (fun w => (StartM.old rfl (StartM.m (by simp [tabs]) (by decide) (StartM.m (by simp [tabs]) (by decide) StartM.nil)))) fun w₀ hM => ?_
  have htab := tabs_hi hM
  refine A.regs (by kernel_rfl) (by kernel_rfl) (.inl rfl) ?_
  refine RunTK.new 0 (by decide) rfl (.inl rfl) ?_
  refine RunK.nil ?_
  refine ⟨_, _, eff_alloc (n := 19) (d := 2) (k := 1000002) zero35 (by decide), fun b2 hb2 => ?_⟩
  have hBb2 := hb2.1
  refine RunTK.last ?_
  refine RunK.nil ?_
  refine A.sub (Sub.cons (t := 0) rfl (Sub.cons (t := 2) rfl (Sub.cons (t := 1000002) rfl (Sub.cons (t := 1900000) rfl (Sub.cons (t := 1900001) rfl Sub.nil))))) ?_
  refine A.regs (by kernel_rfl) (by kernel_rfl) (.inl rfl) ?_
  refine RunTK.new 1 (by decide) rfl (.inl rfl) ?_
  refine RunK.step rfl rfl (ok_call New_fn Args.nil) ?_
  refine RunK.nil ?_
  refine ⟨_, _, eff_alloc (n := 19) (d := 3) (k := 1000003) zero40 (by decide), fun b3 hb3 => ?_⟩
  have hBb3 := hb3.1
  have hlt_b2_b3 : b2 < b3 := hb3.2 1000002 _ _ _ rfl
  refine RunTK.eff 2 (by decide) rfl (.inl rfl) ?_
  refine RunK.nil ?_
  refine ⟨_, eff_storeA (n := 19) (s := 1000003) (size40.of (stL_length _)) rfl rfl (stL_ones _) hBb3 rfl (by first | exact (stL_length _).trans (stL_length _).symm | exact (stL_length _).symm) (LeftS.cons (t := 0) rfl (Surv.old (by omega)) (LeftS.cons (t := 2) rfl (Surv.v _) (LeftS.cons (t := 3) rfl (Surv.v _) (LeftS.cons (t := 6) rfl (Surv.v _) (LeftS.cons (t := 1000002) rfl (Surv.blkT (by decide)) (LeftS.cons (t := 1900000) rfl (Surv.tab (by omega)) (LeftS.cons (t := 1900001) rfl (Surv.tab (by omega)) LeftS.nil))))))), ?_⟩
  refine RunTK.last ?_
  refine RunK.nil ?_
  refine A.sub (Sub.cons (t := 0) rfl (Sub.cons (t := 2) rfl (Sub.cons (t := 3) rfl (Sub.cons (t := 1000002) rfl (Sub.cons (t := 1000003) rfl (Sub.cons (t := 1900000) rfl (Sub.cons (t := 1900001) rfl Sub.nil))))))) ?_
  refine A.seq ?_
  refine A.regs (by kernel_rfl) (by kernel_rfl) (.inl rfl) ?_
  refine RunTK.last ?_
  refine RunK.step rfl rfl (ok_move rfl) ?_
  refine RunK.step rfl rfl (ok_len Tryd.underlying45 rfl (by first | exact Le.refl _ | exact Le.old _ _ | exact le_byt _ _ | exact (Le.old _ _).trans (le_byt _ _) | exact le_lst _ _ | exact (Le.old _ _).trans (le_lst _ _) | exact (Le.old _ _).trans (Le.old _ _) | exact (Le.old _ _).trans ((Le.old _ _).trans (le_byt _ _)) | exact byt_nil_le | exact lst_nil_le | exact bytes_nil_le | exact list_nil_le)) ?_; refine RunK.as (.int .i64 (ps.length : Int)) (by simp) ?_
  refine RunK.step rfl rfl (ok_move rfl) ?_
  refine RunK.nil ?_
  refine A.sub (Sub.cons (t := 2) rfl (Sub.cons (t := 3) rfl (Sub.cons (t := 7) rfl (Sub.cons (t := 8) rfl (Sub.cons (t := 9) rfl (Sub.cons (t := 1000002) rfl (Sub.cons (t := 1000003) rfl (Sub.cons (t := 1900000) rfl (Sub.cons (t := 1900001) rfl Sub.nil))))))))) ?_
  refine A.block ?_
  refine A.loop (ι := Nat) (fun i => i ≤ ps.length) (fun i => [(2, .v (.pointer (some ⟨b2, 0, none⟩))), (3, .v (.pointer (some ⟨b3, 0, none⟩))), (7, old w₀.heap.size (lst (ps.map byt))), (8, .v (.int .i64 (ps.length : Int))), (9, .v (.int .i64 (i : Int))), (1000002, blk b2 35 (List.replicate 32 (.int .u8 0))), (1000003, blk b3 40 (stL ((ps.take i).flatten))), (1900000, tab 0 (H8.list.map u32V)), (1900001, tab 1 (K64.map u32V))]) (fun i => ps.length - i) 0 ?_ ?_ ?_
  · exact Nat.zero_le _
  · exact (Sub.cons (t := 2) rfl (Sub.cons (t := 3) rfl (Sub.cons (t := 7) rfl (Sub.cons (t := 8) rfl (Sub.cons (t := 9) rfl (Sub.cons (t := 1000002) rfl (Sub.cons (t := 1000003) rfl (Sub.cons (t := 1900000) rfl (Sub.cons (t := 1900001) rfl Sub.nil)))))))))
  intro i hi
  refine A.regs (by kernel_rfl) (by kernel_rfl) (.inl rfl) ?_
  refine RunTK.last ?_
  refine RunK.step rfl rfl (ok_bin rfl rfl rfl) ?_
  refine RunK.nil ?_
  refine A.sub (Sub.cons (t := 2) rfl (Sub.cons (t := 3) rfl (Sub.cons (t := 7) rfl (Sub.cons (t := 8) rfl (Sub.cons (t := 9) rfl (Sub.cons (t := 10) rfl (Sub.cons (t := 1000002) rfl (Sub.cons (t := 1000003) rfl (Sub.cons (t := 1900000) rfl (Sub.cons (t := 1900001) rfl Sub.nil)))))))))) ?_
  refine A.seq ?_
  refine A.cond rfl (fun hc10 => ?_) (fun hc10 => ?_)
  · have hlt : i < ps.length := by simpa using hc10
    have hget : ps[i]? = some ps[i] := List.getElem?_eq_getElem hlt
    have hT := flatten_take_le ps (i + 1)
    rw [flatten_take_succ hget, List.length_append] at hT
    refine A.skip ?_
    refine End.normal_then (End.code ?_)
    refine A.seq ?_
    refine A.block ?_
    refine A.regs (by kernel_rfl) (by kernel_rfl) (.inl rfl) ?_
    refine RunTK.last ?_
    refine RunK.step rfl rfl (ok_index (d := byt ps[i]) Tryd.underlying45 info30 rfl (by first | exact Le.refl _ | exact Le.old _ _ | exact le_byt _ _ | exact (Le.old _ _).trans (le_byt _ _) | exact le_lst _ _ | exact (Le.old _ _).trans (le_lst _ _) | exact (Le.old _ _).trans (Le.old _ _) | exact (Le.old _ _).trans ((Le.old _ _).trans (le_byt _ _)) | exact byt_nil_le | exact lst_nil_le | exact bytes_nil_le | exact list_nil_le) rfl (by omega) (by simp [hlt])) ?_
    refine RunK.step rfl rfl (ok_load Tryd.underlying30 rfl rfl) ?_
    refine RunK.step rfl rfl (ok_assign rfl) ?_
    refine RunK.nil ?_
    refine A.sub (Sub.cons (t := 2) rfl (Sub.cons (t := 3) rfl (Sub.cons (t := 5) rfl (Sub.cons (t := 7) rfl (Sub.cons (t := 8) rfl (Sub.cons (t := 9) rfl (Sub.cons (t := 1000002) rfl (Sub.cons (t := 1000003) rfl (Sub.cons (t := 1900000) rfl (Sub.cons (t := 1900001) rfl Sub.nil)))))))))) ?_
    refine A.reg (by kernel_rfl) (by kernel_rfl) (.inl rfl) ?_
    refine RunTK.eff 3 (by decide) rfl (.inl rfl) ?_
    refine RunK.step rfl rfl (ok_loadA (s := 1000003) (by decide) Tryd.underlying40 rfl (size40.of (stL_length _)) rfl rfl) ?_
    refine RunK.step rfl rfl (ok_move rfl) ?_
    refine RunK.step rfl rfl (ok_callM (Write_fn ((ps.take i).flatten) ps[i] (by omega)) (Sub.cons rfl (Sub.cons rfl Sub.nil)) tabs_v (Args.cons rfl (by first | exact Le.refl _ | exact Le.old _ _ | exact le_byt _ _ | exact (Le.old _ _).trans (le_byt _ _) | exact le_lst _ _ | exact (Le.old _ _).trans (le_lst _ _) | exact (Le.old _ _).trans (Le.old _ _) | exact (Le.old _ _).trans ((Le.old _ _).trans (le_byt _ _)) | exact byt_nil_le | exact lst_nil_le | exact bytes_nil_le | exact list_nil_le) (Args.cons rfl (by first | exact Le.refl _ | exact Le.old _ _ | exact le_byt _ _ | exact (Le.old _ _).trans (le_byt _ _) | exact le_lst _ _ | exact (Le.old _ _).trans (le_lst _ _) | exact (Le.old _ _).trans (Le.old _ _) | exact (Le.old _ _).trans ((Le.old _ _).trans (le_byt _ _)) | exact byt_nil_le | exact lst_nil_le | exact bytes_nil_le | exact list_nil_le) Args.nil))) ?_; refine RunK.as (aggV (stL ((ps.take (i + 1)).flatten))) (by rw [flatten_take_succ hget]; rfl) ?_
    refine RunK.nil ?_
    refine ⟨_, eff_storeA (n := 19) (s := 1000003) (size40.of (stL_length _)) rfl rfl (stL_ones _) hBb3 rfl (by first | exact (stL_length _).trans (stL_length _).symm | exact (stL_length _).symm) (LeftS.cons (t := 2) rfl (Surv.v _) (LeftS.cons (t := 3) rfl (Surv.v _) (LeftS.cons (t := 7) rfl (Surv.old (by omega)) (LeftS.cons (t := 8) rfl (Surv.v _) (LeftS.cons (t := 9) rfl (Surv.v _) (LeftS.cons (t := 13) rfl (Surv.v _) (LeftS.cons (t := 15) rfl (Surv.v _) (LeftS.cons (t := 1000002) rfl (Surv.blkT (by decide)) (LeftS.cons (t := 1900000) rfl (Surv.tab (by omega)) (LeftS.cons (t := 1900001) rfl (Surv.tab (by omega)) LeftS.nil)))))))))), ?_⟩
    refine RunTK.last ?_
    refine RunK.nil ?_
    refine End.sub (Sub.cons (t := 2) rfl (Sub.cons (t := 3) rfl (Sub.cons (t := 7) rfl (Sub.cons (t := 8) rfl (Sub.cons (t := 9) rfl (Sub.cons (t := 1000002) rfl (Sub.cons (t := 1000003) rfl (Sub.cons (t := 1900000) rfl (Sub.cons (t := 1900001) rfl Sub.nil))))))))) ?_
    refine End.normal_block ?_
    refine End.normal_then (End.code ?_)
    refine A.reg (by kernel_rfl) (by kernel_rfl) (.inl rfl) ?_
    refine RunTK.last ?_
    refine RunK.step rfl rfl (ok_bin rfl rfl rfl) ?_; refine RunK.as (.int .i64 ((i + 1 : Nat) : Int)) (by rw [wrap_i64 (by omega) (by omega)]; first | rfl | (congr 1; omega)) ?_
    refine RunK.step rfl rfl (ok_move rfl) ?_
    refine RunK.nil ?_
    refine End.sub (Sub.cons (t := 2) rfl (Sub.cons (t := 3) rfl (Sub.cons (t := 7) rfl (Sub.cons (t := 8) rfl (Sub.cons (t := 9) rfl (Sub.cons (t := 1000002) rfl (Sub.cons (t := 1000003) rfl (Sub.cons (t := 1900000) rfl (Sub.cons (t := 1900001) rfl Sub.nil))))))))) ?_
    refine End.normal_then ?_
    refine End.again (i + 1) ?_ ?_ ?_
    · show _ ≤ _; omega
    · show _ - _ < _ - _; omega
    · exact (Sub.cons (t := 2) rfl (Sub.cons (t := 3) rfl (Sub.cons (t := 7) rfl (Sub.cons (t := 8) rfl (Sub.cons (t := 9) rfl (Sub.cons (t := 1000002) rfl (Sub.cons (t := 1000003) rfl (Sub.cons (t := 1900000) rfl (Sub.cons (t := 1900001) rfl Sub.nil)))))))))
  · have hi2 : i = ps.length := by simp at hc10; omega
    subst hi2
    refine A.exit ?_
    refine End.exit_then ?_
    refine End.exit_then ?_
    refine End.exit_here ?_
    refine End.normal_then (End.code ?_)
    refine A.regs (by kernel_rfl) (by kernel_rfl) (.inl rfl) ?_
    refine RunTK.eff 2 (by decide) rfl (.inl rfl) ?_
    refine RunK.step rfl rfl (ok_loadA (s := 1000003) (by decide) Tryd.underlying40 rfl (size40.of (stL_length _)) rfl rfl) ?_; refine RunK.as (stV ps.flatten) (by rw [List.take_length]; rfl) ?_
    refine RunK.step rfl rfl (ok_callM (Sum_fn ps.flatten htot) (Sub.cons rfl (Sub.cons rfl Sub.nil)) tabs_v (Args.cons rfl (by first | exact Le.refl _ | exact Le.old _ _ | exact le_byt _ _ | exact (Le.old _ _).trans (le_byt _ _) | exact le_lst _ _ | exact (Le.old _ _).trans (le_lst _ _) | exact (Le.old _ _).trans (Le.old _ _) | exact (Le.old _ _).trans ((Le.old _ _).trans (le_byt _ _)) | exact byt_nil_le | exact lst_nil_le | exact bytes_nil_le | exact list_nil_le) Args.nil)) ?_
    refine RunK.nil ?_
    refine ⟨_, eff_storeA (n := 19) (s := 1000002) (size35.of (by rw [List.length_map, sha_length])) rfl rfl (all_bytes _) hBb2 rfl (by rw [List.length_map, sha_length, List.length_replicate]) (LeftS.cons (t := 2) rfl (Surv.v _) (LeftS.cons (t := 3) rfl (Surv.v _) (LeftS.cons (t := 7) rfl (Surv.old (by omega)) (LeftS.cons (t := 8) rfl (Surv.v _) (LeftS.cons (t := 9) rfl (Surv.v _) (LeftS.cons (t := 10) rfl (Surv.v _) (LeftS.cons (t := 17) rfl (Surv.v _) (LeftS.cons (t := 18) rfl (Surv.v _) (LeftS.cons (t := 1000003) rfl (Surv.blkT (by decide)) (LeftS.cons (t := 1900000) rfl (Surv.tab (by omega)) (LeftS.cons (t := 1900001) rfl (Surv.tab (by omega)) LeftS.nil))))))))))), ?_⟩
    refine RunTK.last ?_
    refine RunK.nil ?_
    refine A.sub (Sub.cons (t := 2) rfl (Sub.cons (t := 1000002) rfl (Sub.cons (t := 1000003) rfl (Sub.cons (t := 1900000) rfl (Sub.cons (t := 1900001) rfl Sub.nil))))) ?_
    refine A.ret ?_
    exact End.cell1 (s := 1000002) rfl Tryd.underlying35 rfl (size35.of (by rw [List.length_map, sha_length])) rfl rfl (Le.refl _)
theorem is_fn (l : List UInt8) : Fn Tryd.prog 24 [.v (aggV ((sha l).map byteV)), .v (aggV ((shaR l).list.map u32V))] (.v (.bool true)) := by
  refine Fn.of Tryd.func24 rfl (by kernel_rfl) Tryd.ntmps24 (by simp) (fun w => [(0, .v (aggV ((sha l).map byteV))), (1, .v (aggV ((shaR l).list.map u32V)))]) (fun w => (Start.v rfl (Start.v rfl Start.nil))) fun w₀ => ?_
  refine A.regs (by kernel_rfl) (by kernel_rfl) (.inl rfl) ?_
  refine RunTK.new 0 (by decide) rfl (.inl rfl) ?_
  refine RunK.nil ?_
  refine ⟨_, _, eff_box (n := 23) (d := 2) (k := 1000002) rfl (by decide), fun b2 hb2 => ?_⟩
  have hBb2 := hb2.1
  refine RunTK.new 1 (by decide) rfl (.inl rfl) ?_
  refine RunK.nil ?_
  refine ⟨_, _, eff_box (n := 23) (d := 3) (k := 1000003) rfl (by decide), fun b3 hb3 => ?_⟩
  have hBb3 := hb3.1
  have hlt_b2_b3 : b2 < b3 := hb3.2 1000002 _ _ _ rfl
  refine RunTK.last ?_
  refine RunK.step rfl rfl (ok_assign rfl) ?_
  refine RunK.nil ?_
  refine A.sub (Sub.cons (t := 2) rfl (Sub.cons (t := 3) rfl (Sub.cons (t := 1000002) rfl (Sub.cons (t := 1000003) rfl Sub.nil)))) ?_
  refine A.seq ?_
  refine A.regs (by kernel_rfl) (by kernel_rfl) (.inl rfl) ?_
  refine RunTK.last ?_
  refine RunK.step rfl rfl (ok_assign rfl) ?_
  refine RunK.nil ?_
  refine A.sub (Sub.cons (t := 2) rfl (Sub.cons (t := 3) rfl (Sub.cons (t := 5) rfl (Sub.cons (t := 1000002) rfl (Sub.cons (t := 1000003) rfl Sub.nil))))) ?_
  refine A.block ?_
  refine A.loop (ι := Nat) (fun i => i ≤ 8) (fun i => [(2, .v (.pointer (some ⟨b2, 0, none⟩))), (3, .v (.pointer (some ⟨b3, 0, none⟩))), (5, .v (.int .i64 ((i : Nat) : Int))), (1000002, blk b2 35 ((sha l).map byteV)), (1000003, blk b3 23 ((shaR l).list.map u32V))]) (fun i => 8 - i) 0 ?_ ?_ ?_
  · exact Nat.zero_le _
  · exact (Sub.cons (t := 2) rfl (Sub.cons (t := 3) rfl (Sub.cons (t := 5) rfl (Sub.cons (t := 1000002) rfl (Sub.cons (t := 1000003) rfl Sub.nil)))))
  intro i hi
  refine A.seq ?_
  refine A.regs (by kernel_rfl) (by kernel_rfl) (.inl rfl) ?_
  refine RunTK.last ?_
  refine RunK.step rfl rfl (ok_move rfl) ?_
  refine RunK.step rfl rfl (ok_bin rfl rfl rfl) ?_
  refine RunK.nil ?_
  refine A.sub (Sub.cons (t := 2) rfl (Sub.cons (t := 3) rfl (Sub.cons (t := 5) rfl (Sub.cons (t := 7) rfl (Sub.cons (t := 1000002) rfl (Sub.cons (t := 1000003) rfl Sub.nil)))))) ?_
  refine A.cond rfl (fun hc7 => ?_) (fun hc7 => ?_)
  · have hlt : i < 8 := by simp at hc7; omega
    refine A.skip ?_
    refine End.normal_then (End.code ?_)
    refine A.seq ?_
    refine A.block ?_
    refine A.regs (by kernel_rfl) (by kernel_rfl) (.inr (by kernel_rfl)) ?_
    refine RunTK.last ?_
    refine RunK.step rfl rfl (ok_move rfl) ?_
    refine RunK.step rfl rfl (ok_bin rfl rfl rfl) ?_; refine RunK.as (.int .i64 ((4 * i : Nat) : Int)) (by rw [wrap_i64 (by omega) (by omega)]; first | rfl | (congr 1; omega)) ?_
    refine RunK.step rfl rfl (ok_move rfl) ?_
    refine RunK.step rfl rfl (ok_bin rfl rfl rfl) ?_; refine RunK.as (.int .i64 ((4 * i : Nat) : Int)) (by rw [wrap_i64 (by omega) (by omega)]; first | rfl | (congr 1; omega)) ?_
    refine RunK.step rfl rfl (ok_bin rfl rfl rfl) ?_; refine RunK.as (.int .i64 ((4 * i + 4 : Nat) : Int)) (by rw [wrap_i64 (by omega) (by omega)]; first | rfl | (congr 1; omega)) ?_
    refine RunK.step rfl rfl (ok_sliceA (s := 1000002) (4 * i) (4 * i + 4) (by decide) Tryd.underlying35 info5 rfl rfl (.inl ⟨_, _, rfl, rfl⟩) (.inl ⟨_, _, rfl, rfl⟩) (by omega) (by omega) (by rw [List.length_map, sha_length]) (by decide)) ?_
    refine RunK.step rfl rfl (ok_str (l := be 4 ((shaR l).list.getD i 0).toNat) Tryd.underlying30 Tryd.underlying5 Tryd.underlying9 rfl (Le.eq (by rw [byt_vals, ← sha_part l hlt]; congr 2; rw [List.map_drop, List.map_take]))) ?_
    refine RunK.step rfl rfl (ok_move rfl) ?_
    refine RunK.step rfl rfl (ok_index0 _ Tryd.underlying23 info22 rfl rfl (rfl) (by omega)) ?_
    refine RunK.step rfl rfl (ok_loadV (s := 1000003) (by decide) Tryd.underlying22 rfl rfl rfl (map_get32 (by show i < 8; omega))) ?_
    refine RunK.step rfl rfl (ok_call (refPut32_fnP ((((shaR l).list.getD i 0).toNat : Nat) : Int) (Int.natCast_nonneg _) (by have := u32_lt ((shaR l).list.getD i 0); omega)) (Args.cons rfl (Le.refl _) Args.nil)) ?_
    refine RunK.step rfl rfl (ok_str (l := be 4 ((shaR l).list.getD i 0).toNat) Tryd.underlying30 Tryd.underlying5 Tryd.underlying9 rfl (le_byt _ _)) ?_
    refine RunK.step rfl rfl (ok_sne rfl rfl) ?_; refine RunK.as (.bool false) (by simp) ?_
    refine RunK.nil ?_
    refine A.sub (Sub.cons (t := 2) rfl (Sub.cons (t := 3) rfl (Sub.cons (t := 5) rfl (Sub.cons (t := 22) rfl (Sub.cons (t := 1000002) rfl (Sub.cons (t := 1000003) rfl Sub.nil)))))) ?_
    refine A.no rfl ?_
    refine A.skip ?_
    refine End.normal_block ?_
    refine End.normal_then (End.code ?_)
    refine A.reg (by kernel_rfl) (by kernel_rfl) (.inl rfl) ?_
    refine RunTK.last ?_
    refine RunK.step rfl rfl (ok_move rfl) ?_
    refine RunK.step rfl rfl (ok_bin rfl rfl rfl) ?_; refine RunK.as (.int .i64 ((i + 1 : Nat) : Int)) (by rw [wrap_i64 (by omega) (by omega)]; first | rfl | (congr 1; omega)) ?_
    refine RunK.step rfl rfl (ok_assign rfl) ?_
    refine RunK.nil ?_
    refine End.sub (Sub.cons (t := 2) rfl (Sub.cons (t := 3) rfl (Sub.cons (t := 5) rfl (Sub.cons (t := 1000002) rfl (Sub.cons (t := 1000003) rfl Sub.nil))))) ?_
    refine End.normal_then ?_
    refine End.again (i + 1) ?_ ?_ ?_
    · show _ ≤ _; omega
    · show _ - _ < _ - _; omega
    · exact (Sub.cons (t := 2) rfl (Sub.cons (t := 3) rfl (Sub.cons (t := 5) rfl (Sub.cons (t := 1000002) rfl (Sub.cons (t := 1000003) rfl Sub.nil)))))
  · obtain rfl : i = 8 := by simp at hc7; omega
    refine A.exit ?_
    refine End.exit_then ?_
    refine End.exit_then ?_
    refine End.exit_here ?_
    refine End.normal_then (End.code ?_)
    refine A.regs (by kernel_rfl) (by kernel_rfl) (.inl rfl) ?_
    refine RunTK.last ?_
    refine RunK.step rfl rfl (ok_assign rfl) ?_
    refine RunK.nil ?_
    refine A.sub (Sub.cons (t := 4) rfl (Sub.cons (t := 1000002) rfl (Sub.cons (t := 1000003) rfl Sub.nil))) ?_
    refine A.ret ?_
    exact End.ret1 rfl rfl (by first | exact Le.refl _ | exact Le.old _ _)
set_option maxHeartbeats 4000000 in
theorem lives_fn  : FnM Tryd.prog 12 tabs [] (.v (.bool true)) := by
  refine FnM.of Tryd.func12 rfl (by kernel_rfl) Tryd.ntmps12 (by simp) (by decide) (fun w => [(1900000, tab 0 (H8.list.map u32V)), (1900001, tab 1 (K64.map u32V))]) (fun w => (StartM.m (by simp [tabs]) (by decide) (StartM.m (by simp [tabs]) (by decide) StartM.nil))) fun w₀ hM => ?_
  have htab := tabs_hi hM
  refine A.regs (by kernel_rfl) (by kernel_rfl) (.inl rfl) ?_
  refine RunTK.last ?_
  refine RunK.step rfl rfl (ok_assign rfl) ?_
  refine RunK.nil ?_
  refine A.sub (Sub.cons (t := 1900000) rfl (Sub.cons (t := 1900001) rfl Sub.nil)) ?_
  refine A.regs (by kernel_rfl) (by kernel_rfl) (.inl rfl) ?_
  refine RunTK.new 1 (by decide) rfl (.inl rfl) ?_
  refine RunK.step rfl rfl (ok_litA [_, _, _, _, _, _, _, _] Tryd.underlying23 info22 zero23 rfl ⟨rfl, rfl, rfl, rfl, rfl, rfl, rfl, rfl, rfl, rfl, rfl, rfl, rfl, rfl, rfl, rfl, trivial⟩ rfl) ?_; refine RunK.as (aggV ((shaR [97, 98, 99]).list.map u32V)) (by kernel_rfl) ?_
  refine RunK.nil ?_
  refine ⟨_, _, eff_alloc (n := 42) (d := 1) (k := 1000001) zero23 (by decide), fun b1 hb1 => ?_⟩
  have hBb1 := hb1.1
  refine RunTK.eff 2 (by decide) rfl (.inl rfl) ?_
  refine RunK.nil ?_
  refine ⟨_, eff_storeA (n := 42) (s := 1000001) (size23.of (R8.size _)) rfl rfl (all_u32 _) hBb1 rfl ((R8.size _).symm) (LeftS.cons (t := 1) rfl (Surv.v _) (LeftS.cons (t := 3) rfl (Surv.v _) (LeftS.cons (t := 1900000) rfl (Surv.tab (by omega)) (LeftS.cons (t := 1900001) rfl (Surv.tab (by omega)) LeftS.nil)))), ?_⟩
  refine RunTK.last ?_
  refine RunK.nil ?_
  refine A.sub (Sub.cons (t := 1) rfl (Sub.cons (t := 1000001) rfl (Sub.cons (t := 1900000) rfl (Sub.cons (t := 1900001) rfl Sub.nil)))) ?_
  refine A.regs (by kernel_rfl) (by kernel_rfl) (.inl rfl) ?_
  refine RunTK.new 1 (by decide) rfl (.inl rfl) ?_
  refine RunK.step rfl rfl (ok_litA [_, _, _, _, _, _, _, _] Tryd.underlying23 info22 zero23 rfl ⟨rfl, rfl, rfl, rfl, rfl, rfl, rfl, rfl, rfl, rfl, rfl, rfl, rfl, rfl, rfl, rfl, trivial⟩ rfl) ?_; refine RunK.as (aggV ((shaR [97, 98, 99, 100, 98, 99, 100, 101, 99, 100, 101, 102, 100, 101, 102, 103, 101, 102, 103, 104, 102, 103, 104, 105, 103, 104, 105, 106, 104, 105, 106, 107, 105, 106, 107, 108, 106, 107, 108, 109, 107, 108, 109, 110, 108, 109, 110, 111, 109, 110, 111, 112, 110, 111, 112, 113]).list.map u32V)) (by kernel_rfl) ?_
  refine RunK.nil ?_
  refine ⟨_, _, eff_alloc (n := 42) (d := 2) (k := 1000002) zero23 (by decide), fun b2 hb2 => ?_⟩
  have hBb2 := hb2.1
  have hlt_b1_b2 : b1 < b2 := hb2.2 1000001 _ _ _ rfl
  refine RunTK.eff 2 (by decide) rfl (.inl rfl) ?_
  refine RunK.nil ?_
  refine ⟨_, eff_storeA (n := 42) (s := 1000002) (size23.of (R8.size _)) rfl rfl (all_u32 _) hBb2 rfl ((R8.size _).symm) (LeftS.cons (t := 1) rfl (Surv.v _) (LeftS.cons (t := 2) rfl (Surv.v _) (LeftS.cons (t := 4) rfl (Surv.v _) (LeftS.cons (t := 1000001) rfl (Surv.blk (by omega)) (LeftS.cons (t := 1900000) rfl (Surv.tab (by omega)) (LeftS.cons (t := 1900001) rfl (Surv.tab (by omega)) LeftS.nil)))))), ?_⟩
  refine RunTK.last ?_
  refine RunK.nil ?_
  refine A.sub (Sub.cons (t := 1) rfl (Sub.cons (t := 2) rfl (Sub.cons (t := 1000001) rfl (Sub.cons (t := 1000002) rfl (Sub.cons (t := 1900000) rfl (Sub.cons (t := 1900001) rfl Sub.nil)))))) ?_
  refine A.seq ?_
  refine A.regs (by kernel_rfl) (by kernel_rfl) (.inl rfl) ?_
  refine RunTK.last ?_
  refine RunK.step rfl rfl (ok_callM (Of_fn [] [] rfl (by decide) (by decide)) (Sub.cons rfl (Sub.cons rfl Sub.nil)) tabs_v (Args.cons rfl lst_nil_le Args.nil)) ?_
  refine RunK.step rfl rfl (ok_litA [_, _, _, _, _, _, _, _] Tryd.underlying23 info22 zero23 rfl ⟨rfl, rfl, rfl, rfl, rfl, rfl, rfl, rfl, rfl, rfl, rfl, rfl, rfl, rfl, rfl, rfl, trivial⟩ rfl) ?_; refine RunK.as (aggV ((shaR []).list.map u32V)) (by kernel_rfl) ?_
  refine RunK.step rfl rfl (ok_call (is_fn []) (Args.cons rfl (Le.refl _) (Args.cons rfl (Le.refl _) Args.nil))) ?_
  refine RunK.step rfl rfl (ok_not rfl) ?_; refine RunK.as (.bool false) (by rfl) ?_
  refine RunK.nil ?_
  refine A.sub (Sub.cons (t := 1) rfl (Sub.cons (t := 2) rfl (Sub.cons (t := 8) rfl (Sub.cons (t := 1000001) rfl (Sub.cons (t := 1000002) rfl (Sub.cons (t := 1900000) rfl (Sub.cons (t := 1900001) rfl Sub.nil))))))) ?_
  refine A.no rfl ?_
  refine A.skip ?_
  refine End.normal_then (End.code ?_)
  refine A.regsM (by kernel_rfl) (by kernel_rfl) (by kernel_rfl) (fun m hm => ?_)
  refine RunM.stepM rfl rfl (ok_buildN (([97, 98, 99] : List UInt8).map byteD) Tryd.underlying30 info5 rfl (by decide) (by decide) rfl ⟨rfl, rfl, rfl, rfl, rfl, rfl, trivial⟩ (fun d hd w x h => by simp only [List.mem_map] at hd; obtain ⟨b, _, rfl⟩ := hd; exact v_one rfl h)) ?_
  refine RunM.stepM rfl rfl (ok_convN Tryd.underlying30 Tryd.underlying5 rfl) ?_
  refine RunM.step rfl rfl (ok_build [newL m (([97, 98, 99] : List UInt8).map byteD) 3] Tryd.underlying45 info30 rfl (by decide) (by decide) rfl ⟨rfl, rfl, trivial⟩ (fun d hd w x h => by simp only [List.mem_cons, List.not_mem_nil, or_false] at hd; rcases hd with rfl <;> exact list_one (newL_le.of h))) ?_
  refine RunM.step rfl rfl (ok_callM (Of_fn [[97, 98, 99]] [97, 98, 99] rfl (by decide) (by decide)) (Sub.cons rfl (Sub.cons rfl Sub.nil)) tabs_v (Args.cons rfl (list_lst1 (newL_byt rfl)) Args.nil)) ?_
  refine RunM.step rfl rfl (ok_loadA (s := 1000001) (by decide) Tryd.underlying23 rfl (size23.of (R8.size _)) rfl rfl) ?_
  refine RunM.step rfl rfl (ok_call (is_fn [97, 98, 99]) (Args.cons rfl (Le.refl _) (Args.cons rfl (Le.refl _) Args.nil))) ?_
  refine RunM.step rfl rfl (ok_move rfl) ?_
  refine RunM.guardedM rfl rfl rfl rfl (ok_buildN (([97] : List UInt8).map byteD) Tryd.underlying30 info5 rfl (by decide) (by decide) rfl ⟨rfl, rfl, trivial⟩ (fun d hd w x h => by simp only [List.mem_map] at hd; obtain ⟨b, _, rfl⟩ := hd; exact v_one rfl h)) ?_
  refine RunM.guardedM rfl rfl rfl rfl (ok_convN Tryd.underlying30 Tryd.underlying5 rfl) ?_
  refine RunM.guardedM rfl rfl rfl rfl (ok_buildN (([98, 99] : List UInt8).map byteD) Tryd.underlying30 info5 rfl (by decide) (by decide) rfl ⟨rfl, rfl, rfl, rfl, trivial⟩ (fun d hd w x h => by simp only [List.mem_map] at hd; obtain ⟨b, _, rfl⟩ := hd; exact v_one rfl h)) ?_
  refine RunM.guardedM rfl rfl rfl rfl (ok_convN Tryd.underlying30 Tryd.underlying5 rfl) ?_
  refine RunM.guarded rfl rfl rfl rfl (ok_build [newL m (([97] : List UInt8).map byteD) 1, newL m (([98, 99] : List UInt8).map byteD) 2] Tryd.underlying45 info30 rfl (by decide) (by decide) rfl ⟨rfl, rfl, rfl, rfl, trivial⟩ (fun d hd w x h => by simp only [List.mem_cons, List.not_mem_nil, or_false] at hd; rcases hd with rfl | rfl <;> exact list_one (newL_le.of h))) ?_
  refine RunM.guarded rfl rfl rfl rfl (ok_callM (Of_fn [[97], [98, 99]] [97, 98, 99] rfl (by decide) (by decide)) (Sub.cons rfl (Sub.cons rfl Sub.nil)) tabs_v (Args.cons rfl (list_lst2 (newL_byt rfl) (newL_byt rfl)) Args.nil)) ?_
  refine RunM.guarded rfl rfl rfl rfl (ok_loadA (s := 1000001) (by decide) Tryd.underlying23 rfl (size23.of (R8.size _)) rfl rfl) ?_
  refine RunM.guarded rfl rfl rfl rfl (ok_call (is_fn [97, 98, 99]) (Args.cons rfl (Le.refl _) (Args.cons rfl (Le.refl _) Args.nil))) ?_
  refine RunM.step rfl rfl (ok_pick rfl rfl) ?_; refine RunM.as (.bool true) (by rfl) ?_
  refine RunM.step rfl rfl (ok_move rfl) ?_
  refine RunM.guarded rfl rfl rfl rfl (ok_call New_fn Args.nil) ?_
  refine RunM.guardedM rfl rfl rfl rfl (ok_buildN (([97, 98, 99] : List UInt8).map byteD) Tryd.underlying30 info5 rfl (by decide) (by decide) rfl ⟨rfl, rfl, rfl, rfl, rfl, rfl, trivial⟩ (fun d hd w x h => by simp only [List.mem_map] at hd; obtain ⟨b, _, rfl⟩ := hd; exact v_one rfl h)) ?_
  refine RunM.guardedM rfl rfl rfl rfl (ok_convN Tryd.underlying30 Tryd.underlying5 rfl) ?_
  refine RunM.guarded rfl rfl rfl rfl (ok_callM (Write_fn [] [97, 98, 99] (by decide)) (Sub.cons rfl (Sub.cons rfl Sub.nil)) tabs_v (Args.cons rfl (Le.refl _) (Args.cons rfl (newL_byt rfl) Args.nil))) ?_; refine RunM.as (stV [97, 98, 99]) (rfl) ?_
  refine RunM.guarded rfl rfl rfl rfl (ok_callM (Sum_fn [97, 98, 99] (by decide)) (Sub.cons rfl (Sub.cons rfl Sub.nil)) tabs_v (Args.cons rfl (Le.refl _) Args.nil)) ?_
  refine RunM.guarded rfl rfl rfl rfl (ok_loadA (s := 1000001) (by decide) Tryd.underlying23 rfl (size23.of (R8.size _)) rfl rfl) ?_
  refine RunM.guarded rfl rfl rfl rfl (ok_call (is_fn [97, 98, 99]) (Args.cons rfl (Le.refl _) (Args.cons rfl (Le.refl _) Args.nil))) ?_
  refine RunM.step rfl rfl (ok_pick rfl rfl) ?_; refine RunM.as (.bool true) (by rfl) ?_
  refine RunM.step rfl rfl (ok_move rfl) ?_
  refine RunM.guardedM rfl rfl rfl rfl (ok_buildN (([97, 98, 99, 100, 98, 99, 100, 101, 99, 100, 101, 102, 100, 101, 102, 103, 101, 102, 103, 104, 102, 103, 104, 105, 103, 104, 105, 106, 104, 105, 106, 107, 105, 106, 107, 108, 106, 107, 108, 109, 107, 108, 109, 110, 108, 109, 110, 111, 109, 110, 111, 112, 110, 111, 112, 113] : List UInt8).map byteD) Tryd.underlying30 info5 rfl (by decide) (by decide) rfl ⟨rfl, rfl, rfl, rfl, rfl, rfl, rfl, rfl, rfl, rfl, rfl, rfl, rfl, rfl, rfl, rfl, rfl, rfl, rfl, rfl, rfl, rfl, rfl, rfl, rfl, rfl, rfl, rfl, rfl, rfl, rfl, rfl, rfl, rfl, rfl, rfl, rfl, rfl, rfl, rfl, rfl, rfl, rfl, rfl, rfl, rfl, rfl, rfl, rfl, rfl, rfl, rfl, rfl, rfl, rfl, rfl, rfl, rfl, rfl, rfl, rfl, rfl, rfl, rfl, rfl, rfl, rfl, rfl, rfl, rfl, rfl, rfl, rfl, rfl, rfl, rfl, rfl, rfl, rfl, rfl, rfl, rfl, rfl, rfl, rfl, rfl, rfl, rfl, rfl, rfl, rfl, rfl, rfl, rfl, rfl, rfl, rfl, rfl, rfl, rfl, rfl, rfl, rfl, rfl, rfl, rfl, rfl, rfl, rfl, rfl, rfl, rfl, trivial⟩ (fun d hd w x h => by simp only [List.mem_map] at hd; obtain ⟨b, _, rfl⟩ := hd; exact v_one rfl h)) ?_
  refine RunM.guardedM rfl rfl rfl rfl (ok_convN Tryd.underlying30 Tryd.underlying5 rfl) ?_
  refine RunM.guarded rfl rfl rfl rfl (ok_build [newL m (([97, 98, 99, 100, 98, 99, 100, 101, 99, 100, 101, 102, 100, 101, 102, 103, 101, 102, 103, 104, 102, 103, 104, 105, 103, 104, 105, 106, 104, 105, 106, 107, 105, 106, 107, 108, 106, 107, 108, 109, 107, 108, 109, 110, 108, 109, 110, 111, 109, 110, 111, 112, 110, 111, 112, 113] : List UInt8).map byteD) 56] Tryd.underlying45 info30 rfl (by decide) (by decide) rfl ⟨rfl, rfl, trivial⟩ (fun d hd w x h => by simp only [List.mem_cons, List.not_mem_nil, or_false] at hd; rcases hd with rfl <;> exact list_one (newL_le.of h))) ?_
  refine RunM.guarded rfl rfl rfl rfl (ok_callM (Of_fn [[97, 98, 99, 100, 98, 99, 100, 101, 99, 100, 101, 102, 100, 101, 102, 103, 101, 102, 103, 104, 102, 103, 104, 105, 103, 104, 105, 106, 104, 105, 106, 107, 105, 106, 107, 108, 106, 107, 108, 109, 107, 108, 109, 110, 108, 109, 110, 111, 109, 110, 111, 112, 110, 111, 112, 113]] [97, 98, 99, 100, 98, 99, 100, 101, 99, 100, 101, 102, 100, 101, 102, 103, 101, 102, 103, 104, 102, 103, 104, 105, 103, 104, 105, 106, 104, 105, 106, 107, 105, 106, 107, 108, 106, 107, 108, 109, 107, 108, 109, 110, 108, 109, 110, 111, 109, 110, 111, 112, 110, 111, 112, 113] rfl (by decide) (by decide)) (Sub.cons rfl (Sub.cons rfl Sub.nil)) tabs_v (Args.cons rfl (list_lst1 (newL_byt rfl)) Args.nil)) ?_
  refine RunM.guarded rfl rfl rfl rfl (ok_loadA (s := 1000002) (by decide) Tryd.underlying23 rfl (size23.of (R8.size _)) rfl rfl) ?_
  refine RunM.guarded rfl rfl rfl rfl (ok_call (is_fn [97, 98, 99, 100, 98, 99, 100, 101, 99, 100, 101, 102, 100, 101, 102, 103, 101, 102, 103, 104, 102, 103, 104, 105, 103, 104, 105, 106, 104, 105, 106, 107, 105, 106, 107, 108, 106, 107, 108, 109, 107, 108, 109, 110, 108, 109, 110, 111, 109, 110, 111, 112, 110, 111, 112, 113]) (Args.cons rfl (Le.refl _) (Args.cons rfl (Le.refl _) Args.nil))) ?_
  refine RunM.step rfl rfl (ok_pick rfl rfl) ?_; refine RunM.as (.bool true) (by rfl) ?_
  refine RunM.step rfl rfl (ok_assign rfl) ?_
  refine RunM.nil ?_
  refine A.sub (Sub.cons (t := 0) rfl (Sub.cons (t := 1000001) rfl (Sub.cons (t := 1000002) rfl (Sub.cons (t := 1900000) rfl (Sub.cons (t := 1900001) rfl Sub.nil))))) ?_
  refine A.ret ?_
  exact End.ret1 rfl rfl (by first | exact Le.refl _ | exact Le.old _ _)
end Go.Proofs.YtlnnhlgfomklcaaDoor
