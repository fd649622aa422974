/-
  The laws of caissonlaw02, by facts, part one: DigestsCompress, DigestsOf, DigestsKept.
-/
import Derived.Test.YtlnnhlgfomklcaaDoorC02k
namespace Go.Proofs.YtlnnhlgfomklcaaDoor
open Go Go.RowKit
set_option linter.unusedVariables false
theorem own_one {B n : Nat} {e : TypeId} {xs : List Value} {w : World} {x : Value} (h : (own B e n xs).Of w x) : x.oneCell' = true := by
  rcases h.1.2 with ⟨rfl, _⟩ | ⟨_, _, _, rfl, _⟩ <;> rfl

set_option maxHeartbeats 1000000 in
theorem DigestsCompress_fn (h : R8) (l : List UInt8) (hl : l.length = 64) : FnM Tryd.prog 3 tabs [.v (aggV (h.list.map u32V)), .v (aggV (l.map byteV))] (.v (.bool true)) := by
  refine FnM.of Tryd.func3 rfl (by kernel_rfl) Tryd.ntmps3 (by simp) (by decide) (fun w => [(0, .v (aggV (h.list.map u32V))), (1, .v (aggV (l.map byteV))), (1900000, tab 0 (H8.list.map u32V)), (1900001, tab 1 (K64.map u32V))]) (fun w => (StartM.v rfl (StartM.v rfl (StartM.m (by simp [tabs]) (by decide) (StartM.m (by simp [tabs]) (by decide) StartM.nil))))) fun w₀ hM => ?_
  have htab := tabs_hi hM
  refine A.regs (by kernel_rfl) (by kernel_rfl) (.inl rfl) ?_
  refine RunTK.new 0 (by decide) rfl (.inl rfl) ?_
  refine RunK.nil ?_
  refine ⟨_, _, eff_box (n := 35) (d := 2) (k := 1000002) rfl (by decide), fun b2 hb2 => ?_⟩
  have hBb2 := hb2.1
  refine RunTK.new 1 (by decide) rfl (.inl rfl) ?_
  refine RunK.nil ?_
  refine ⟨_, _, eff_box (n := 35) (d := 3) (k := 1000003) rfl (by decide), fun b3 hb3 => ?_⟩
  have hBb3 := hb3.1
  have hlt_b2_b3 : b2 < b3 := hb3.2 1000002 _ _ _ rfl
  refine RunTK.last ?_
  refine RunK.step rfl rfl (ok_assign rfl) ?_
  refine RunK.nil ?_
  refine A.sub (Sub.cons (t := 2) rfl (Sub.cons (t := 3) rfl (Sub.cons (t := 1000002) rfl (Sub.cons (t := 1000003) rfl (Sub.cons (t := 1900000) rfl (Sub.cons (t := 1900001) rfl Sub.nil)))))) ?_
  refine A.regs (by kernel_rfl) (by kernel_rfl) (.inl rfl) ?_
  refine RunTK.new 1 (by decide) rfl (.inl rfl) ?_
  refine RunK.step rfl rfl (ok_loadA (s := 1000002) (by decide) Tryd.underlying23 rfl (size23.of (R8.size _)) rfl rfl) ?_
  refine RunK.nil ?_
  refine ⟨_, _, eff_alloc (n := 35) (d := 5) (k := 1000005) zero23 (by decide), fun b5 hb5 => ?_⟩
  have hBb5 := hb5.1
  have hlt_b2_b5 : b2 < b5 := hb5.2 1000002 _ _ _ rfl
  have hlt_b3_b5 : b3 < b5 := hb5.2 1000003 _ _ _ rfl
  refine RunTK.eff 2 (by decide) rfl (.inl rfl) ?_
  refine RunK.nil ?_
  refine ⟨_, eff_storeA (n := 35) (s := 1000005) (size23.of (R8.size _)) rfl rfl (all_u32 _) hBb5 rfl ((R8.size _).symm) (LeftS.cons (t := 2) rfl (Surv.v _) (LeftS.cons (t := 3) rfl (Surv.v _) (LeftS.cons (t := 5) rfl (Surv.v _) (LeftS.cons (t := 9) rfl (Surv.v _) (LeftS.cons (t := 1000002) rfl (Surv.blk (by omega)) (LeftS.cons (t := 1000003) rfl (Surv.blkT (by decide)) (LeftS.cons (t := 1900000) rfl (Surv.tab (by omega)) (LeftS.cons (t := 1900001) rfl (Surv.tab (by omega)) LeftS.nil)))))))), ?_⟩
  refine RunTK.last ?_
  refine RunK.nil ?_
  refine A.sub (Sub.cons (t := 2) rfl (Sub.cons (t := 3) rfl (Sub.cons (t := 5) rfl (Sub.cons (t := 1000002) rfl (Sub.cons (t := 1000003) rfl (Sub.cons (t := 1000005) rfl (Sub.cons (t := 1900000) rfl (Sub.cons (t := 1900001) rfl Sub.nil)))))))) ?_
  refine A.regs (by kernel_rfl) (by kernel_rfl) (.inl rfl) ?_
  refine RunTK.new 3 (by decide) rfl (.inl rfl) ?_
  refine RunK.step rfl rfl (ok_loadA (s := 1000002) (by decide) Tryd.underlying23 rfl (size23.of (R8.size _)) rfl rfl) ?_
  refine RunK.step rfl rfl (ok_loadA (s := 1000003) (by decide) Tryd.underlying24 rfl (size24.of (by rw [List.length_map, hl])) rfl rfl) ?_
  refine RunK.step rfl rfl (ok_callM (Compress_fn h l hl) (Sub.cons rfl (Sub.cons rfl Sub.nil)) tabs_v (Args.cons rfl (by first | exact Le.refl _ | exact Le.old _ _ | exact le_byt _ _ | exact (Le.old _ _).trans (le_byt _ _) | exact le_lst _ _ | exact (Le.old _ _).trans (le_lst _ _) | exact (Le.old _ _).trans (Le.old _ _) | exact (Le.old _ _).trans ((Le.old _ _).trans (le_byt _ _)) | exact byt_nil_le | exact lst_nil_le | exact bytes_nil_le | exact list_nil_le) (Args.cons rfl (by first | exact Le.refl _ | exact Le.old _ _ | exact le_byt _ _ | exact (Le.old _ _).trans (le_byt _ _) | exact le_lst _ _ | exact (Le.old _ _).trans (le_lst _ _) | exact (Le.old _ _).trans (Le.old _ _) | exact (Le.old _ _).trans ((Le.old _ _).trans (le_byt _ _)) | exact byt_nil_le | exact lst_nil_le | exact bytes_nil_le | exact list_nil_le) Args.nil))) ?_
  refine RunK.nil ?_
  refine ⟨_, _, eff_alloc (n := 35) (d := 6) (k := 1000006) zero23 (by decide), fun b6 hb6 => ?_⟩
  have hBb6 := hb6.1
  have hlt_b2_b6 : b2 < b6 := hb6.2 1000002 _ _ _ rfl
  have hlt_b3_b6 : b3 < b6 := hb6.2 1000003 _ _ _ rfl
  have hlt_b5_b6 : b5 < b6 := hb6.2 1000005 _ _ _ rfl
  refine RunTK.eff 4 (by decide) rfl (.inl rfl) ?_
  refine RunK.nil ?_
  refine ⟨_, eff_storeA (n := 35) (s := 1000006) (size23.of (R8.size _)) rfl rfl (all_u32 _) hBb6 rfl ((R8.size _).symm) (LeftS.cons (t := 2) rfl (Surv.v _) (LeftS.cons (t := 3) rfl (Surv.v _) (LeftS.cons (t := 5) rfl (Surv.v _) (LeftS.cons (t := 6) rfl (Surv.v _) (LeftS.cons (t := 10) rfl (Surv.v _) (LeftS.cons (t := 11) rfl (Surv.v _) (LeftS.cons (t := 12) rfl (Surv.v _) (LeftS.cons (t := 1000002) rfl (Surv.blk (by omega)) (LeftS.cons (t := 1000003) rfl (Surv.blkT (by decide)) (LeftS.cons (t := 1000005) rfl (Surv.blk (by omega)) (LeftS.cons (t := 1900000) rfl (Surv.tab (by omega)) (LeftS.cons (t := 1900001) rfl (Surv.tab (by omega)) LeftS.nil)))))))))))), ?_⟩
  refine RunTK.last ?_
  refine RunK.nil ?_
  refine A.sub (Sub.cons (t := 2) rfl (Sub.cons (t := 3) rfl (Sub.cons (t := 5) rfl (Sub.cons (t := 6) rfl (Sub.cons (t := 1000002) rfl (Sub.cons (t := 1000003) rfl (Sub.cons (t := 1000005) rfl (Sub.cons (t := 1000006) rfl (Sub.cons (t := 1900000) rfl (Sub.cons (t := 1900001) rfl Sub.nil)))))))))) ?_
  refine A.regs (by kernel_rfl) (by kernel_rfl) (.inl rfl) ?_
  refine RunTK.new 4 (by decide) rfl (.inl rfl) ?_
  refine RunK.step rfl rfl (ok_call refConstants_fn Args.nil) ?_
  refine RunK.step rfl rfl (ok_move rfl) ?_
  refine RunK.step rfl rfl (ok_extract rfl rfl) ?_
  refine RunK.step rfl rfl (ok_extract rfl rfl) ?_
  refine RunK.nil ?_
  refine ⟨_, _, eff_alloc (n := 35) (d := 7) (k := 1000007) zero26 (by decide), fun b7 hb7 => ?_⟩
  have hBb7 := hb7.1
  have hlt_b2_b7 : b2 < b7 := hb7.2 1000002 _ _ _ rfl
  have hlt_b3_b7 : b3 < b7 := hb7.2 1000003 _ _ _ rfl
  have hlt_b5_b7 : b5 < b7 := hb7.2 1000005 _ _ _ rfl
  have hlt_b6_b7 : b6 < b7 := hb7.2 1000006 _ _ _ rfl
  refine RunTK.new 5 (by decide) rfl (.inl rfl) ?_
  refine RunK.nil ?_
  refine ⟨_, _, eff_alloc (n := 35) (d := 8) (k := 1000008) zero23 (by decide), fun b8 hb8 => ?_⟩
  have hBb8 := hb8.1
  have hlt_b2_b8 : b2 < b8 := hb8.2 1000002 _ _ _ rfl
  have hlt_b3_b8 : b3 < b8 := hb8.2 1000003 _ _ _ rfl
  have hlt_b5_b8 : b5 < b8 := hb8.2 1000005 _ _ _ rfl
  have hlt_b6_b8 : b6 < b8 := hb8.2 1000006 _ _ _ rfl
  have hlt_b7_b8 : b7 < b8 := hb8.2 1000007 _ _ _ rfl
  refine RunTK.eff 6 (by decide) rfl (.inl rfl) ?_
  refine RunK.nil ?_
  refine ⟨_, eff_storeA (n := 35) (s := 1000007) (size26.of (by rw [List.length_map, K64_lit])) rfl rfl (all_u32 _) hBb7 rfl (by rw [List.length_map, K64_lit, List.length_replicate]) (LeftS.cons (t := 2) rfl (Surv.v _) (LeftS.cons (t := 3) rfl (Surv.v _) (LeftS.cons (t := 5) rfl (Surv.v _) (LeftS.cons (t := 6) rfl (Surv.v _) (LeftS.cons (t := 7) rfl (Surv.v _) (LeftS.cons (t := 8) rfl (Surv.v _) (LeftS.cons (t := 15) rfl (Surv.v _) (LeftS.cons (t := 16) rfl (Surv.v _) (LeftS.cons (t := 1000002) rfl (Surv.blkT (by decide)) (LeftS.cons (t := 1000003) rfl (Surv.blkT (by decide)) (LeftS.cons (t := 1000005) rfl (Surv.blkT (by decide)) (LeftS.cons (t := 1000006) rfl (Surv.blkT (by decide)) (LeftS.cons (t := 1000008) rfl (Surv.blkT (by decide)) (LeftS.cons (t := 1900000) rfl (Surv.tab (by omega)) (LeftS.cons (t := 1900001) rfl (Surv.tab (by omega)) LeftS.nil))))))))))))))), ?_⟩
  refine RunTK.eff 7 (by decide) rfl (.inl rfl) ?_
  refine RunK.nil ?_
  refine ⟨_, eff_storeA (n := 35) (s := 1000008) (size23.of (R8.size _)) rfl rfl (all_u32 _) hBb8 rfl ((R8.size _).symm) (LeftS.cons (t := 2) rfl (Surv.v _) (LeftS.cons (t := 3) rfl (Surv.v _) (LeftS.cons (t := 5) rfl (Surv.v _) (LeftS.cons (t := 6) rfl (Surv.v _) (LeftS.cons (t := 7) rfl (Surv.v _) (LeftS.cons (t := 8) rfl (Surv.v _) (LeftS.cons (t := 15) rfl (Surv.v _) (LeftS.cons (t := 16) rfl (Surv.v _) (LeftS.cons (t := 1000002) rfl (Surv.blk (by omega)) (LeftS.cons (t := 1000003) rfl (Surv.blkT (by decide)) (LeftS.cons (t := 1000005) rfl (Surv.blk (by omega)) (LeftS.cons (t := 1000006) rfl (Surv.blk (by omega)) (LeftS.cons (t := 1000007) rfl (Surv.blkT (by decide)) (LeftS.cons (t := 1900000) rfl (Surv.tab (by omega)) (LeftS.cons (t := 1900001) rfl (Surv.tab (by omega)) LeftS.nil))))))))))))))), ?_⟩
  refine RunTK.last ?_
  refine RunK.nil ?_
  refine A.sub (Sub.cons (t := 2) rfl (Sub.cons (t := 3) rfl (Sub.cons (t := 5) rfl (Sub.cons (t := 6) rfl (Sub.cons (t := 8) rfl (Sub.cons (t := 1000002) rfl (Sub.cons (t := 1000003) rfl (Sub.cons (t := 1000005) rfl (Sub.cons (t := 1000006) rfl (Sub.cons (t := 1000007) rfl (Sub.cons (t := 1000008) rfl (Sub.cons (t := 1900000) rfl (Sub.cons (t := 1900001) rfl Sub.nil))))))))))))) ?_
  refine A.regs (by kernel_rfl) (by kernel_rfl) (.inr (by kernel_rfl)) ?_
  refine RunTK.last ?_
  refine RunK.step rfl rfl (ok_loadA (s := 1000006) (by decide) Tryd.underlying23 rfl (size23.of (R8.size _)) rfl rfl) ?_
  refine RunK.step rfl rfl (ok_loadA (s := 1000002) (by decide) Tryd.underlying23 rfl (size23.of (R8.size _)) rfl rfl) ?_
  refine RunK.step rfl rfl (ok_sliceA (s := 1000003) 0 64 (by decide) Tryd.underlying24 info5 rfl rfl (.inr ⟨rfl, rfl⟩) (.inr ⟨rfl, rfl⟩) (by omega) (by omega) (by rw [List.length_map, hl]) (by decide)) ?_
  refine RunK.step rfl rfl (ok_call (refCompress_fn h l hl) (Args.cons rfl (Le.refl _) (Args.cons rfl (Le.eq (by rw [byt_vals]; congr 2; rw [List.drop_zero, List.take_of_length_le (by simp [hl])])) Args.nil))) ?_
  refine RunK.step rfl rfl (ok_eqlA Tryd.underlying23 Tryd.underlying22 info22 (by kernel_rfl) rfl rfl rfl (R8.size _) (ints_u32 _)) ?_
  refine RunK.step rfl rfl (ok_move rfl) ?_
  refine RunK.guarded rfl rfl rfl rfl (ok_loadA (s := 1000002) (by decide) Tryd.underlying23 rfl (size23.of (R8.size _)) rfl rfl) ?_
  refine RunK.guarded rfl rfl rfl rfl (ok_loadA (s := 1000005) (by decide) Tryd.underlying23 rfl (size23.of (R8.size _)) rfl rfl) ?_
  refine RunK.guarded rfl rfl rfl rfl (ok_eqlA Tryd.underlying23 Tryd.underlying22 info22 (by kernel_rfl) rfl rfl rfl (R8.size _) (ints_u32 _)) ?_
  refine RunK.step rfl rfl (ok_pick rfl rfl) ?_; refine RunK.as (.bool true) (by rfl) ?_
  refine RunK.step rfl rfl (ok_move rfl) ?_
  refine RunK.guarded rfl rfl rfl rfl (ok_callM Initial_fn (Sub.cons rfl (Sub.cons rfl Sub.nil)) tabs_v Args.nil) ?_
  refine RunK.guarded rfl rfl rfl rfl (ok_loadA (s := 1000008) (by decide) Tryd.underlying23 rfl (size23.of (R8.size _)) rfl rfl) ?_
  refine RunK.guarded rfl rfl rfl rfl (ok_eqlA Tryd.underlying23 Tryd.underlying22 info22 (by kernel_rfl) rfl rfl rfl (R8.size _) (ints_u32 _)) ?_
  refine RunK.step rfl rfl (ok_pick rfl rfl) ?_; refine RunK.as (.bool true) (by rfl) ?_
  refine RunK.step rfl rfl (ok_move rfl) ?_
  refine RunK.guarded rfl rfl rfl rfl (ok_callM lives_fn (Sub.cons rfl (Sub.cons rfl Sub.nil)) tabs_v Args.nil) ?_
  refine RunK.step rfl rfl (ok_pick rfl rfl) ?_; refine RunK.as (.bool true) (by rfl) ?_
  refine RunK.step rfl rfl (ok_assign rfl) ?_
  refine RunK.nil ?_
  refine A.sub (Sub.cons (t := 4) rfl (Sub.cons (t := 1000002) rfl (Sub.cons (t := 1000003) rfl (Sub.cons (t := 1000005) rfl (Sub.cons (t := 1000006) rfl (Sub.cons (t := 1000007) rfl (Sub.cons (t := 1000008) rfl (Sub.cons (t := 1900000) rfl (Sub.cons (t := 1900001) rfl Sub.nil))))))))) ?_
  refine A.ret ?_
  exact End.ret1 rfl rfl (by first | exact Le.refl _ | exact Le.old _ _)
set_option maxHeartbeats 1000000 in
theorem DigestsOf_fn (b : List UInt8) : FnM Tryd.prog 4 tabs [byt b] (.v (.bool true)) := by
  refine FnM.of Tryd.func4 rfl (by kernel_rfl) Tryd.ntmps4 (by simp) (by decide) (fun w => [(0, old w.heap.size (byt b)), (1900000, tab 0 (H8.list.map u32V)), (1900001, tab 1 (K64.map u32V))]) (fun w => (StartM.old rfl (StartM.m (by simp [tabs]) (by decide) (StartM.m (by simp [tabs]) (by decide) StartM.nil)))) fun w₀ hM => ?_
  have htab := tabs_hi hM
  refine A.regs (by kernel_rfl) (by kernel_rfl) (.inl rfl) ?_
  refine RunTK.last ?_
  refine RunK.step rfl rfl (ok_assign rfl) ?_
  refine RunK.nil ?_
  refine A.sub (Sub.cons (t := 0) rfl (Sub.cons (t := 1900000) rfl (Sub.cons (t := 1900001) rfl Sub.nil))) ?_
  refine A.seq ?_
  refine A.regs (by kernel_rfl) (by kernel_rfl) (.inl rfl) ?_
  refine RunTK.last ?_
  refine RunK.step rfl rfl (ok_move rfl) ?_
  refine RunK.step rfl rfl (ok_lenB Tryd.underlying30 rfl (Le.old _ _)) ?_
  refine RunK.step rfl rfl (ok_bin rfl rfl rfl) ?_
  refine RunK.nil ?_
  refine A.sub (Sub.cons (t := 0) rfl (Sub.cons (t := 5) rfl (Sub.cons (t := 1900000) rfl (Sub.cons (t := 1900001) rfl Sub.nil)))) ?_
  refine A.cond rfl (fun hc5 => ?_) (fun hc5 => ?_)
  · refine A.regs (by kernel_rfl) (by kernel_rfl) (.inl rfl) ?_
    refine RunTK.last ?_
    refine RunK.step rfl rfl (ok_callM lives_fn (Sub.cons rfl (Sub.cons rfl Sub.nil)) tabs_v Args.nil) ?_
    refine RunK.step rfl rfl (ok_assign rfl) ?_
    refine RunK.nil ?_
    refine A.sub (Sub.cons (t := 2) rfl (Sub.cons (t := 1900000) rfl (Sub.cons (t := 1900001) rfl Sub.nil))) ?_
    refine A.ret ?_
    refine End.ret_then ?_
    exact End.ret1 rfl rfl (by first | exact Le.refl _ | exact Le.old _ _)
  · have hb : b.length ≤ 300 := by simp at hc5; omega
    refine A.skip ?_
    refine End.normal_then (End.code ?_)
    refine A.regs (by kernel_rfl) (by kernel_rfl) (.inl rfl) ?_
    refine RunTK.last ?_
    refine RunK.step rfl rfl (ok_move rfl) ?_
    refine RunK.step rfl rfl (ok_build [old w₀.heap.size (byt b)] Tryd.underlying45 info30 rfl (by decide) (by decide) rfl ⟨rfl, rfl, trivial⟩ (fun d hd w x h => by simp only [List.mem_cons, List.not_mem_nil, or_false] at hd; subst hd; exact old_one (fun _ _ h => lst_one h) h)) ?_
    refine RunK.step rfl rfl (ok_callM (Of_fn [b] b (by simp) (by simp) (by omega)) (Sub.cons rfl (Sub.cons rfl Sub.nil)) tabs_v (Args.cons rfl (list_lst1 (Le.old _ _)) Args.nil)) ?_
    refine RunK.step rfl rfl (ok_move rfl) ?_
    refine RunK.step rfl rfl (ok_call (refSum_fn b (by omega)) (Args.cons rfl (Le.old _ _) Args.nil)) ?_
    refine RunK.step rfl rfl (ok_eqlA Tryd.underlying35 Tryd.underlying5 info5 (by kernel_rfl) rfl rfl rfl (by rw [List.length_map, sha_length]) (ints_u8 _)) ?_
    refine RunK.step rfl rfl (ok_move rfl) ?_
    refine RunK.guarded rfl rfl rfl rfl (ok_call New_fn Args.nil) ?_
    refine RunK.guarded rfl rfl rfl rfl (ok_move rfl) ?_
    refine RunK.guarded rfl rfl rfl rfl (ok_callM (Write_fn [] b (by simp; omega)) (Sub.cons rfl (Sub.cons rfl Sub.nil)) tabs_v (Args.cons rfl (by first | exact Le.refl _ | exact Le.old _ _ | exact le_byt _ _ | exact (Le.old _ _).trans (le_byt _ _) | exact le_lst _ _ | exact (Le.old _ _).trans (le_lst _ _) | exact (Le.old _ _).trans (Le.old _ _) | exact (Le.old _ _).trans ((Le.old _ _).trans (le_byt _ _)) | exact byt_nil_le | exact lst_nil_le | exact bytes_nil_le | exact list_nil_le) (Args.cons rfl (by first | exact Le.refl _ | exact Le.old _ _ | exact le_byt _ _ | exact (Le.old _ _).trans (le_byt _ _) | exact le_lst _ _ | exact (Le.old _ _).trans (le_lst _ _) | exact (Le.old _ _).trans (Le.old _ _) | exact (Le.old _ _).trans ((Le.old _ _).trans (le_byt _ _)) | exact byt_nil_le | exact lst_nil_le | exact bytes_nil_le | exact list_nil_le) Args.nil))) ?_; refine RunK.as (stV b) (by rw [List.nil_append]) ?_
    refine RunK.guarded rfl rfl rfl rfl (ok_callM (Sum_fn b (by omega)) (Sub.cons rfl (Sub.cons rfl Sub.nil)) tabs_v (Args.cons rfl (by first | exact Le.refl _ | exact Le.old _ _ | exact le_byt _ _ | exact (Le.old _ _).trans (le_byt _ _) | exact le_lst _ _ | exact (Le.old _ _).trans (le_lst _ _) | exact (Le.old _ _).trans (Le.old _ _) | exact (Le.old _ _).trans ((Le.old _ _).trans (le_byt _ _)) | exact byt_nil_le | exact lst_nil_le | exact bytes_nil_le | exact list_nil_le) Args.nil)) ?_
    refine RunK.guarded rfl rfl rfl rfl (ok_move rfl) ?_
    refine RunK.guarded rfl rfl rfl rfl (ok_call (refSum_fn b (by omega)) (Args.cons rfl (Le.old _ _) Args.nil)) ?_
    refine RunK.guarded rfl rfl rfl rfl (ok_eqlA Tryd.underlying35 Tryd.underlying5 info5 (by kernel_rfl) rfl rfl rfl (by rw [List.length_map, sha_length]) (ints_u8 _)) ?_
    refine RunK.step rfl rfl (ok_pick rfl rfl) ?_; refine RunK.as (.bool true) (by rfl) ?_
    refine RunK.step rfl rfl (ok_move rfl) ?_
    refine RunK.guarded rfl rfl rfl rfl (ok_callM lives_fn (Sub.cons rfl (Sub.cons rfl Sub.nil)) tabs_v Args.nil) ?_
    refine RunK.step rfl rfl (ok_pick rfl rfl) ?_; refine RunK.as (.bool true) (by rfl) ?_
    refine RunK.step rfl rfl (ok_assign rfl) ?_
    refine RunK.nil ?_
    refine A.sub (Sub.cons (t := 2) rfl (Sub.cons (t := 1900000) rfl (Sub.cons (t := 1900001) rfl Sub.nil))) ?_
    refine A.ret ?_
    exact End.ret1 rfl rfl (by first | exact Le.refl _ | exact Le.old _ _)
theorem DigestsKept_fnA (a b : List UInt8) (h : 100 < a.length) : FnM Tryd.prog 6 tabs [byt a, byt b] (.v (.bool true)) := by
  refine FnM.of Tryd.func6 rfl (by kernel_rfl) Tryd.ntmps6 (by simp) (by decide) (fun w => [(0, old w.heap.size (byt a)), (1, old w.heap.size (byt b)), (1900000, tab 0 (H8.list.map u32V)), (1900001, tab 1 (K64.map u32V))]) (fun w => (StartM.old rfl (StartM.old rfl (StartM.m (by simp [tabs]) (by decide) (StartM.m (by simp [tabs]) (by decide) StartM.nil))))) fun w₀ hM => ?_
  have htab := tabs_hi hM
  refine A.regs (by kernel_rfl) (by kernel_rfl) (.inl rfl) ?_
  refine RunTK.last ?_
  refine RunK.step rfl rfl (ok_assign rfl) ?_
  refine RunK.nil ?_
  refine A.sub (Sub.cons (t := 0) rfl (Sub.cons (t := 1) rfl (Sub.cons (t := 1900000) rfl (Sub.cons (t := 1900001) rfl Sub.nil)))) ?_
  refine A.seq ?_
  refine A.regs (by kernel_rfl) (by kernel_rfl) (.inl rfl) ?_
  refine RunTK.last ?_
  refine RunK.step rfl rfl (ok_move rfl) ?_
  refine RunK.step rfl rfl (ok_lenB Tryd.underlying30 rfl (Le.old _ _)) ?_
  refine RunK.step rfl rfl (ok_bin rfl rfl rfl) ?_; refine RunK.as (.bool true) (by simp; omega) ?_
  refine RunK.step rfl rfl (ok_move rfl) ?_
  refine RunK.skipped rfl rfl rfl rfl rfl ?_
  refine RunK.skipped rfl rfl rfl rfl rfl ?_
  refine RunK.skipped rfl rfl rfl rfl rfl ?_
  refine RunK.step rfl rfl (ok_pick rfl rfl) ?_
  refine RunK.nil ?_
  refine A.sub (Sub.cons (t := 0) rfl (Sub.cons (t := 1) rfl (Sub.cons (t := 19) rfl (Sub.cons (t := 1900000) rfl (Sub.cons (t := 1900001) rfl Sub.nil))))) ?_
  refine A.yes rfl ?_
  refine A.regs (by kernel_rfl) (by kernel_rfl) (.inl rfl) ?_
  refine RunTK.last ?_
  refine RunK.step rfl rfl (ok_callM lives_fn (Sub.cons rfl (Sub.cons rfl Sub.nil)) tabs_v Args.nil) ?_
  refine RunK.step rfl rfl (ok_assign rfl) ?_
  refine RunK.nil ?_
  refine A.sub (Sub.cons (t := 4) rfl (Sub.cons (t := 1900000) rfl (Sub.cons (t := 1900001) rfl Sub.nil))) ?_
  refine A.ret ?_
  refine End.ret_then ?_
  exact End.ret1 rfl rfl (by first | exact Le.refl _ | exact Le.old _ _)
theorem DigestsKept_fnB (a b : List UInt8) (ha : a.length ≤ 100) (h : 100 < b.length) : FnM Tryd.prog 6 tabs [byt a, byt b] (.v (.bool true)) := by
  refine FnM.of Tryd.func6 rfl (by kernel_rfl) Tryd.ntmps6 (by simp) (by decide) (fun w => [(0, old w.heap.size (byt a)), (1, old w.heap.size (byt b)), (1900000, tab 0 (H8.list.map u32V)), (1900001, tab 1 (K64.map u32V))]) (fun w => (StartM.old rfl (StartM.old rfl (StartM.m (by simp [tabs]) (by decide) (StartM.m (by simp [tabs]) (by decide) StartM.nil))))) fun w₀ hM => ?_
  have htab := tabs_hi hM
  refine A.regs (by kernel_rfl) (by kernel_rfl) (.inl rfl) ?_
  refine RunTK.last ?_
  refine RunK.step rfl rfl (ok_assign rfl) ?_
  refine RunK.nil ?_
  refine A.sub (Sub.cons (t := 0) rfl (Sub.cons (t := 1) rfl (Sub.cons (t := 1900000) rfl (Sub.cons (t := 1900001) rfl Sub.nil)))) ?_
  refine A.seq ?_
  refine A.regs (by kernel_rfl) (by kernel_rfl) (.inl rfl) ?_
  refine RunTK.last ?_
  refine RunK.step rfl rfl (ok_move rfl) ?_
  refine RunK.step rfl rfl (ok_lenB Tryd.underlying30 rfl (Le.old _ _)) ?_
  refine RunK.step rfl rfl (ok_bin rfl rfl rfl) ?_; refine RunK.as (.bool false) (by simp; omega) ?_
  refine RunK.step rfl rfl (ok_move rfl) ?_
  refine RunK.guarded rfl rfl rfl rfl (ok_move rfl) ?_
  refine RunK.guarded rfl rfl rfl rfl (ok_lenB Tryd.underlying30 rfl (Le.old _ _)) ?_
  refine RunK.guarded rfl rfl rfl rfl (ok_bin rfl rfl rfl) ?_; refine RunK.as (.bool true) (by simp; omega) ?_
  refine RunK.step rfl rfl (ok_pick rfl rfl) ?_
  refine RunK.nil ?_
  refine A.sub (Sub.cons (t := 0) rfl (Sub.cons (t := 1) rfl (Sub.cons (t := 19) rfl (Sub.cons (t := 1900000) rfl (Sub.cons (t := 1900001) rfl Sub.nil))))) ?_
  refine A.yes rfl ?_
  refine A.regs (by kernel_rfl) (by kernel_rfl) (.inl rfl) ?_
  refine RunTK.last ?_
  refine RunK.step rfl rfl (ok_callM lives_fn (Sub.cons rfl (Sub.cons rfl Sub.nil)) tabs_v Args.nil) ?_
  refine RunK.step rfl rfl (ok_assign rfl) ?_
  refine RunK.nil ?_
  refine A.sub (Sub.cons (t := 4) rfl (Sub.cons (t := 1900000) rfl (Sub.cons (t := 1900001) rfl Sub.nil))) ?_
  refine A.ret ?_
  refine End.ret_then ?_
  exact End.ret1 rfl rfl (by first | exact Le.refl _ | exact Le.old _ _)
theorem own_cat {B m : Nat} {e : TypeId} {xs : List Value} {l : List UInt8} (hx : xs = l.map byteV) (hm : m = l.length) : Le (own B e m xs) (byt l) := by
  subst hx; exact own_byt hm
/-- One added to a byte. -/
def incB (b : UInt8) : UInt8 := UInt8.ofNat ((b.toNat + 1) % 256)
theorem incB_val (b : UInt8) : Value.int .u8 (IntKind.u8.wrap ((b.toNat : Int) + 1)) = byteV (incB b) := by
  rw [show (b.toNat : Int) + 1 = ((b.toNat + 1 : Nat) : Int) from rfl, wrap_u8_nat, byteV, incB]
  congr 2
  simp
set_option maxHeartbeats 2000000 in
theorem DigestsKept_fnC0 (a b : List UInt8) (hz : a.length = 0) (hb : b.length ≤ 100) : FnM Tryd.prog 6 tabs [byt a, byt b] (.v (.bool true)) := by
  refine FnM.of Tryd.func6 rfl (by kernel_rfl) Tryd.ntmps6 (by simp) (by decide) (fun w => [(0, old w.heap.size (byt a)), (1, old w.heap.size (byt b)), (1900000, tab 0 (H8.list.map u32V)), (1900001, tab 1 (K64.map u32V))]) (fun w => (StartM.old rfl (StartM.old rfl (StartM.m (by simp [tabs]) (by decide) (StartM.m (by simp [tabs]) (by decide) StartM.nil))))) fun w₀ hM => ?_
  have htab := tabs_hi hM
  refine A.regs (by kernel_rfl) (by kernel_rfl) (.inl rfl) ?_
  refine RunTK.last ?_
  refine RunK.step rfl rfl (ok_assign rfl) ?_
  refine RunK.nil ?_
  refine A.sub (Sub.cons (t := 0) rfl (Sub.cons (t := 1) rfl (Sub.cons (t := 1900000) rfl (Sub.cons (t := 1900001) rfl Sub.nil)))) ?_
  refine A.seq ?_
  refine A.regs (by kernel_rfl) (by kernel_rfl) (.inl rfl) ?_
  refine RunTK.last ?_
  refine RunK.step rfl rfl (ok_move rfl) ?_
  refine RunK.step rfl rfl (ok_lenB Tryd.underlying30 rfl (Le.old _ _)) ?_
  refine RunK.step rfl rfl (ok_bin rfl rfl rfl) ?_; refine RunK.as (.bool false) (by simp; omega) ?_
  refine RunK.step rfl rfl (ok_move rfl) ?_
  refine RunK.guarded rfl rfl rfl rfl (ok_move rfl) ?_
  refine RunK.guarded rfl rfl rfl rfl (ok_lenB Tryd.underlying30 rfl (Le.old _ _)) ?_
  refine RunK.guarded rfl rfl rfl rfl (ok_bin rfl rfl rfl) ?_; refine RunK.as (.bool false) (by simp; omega) ?_
  refine RunK.step rfl rfl (ok_pick rfl rfl) ?_
  refine RunK.nil ?_
  refine A.sub (Sub.cons (t := 0) rfl (Sub.cons (t := 1) rfl (Sub.cons (t := 19) rfl (Sub.cons (t := 1900000) rfl (Sub.cons (t := 1900001) rfl Sub.nil))))) ?_
  refine A.no rfl ?_
  refine A.skip ?_
  refine End.normal_then (End.code ?_)
  refine A.regs (by kernel_rfl) (by kernel_rfl) (.inl rfl) ?_
  refine RunTK.eff 2 (by decide) rfl (.inl rfl) ?_
  refine RunK.step rfl rfl (ok_build0own Tryd.underlying30 info5) ?_
  refine RunK.step rfl rfl (ok_move rfl) ?_
  refine RunK.nil ?_
  refine ⟨_, eff_appendS (vs := a.map byteV) Tryd.underlying30 info5 (by decide) rfl rfl rfl ((Le.old _ _).trans (Le.eq (byt_vals a))) (by simp [byteV, Value.oneCell']) (by simp; omega) (by decide) (fun g hg => (LeftS.cons (t := 0) rfl (Surv.old (by omega)) (LeftS.cons (t := 1) rfl (Surv.old (by omega)) (LeftS.cons (t := 19) rfl (Surv.v _) (LeftS.cons (t := 22) rfl (Surv.old (by omega)) (LeftS.cons (t := 1900000) rfl (Surv.tab (by omega)) (LeftS.cons (t := 1900001) rfl (Surv.tab (by omega)) LeftS.nil))))))), ?_⟩
  refine RunTK.last ?_
  refine RunK.step rfl rfl (ok_assign rfl) ?_
  refine RunK.nil ?_
  refine A.sub (Sub.cons (t := 0) rfl (Sub.cons (t := 1) rfl (Sub.eq (t := 5) _ rfl (show own w₀.heap.size 5 (0 + (a.map byteV).length) ([] ++ a.map byteV) = own w₀.heap.size 5 a.length (a.map byteV) from by simp) (Sub.cons (t := 1900000) rfl (Sub.cons (t := 1900001) rfl Sub.nil))))) ?_
  refine A.regs (by kernel_rfl) (by kernel_rfl) (.inl rfl) ?_
  refine RunTK.new 3 (by decide) rfl (.inl rfl) ?_
  refine RunK.step rfl rfl (ok_call New_fn Args.nil) ?_
  refine RunK.step rfl rfl (ok_move rfl) ?_
  refine RunK.step rfl rfl (ok_callM (Write_fn [] a (by simp; omega)) (Sub.cons rfl (Sub.cons rfl Sub.nil)) tabs_v (Args.cons rfl (Le.refl _) (Args.cons rfl (own_cat rfl rfl) Args.nil))) ?_; refine RunK.as (stV a) (by rw [List.nil_append]) ?_
  refine RunK.nil ?_
  refine ⟨_, _, eff_alloc (n := 77) (d := 6) (k := 1000006) zero40 (by decide), fun b6 hb6 => ?_⟩
  have hBb6 := hb6.1
  refine RunTK.eff 4 (by decide) rfl (.inl rfl) ?_
  refine RunK.nil ?_
  refine ⟨_, eff_storeA (n := 77) (s := 1000006) (size40.of (stL_length _)) rfl rfl (stL_ones _) hBb6 rfl ((stL_length _).symm) (LeftS.cons (t := 0) rfl (Surv.old (by omega)) (LeftS.cons (t := 1) rfl (Surv.old (by omega)) (LeftS.cons (t := 5) rfl (Surv.own (by decide)) (LeftS.cons (t := 6) rfl (Surv.v _) (LeftS.cons (t := 24) rfl (Surv.v _) (LeftS.cons (t := 25) rfl (Surv.own (by decide)) (LeftS.cons (t := 26) rfl (Surv.v _) (LeftS.cons (t := 1900000) rfl (Surv.tab (by omega)) (LeftS.cons (t := 1900001) rfl (Surv.tab (by omega)) LeftS.nil))))))))), ?_⟩
  refine RunTK.last ?_
  refine RunK.nil ?_
  refine A.sub (Sub.cons (t := 0) rfl (Sub.cons (t := 1) rfl (Sub.cons (t := 5) rfl (Sub.cons (t := 6) rfl (Sub.cons (t := 1000006) rfl (Sub.cons (t := 1900000) rfl (Sub.cons (t := 1900001) rfl Sub.nil))))))) ?_
  refine A.seq ?_
  refine A.regs (by kernel_rfl) (by kernel_rfl) (.inl rfl) ?_
  refine RunTK.last ?_
  refine RunK.step rfl rfl (ok_assign rfl) ?_
  refine RunK.nil ?_
  refine A.sub (Sub.cons (t := 0) rfl (Sub.cons (t := 1) rfl (Sub.cons (t := 5) rfl (Sub.cons (t := 6) rfl (Sub.cons (t := 7) rfl (Sub.cons (t := 1000006) rfl (Sub.cons (t := 1900000) rfl (Sub.cons (t := 1900001) rfl Sub.nil)))))))) ?_
  refine A.block ?_
  refine A.loop (ι := Nat) (fun i => i ≤ 0) (fun i => [(0, old w₀.heap.size (byt a)), (1, old w₀.heap.size (byt b)), (5, own w₀.heap.size 5 a.length (a.map byteV)), (6, .v (.pointer (some ⟨b6, 0, none⟩))), (7, .v (.int .i64 ((i : Nat) : Int))), (1000006, blk b6 40 (stL a)), (1900000, tab 0 (H8.list.map u32V)), (1900001, tab 1 (K64.map u32V))]) (fun i => 0 - i) 0 ?_ ?_ ?_
  · exact Nat.zero_le _
  · exact (Sub.cons (t := 0) rfl (Sub.cons (t := 1) rfl (Sub.cons (t := 5) rfl (Sub.cons (t := 6) rfl (Sub.cons (t := 7) rfl (Sub.cons (t := 1000006) rfl (Sub.cons (t := 1900000) rfl (Sub.cons (t := 1900001) rfl Sub.nil))))))))
  intro i hi
  refine A.seq ?_
  refine A.regs (by kernel_rfl) (by kernel_rfl) (.inl rfl) ?_
  refine RunTK.last ?_
  refine RunK.step rfl rfl (ok_move rfl) ?_
  refine RunK.step rfl rfl (ok_move rfl) ?_
  refine RunK.step rfl rfl (ok_lenB (l := a) Tryd.underlying30 rfl (own_cat rfl rfl)) ?_
  refine RunK.step rfl rfl (ok_bin rfl rfl rfl) ?_; refine RunK.as (.bool false) (by simp; omega) ?_
  refine RunK.nil ?_
  refine A.sub (Sub.cons (t := 0) rfl (Sub.cons (t := 1) rfl (Sub.cons (t := 5) rfl (Sub.cons (t := 6) rfl (Sub.cons (t := 7) rfl (Sub.cons (t := 30) rfl (Sub.cons (t := 1000006) rfl (Sub.cons (t := 1900000) rfl (Sub.cons (t := 1900001) rfl Sub.nil))))))))) ?_
  refine A.no rfl ?_
  refine A.exit ?_
  refine End.exit_then ?_
  refine End.exit_then ?_
  refine End.exit_here ?_
  refine End.normal_then (End.code ?_)
  refine A.regs (by kernel_rfl) (by kernel_rfl) (.inl rfl) ?_
  refine RunTK.new 3 (by decide) rfl (.inl rfl) ?_
  refine RunK.step rfl rfl (ok_loadA (s := 1000006) (by decide) Tryd.underlying40 rfl (size40.of (stL_length _)) rfl rfl) ?_
  refine RunK.step rfl rfl (ok_move rfl) ?_
  refine RunK.step rfl rfl (ok_callM (Write_fn a b (by omega)) (Sub.cons rfl (Sub.cons rfl Sub.nil)) tabs_v (Args.cons rfl (Le.refl _) (Args.cons rfl (Le.old _ _) Args.nil))) ?_
  refine RunK.nil ?_
  refine ⟨_, _, eff_alloc (n := 77) (d := 8) (k := 1000008) zero40 (by decide), fun b8 hb8 => ?_⟩
  have hBb8 := hb8.1
  have hlt_b6_b8 : b6 < b8 := hb8.2 1000006 _ _ _ rfl
  refine RunTK.eff 4 (by decide) rfl (.inl rfl) ?_
  refine RunK.nil ?_
  refine ⟨_, eff_storeA (n := 77) (s := 1000008) (size40.of (stL_length _)) rfl rfl (stL_ones _) hBb8 rfl ((stL_length _).symm) (LeftS.cons (t := 0) rfl (Surv.old (by omega)) (LeftS.cons (t := 1) rfl (Surv.old (by omega)) (LeftS.cons (t := 5) rfl (Surv.own (by decide)) (LeftS.cons (t := 6) rfl (Surv.v _) (LeftS.cons (t := 7) rfl (Surv.v _) (LeftS.cons (t := 8) rfl (Surv.v _) (LeftS.cons (t := 30) rfl (Surv.v _) (LeftS.cons (t := 39) rfl (Surv.v _) (LeftS.cons (t := 40) rfl (Surv.old (by omega)) (LeftS.cons (t := 41) rfl (Surv.v _) (LeftS.cons (t := 1000006) rfl (Surv.blk (by omega)) (LeftS.cons (t := 1900000) rfl (Surv.tab (by omega)) (LeftS.cons (t := 1900001) rfl (Surv.tab (by omega)) LeftS.nil))))))))))))), ?_⟩
  refine RunTK.last ?_
  refine RunK.nil ?_
  refine A.sub (Sub.cons (t := 0) rfl (Sub.cons (t := 1) rfl (Sub.cons (t := 6) rfl (Sub.cons (t := 8) rfl (Sub.cons (t := 1000006) rfl (Sub.cons (t := 1000008) rfl (Sub.cons (t := 1900000) rfl (Sub.cons (t := 1900001) rfl Sub.nil)))))))) ?_
  refine A.regs (by kernel_rfl) (by kernel_rfl) (.inl rfl) ?_
  refine RunTK.new 3 (by decide) rfl (.inl rfl) ?_
  refine RunK.step rfl rfl (ok_loadA (s := 1000006) (by decide) Tryd.underlying40 rfl (size40.of (stL_length _)) rfl rfl) ?_
  refine RunK.step rfl rfl (ok_move rfl) ?_
  refine RunK.step rfl rfl (ok_callM (Write_fn a a (by omega)) (Sub.cons rfl (Sub.cons rfl Sub.nil)) tabs_v (Args.cons rfl (Le.refl _) (Args.cons rfl (Le.old _ _) Args.nil))) ?_
  refine RunK.nil ?_
  refine ⟨_, _, eff_alloc (n := 77) (d := 9) (k := 1000009) zero40 (by decide), fun b9 hb9 => ?_⟩
  have hBb9 := hb9.1
  have hlt_b6_b9 : b6 < b9 := hb9.2 1000006 _ _ _ rfl
  have hlt_b8_b9 : b8 < b9 := hb9.2 1000008 _ _ _ rfl
  refine RunTK.eff 4 (by decide) rfl (.inl rfl) ?_
  refine RunK.nil ?_
  refine ⟨_, eff_storeA (n := 77) (s := 1000009) (size40.of (stL_length _)) rfl rfl (stL_ones _) hBb9 rfl ((stL_length _).symm) (LeftS.cons (t := 0) rfl (Surv.old (by omega)) (LeftS.cons (t := 1) rfl (Surv.old (by omega)) (LeftS.cons (t := 6) rfl (Surv.v _) (LeftS.cons (t := 8) rfl (Surv.v _) (LeftS.cons (t := 9) rfl (Surv.v _) (LeftS.cons (t := 42) rfl (Surv.v _) (LeftS.cons (t := 43) rfl (Surv.old (by omega)) (LeftS.cons (t := 44) rfl (Surv.v _) (LeftS.cons (t := 1000006) rfl (Surv.blk (by omega)) (LeftS.cons (t := 1000008) rfl (Surv.blk (by omega)) (LeftS.cons (t := 1900000) rfl (Surv.tab (by omega)) (LeftS.cons (t := 1900001) rfl (Surv.tab (by omega)) LeftS.nil)))))))))))), ?_⟩
  refine RunTK.last ?_
  refine RunK.nil ?_
  refine A.sub (Sub.cons (t := 0) rfl (Sub.cons (t := 1) rfl (Sub.cons (t := 6) rfl (Sub.cons (t := 8) rfl (Sub.cons (t := 9) rfl (Sub.cons (t := 1000006) rfl (Sub.cons (t := 1000008) rfl (Sub.cons (t := 1000009) rfl (Sub.cons (t := 1900000) rfl (Sub.cons (t := 1900001) rfl Sub.nil)))))))))) ?_
  refine A.regsG _ (fun B => (OldOf.p (t := 0) rfl (OldOf.p (t := 1) rfl (OldOf.v (t := 6) rfl (OldOf.v (t := 8) rfl (OldOf.v (t := 9) rfl (OldOf.p (t := 1000006) rfl (OldOf.p (t := 1000008) rfl (OldOf.p (t := 1000009) rfl (OldOf.p (t := 1900000) rfl (OldOf.p (t := 1900001) rfl OldOf.nil))))))))))) (by kernel_rfl) (by kernel_rfl) (.inl rfl) (fun B hB => ?_)
  refine RunTK.eff 2 (by decide) rfl (.inl rfl) ?_
  refine RunK.step rfl rfl (ok_build0own Tryd.underlying30 info5) ?_
  refine RunK.step rfl rfl (ok_move rfl) ?_
  refine RunK.nil ?_
  refine ⟨_, eff_appendS (vs := a.map byteV) Tryd.underlying30 info5 (by decide) rfl rfl rfl ((Le.old _ _).trans ((Le.old _ _).trans (Le.eq (byt_vals a)))) (by simp [byteV, Value.oneCell']) (by simp; omega) (by decide) (fun g hg => (LeftS.cons (t := 0) rfl (Surv.old (by omega)) (LeftS.cons (t := 1) rfl (Surv.old (by omega)) (LeftS.cons (t := 6) rfl (Surv.v _) (LeftS.cons (t := 8) rfl (Surv.v _) (LeftS.cons (t := 9) rfl (Surv.v _) (LeftS.cons (t := 46) rfl (Surv.old (by omega)) (LeftS.cons (t := 1000006) rfl (Surv.old (by omega)) (LeftS.cons (t := 1000008) rfl (Surv.old (by omega)) (LeftS.cons (t := 1000009) rfl (Surv.old (by omega)) (LeftS.cons (t := 1900000) rfl (Surv.old (by omega)) (LeftS.cons (t := 1900001) rfl (Surv.old (by omega)) LeftS.nil)))))))))))), ?_⟩
  refine RunTK.eff 4 (by decide) rfl (.inl rfl) ?_
  refine RunK.step rfl rfl (ok_move rfl) ?_
  refine RunK.nil ?_
  refine ⟨_, eff_appendS (vs := b.map byteV) Tryd.underlying30 info5 (by decide) rfl rfl rfl ((Le.old _ _).trans ((Le.old _ _).trans (Le.eq (byt_vals b)))) (by simp [byteV, Value.oneCell']) (by simp; omega) (by decide) (fun g hg => (LeftS.cons (t := 0) rfl (Surv.old (by omega)) (LeftS.cons (t := 1) rfl (Surv.old (by omega)) (LeftS.cons (t := 6) rfl (Surv.v _) (LeftS.cons (t := 8) rfl (Surv.v _) (LeftS.cons (t := 9) rfl (Surv.v _) (LeftS.cons (t := 46) rfl (Surv.old (by omega)) (LeftS.cons (t := 48) rfl (Surv.old (by omega)) (LeftS.cons (t := 1000006) rfl (Surv.old (by omega)) (LeftS.cons (t := 1000008) rfl (Surv.old (by omega)) (LeftS.cons (t := 1000009) rfl (Surv.old (by omega)) (LeftS.cons (t := 1900000) rfl (Surv.old (by omega)) (LeftS.cons (t := 1900001) rfl (Surv.old (by omega)) LeftS.nil))))))))))))), ?_⟩
  refine RunTK.last ?_
  refine RunK.step rfl rfl (ok_assign rfl) ?_
  refine RunK.nil ?_
  refine A.sub (Sub.cons (t := 0) rfl (Sub.cons (t := 6) rfl (Sub.cons (t := 8) rfl (Sub.cons (t := 9) rfl (Sub.cons (t := 10) rfl (Sub.cons (t := 1000006) rfl (Sub.cons (t := 1000008) rfl (Sub.cons (t := 1000009) rfl (Sub.cons (t := 1900000) rfl (Sub.cons (t := 1900001) rfl Sub.nil)))))))))) ?_
  refine A.subL (SubL.cons (t := 0) rfl (Le.old _ _) (SubL.cons (t := 6) rfl (Le.refl _) (SubL.cons (t := 8) rfl (Le.refl _) (SubL.cons (t := 9) rfl (Le.refl _) (SubL.cons (t := 10) rfl (Le.refl _) (SubL.cons (t := 1000006) rfl (Le.old _ _) (SubL.cons (t := 1000008) rfl (Le.old _ _) (SubL.cons (t := 1000009) rfl (Le.old _ _) (SubL.cons (t := 1900000) rfl (Le.old _ _) (SubL.cons (t := 1900001) rfl (Le.old _ _) SubL.nil)))))))))) ?_
  refine A.regsG _ (fun B => (OldOf.p (t := 0) rfl (OldOf.v (t := 6) rfl (OldOf.v (t := 8) rfl (OldOf.v (t := 9) rfl (OldOf.p (t := 10) rfl (OldOf.p (t := 1000006) rfl (OldOf.p (t := 1000008) rfl (OldOf.p (t := 1000009) rfl (OldOf.p (t := 1900000) rfl (OldOf.p (t := 1900001) rfl OldOf.nil))))))))))) (by kernel_rfl) (by kernel_rfl) (.inl rfl) (fun B hB => ?_)
  refine RunTK.eff 2 (by decide) rfl (.inl rfl) ?_
  refine RunK.step rfl rfl (ok_build0own Tryd.underlying30 info5) ?_
  refine RunK.step rfl rfl (ok_move rfl) ?_
  refine RunK.nil ?_
  refine ⟨_, eff_appendS (vs := a.map byteV) Tryd.underlying30 info5 (by decide) rfl rfl rfl ((Le.old _ _).trans ((Le.old _ _).trans (Le.eq (byt_vals a)))) (by simp [byteV, Value.oneCell']) (by simp; omega) (by decide) (fun g hg => (LeftS.cons (t := 0) rfl (Surv.old (by omega)) (LeftS.cons (t := 6) rfl (Surv.v _) (LeftS.cons (t := 8) rfl (Surv.v _) (LeftS.cons (t := 9) rfl (Surv.v _) (LeftS.cons (t := 10) rfl (Surv.old (by omega)) (LeftS.cons (t := 51) rfl (Surv.old (by omega)) (LeftS.cons (t := 1000006) rfl (Surv.old (by omega)) (LeftS.cons (t := 1000008) rfl (Surv.old (by omega)) (LeftS.cons (t := 1000009) rfl (Surv.old (by omega)) (LeftS.cons (t := 1900000) rfl (Surv.old (by omega)) (LeftS.cons (t := 1900001) rfl (Surv.old (by omega)) LeftS.nil)))))))))))), ?_⟩
  refine RunTK.eff 4 (by decide) rfl (.inl rfl) ?_
  refine RunK.step rfl rfl (ok_move rfl) ?_
  refine RunK.nil ?_
  refine ⟨_, eff_appendS (vs := a.map byteV) Tryd.underlying30 info5 (by decide) rfl rfl rfl ((Le.old _ _).trans ((Le.old _ _).trans (Le.eq (byt_vals a)))) (by simp [byteV, Value.oneCell']) (by simp; omega) (by decide) (fun g hg => (LeftS.cons (t := 0) rfl (Surv.old (by omega)) (LeftS.cons (t := 6) rfl (Surv.v _) (LeftS.cons (t := 8) rfl (Surv.v _) (LeftS.cons (t := 9) rfl (Surv.v _) (LeftS.cons (t := 10) rfl (Surv.old (by omega)) (LeftS.cons (t := 51) rfl (Surv.old (by omega)) (LeftS.cons (t := 53) rfl (Surv.old (by omega)) (LeftS.cons (t := 1000006) rfl (Surv.old (by omega)) (LeftS.cons (t := 1000008) rfl (Surv.old (by omega)) (LeftS.cons (t := 1000009) rfl (Surv.old (by omega)) (LeftS.cons (t := 1900000) rfl (Surv.old (by omega)) (LeftS.cons (t := 1900001) rfl (Surv.old (by omega)) LeftS.nil))))))))))))), ?_⟩
  refine RunTK.last ?_
  refine RunK.step rfl rfl (ok_assign rfl) ?_
  refine RunK.nil ?_
  refine A.sub (Sub.cons (t := 0) rfl (Sub.cons (t := 6) rfl (Sub.cons (t := 8) rfl (Sub.cons (t := 9) rfl (Sub.cons (t := 10) rfl (Sub.cons (t := 11) rfl (Sub.cons (t := 1000006) rfl (Sub.cons (t := 1000008) rfl (Sub.cons (t := 1000009) rfl (Sub.cons (t := 1900000) rfl (Sub.cons (t := 1900001) rfl Sub.nil))))))))))) ?_
  refine A.subL (SubL.cons (t := 0) rfl (Le.old _ _) (SubL.cons (t := 6) rfl (Le.refl _) (SubL.cons (t := 8) rfl (Le.refl _) (SubL.cons (t := 9) rfl (Le.refl _) (SubL.cons (t := 10) rfl (Le.old _ _) (SubL.cons (t := 11) rfl (Le.refl _) (SubL.cons (t := 1000006) rfl (Le.old _ _) (SubL.cons (t := 1000008) rfl (Le.old _ _) (SubL.cons (t := 1000009) rfl (Le.old _ _) (SubL.cons (t := 1900000) rfl (Le.old _ _) (SubL.cons (t := 1900001) rfl (Le.old _ _) SubL.nil))))))))))) ?_
  refine A.regs (by kernel_rfl) (by kernel_rfl) (.inl rfl) ?_
  refine RunTK.last ?_
  refine RunK.step rfl rfl (ok_loadA (s := 1000006) (by decide) Tryd.underlying40 rfl (size40.of (stL_length _)) rfl rfl) ?_
  refine RunK.step rfl rfl (ok_callM (Sum_fn a (by omega)) (Sub.cons rfl (Sub.cons rfl Sub.nil)) tabs_v (Args.cons rfl (Le.refl _) Args.nil)) ?_
  refine RunK.step rfl rfl (ok_move rfl) ?_
  refine RunK.step rfl rfl (ok_call (refSum_fn a (by omega)) (Args.cons rfl (Le.old _ _) Args.nil)) ?_
  refine RunK.step rfl rfl (ok_eqlA Tryd.underlying35 Tryd.underlying5 info5 (by kernel_rfl) rfl rfl rfl (by rw [List.length_map, sha_length]) (ints_u8 _)) ?_
  refine RunK.step rfl rfl (ok_move rfl) ?_
  refine RunK.guarded rfl rfl rfl rfl (ok_loadA (s := 1000008) (by decide) Tryd.underlying40 rfl (size40.of (stL_length _)) rfl rfl) ?_
  refine RunK.guarded rfl rfl rfl rfl (ok_callM (Sum_fn (a ++ b) (by simp; omega)) (Sub.cons rfl (Sub.cons rfl Sub.nil)) tabs_v (Args.cons rfl (Le.refl _) Args.nil)) ?_
  refine RunK.guarded rfl rfl rfl rfl (ok_move rfl) ?_
  refine RunK.guarded rfl rfl rfl rfl (ok_call (refSum_fn (a ++ b) (by simp; omega)) (Args.cons rfl (own_cat (by simp) (by simp)) Args.nil)) ?_
  refine RunK.guarded rfl rfl rfl rfl (ok_eqlA Tryd.underlying35 Tryd.underlying5 info5 (by kernel_rfl) rfl rfl rfl (by rw [List.length_map, sha_length]) (ints_u8 _)) ?_
  refine RunK.step rfl rfl (ok_pick rfl rfl) ?_; refine RunK.as (.bool true) (by rfl) ?_
  refine RunK.step rfl rfl (ok_move rfl) ?_
  refine RunK.guarded rfl rfl rfl rfl (ok_loadA (s := 1000009) (by decide) Tryd.underlying40 rfl (size40.of (stL_length _)) rfl rfl) ?_
  refine RunK.guarded rfl rfl rfl rfl (ok_callM (Sum_fn (a ++ a) (by simp; omega)) (Sub.cons rfl (Sub.cons rfl Sub.nil)) tabs_v (Args.cons rfl (Le.refl _) Args.nil)) ?_
  refine RunK.guarded rfl rfl rfl rfl (ok_move rfl) ?_
  refine RunK.guarded rfl rfl rfl rfl (ok_call (refSum_fn (a ++ a) (by simp; omega)) (Args.cons rfl (own_cat (by simp) (by simp)) Args.nil)) ?_
  refine RunK.guarded rfl rfl rfl rfl (ok_eqlA Tryd.underlying35 Tryd.underlying5 info5 (by kernel_rfl) rfl rfl rfl (by rw [List.length_map, sha_length]) (ints_u8 _)) ?_
  refine RunK.step rfl rfl (ok_pick rfl rfl) ?_; refine RunK.as (.bool true) (by rfl) ?_
  refine RunK.step rfl rfl (ok_move rfl) ?_
  refine RunK.guarded rfl rfl rfl rfl (ok_callM lives_fn (Sub.cons rfl (Sub.cons rfl Sub.nil)) tabs_v Args.nil) ?_
  refine RunK.step rfl rfl (ok_pick rfl rfl) ?_; refine RunK.as (.bool true) (by rfl) ?_
  refine RunK.step rfl rfl (ok_assign rfl) ?_
  refine RunK.nil ?_
  refine A.sub (Sub.cons (t := 4) rfl (Sub.cons (t := 1000006) rfl (Sub.cons (t := 1000008) rfl (Sub.cons (t := 1000009) rfl (Sub.cons (t := 1900000) rfl (Sub.cons (t := 1900001) rfl Sub.nil)))))) ?_
  refine A.ret ?_
  exact End.ret1 rfl rfl (by first | exact Le.refl _ | exact Le.old _ _)
set_option maxHeartbeats 2000000 in
theorem DigestsKept_fnC (a b : List UInt8) (ha : a.length ≤ 100) (hb : b.length ≤ 100) (hpos : 0 < a.length) : FnM Tryd.prog 6 tabs [byt a, byt b] (.v (.bool true)) := by
  refine FnM.of Tryd.func6 rfl (by kernel_rfl) Tryd.ntmps6 (by simp) (by decide) (fun w => [(0, old w.heap.size (byt a)), (1, old w.heap.size (byt b)), (1900000, tab 0 (H8.list.map u32V)), (1900001, tab 1 (K64.map u32V))]) (fun w => (StartM.old rfl (StartM.old rfl (StartM.m (by simp [tabs]) (by decide) (StartM.m (by simp [tabs]) (by decide) StartM.nil))))) fun w₀ hM => ?_
  have htab := tabs_hi hM
  refine A.regs (by kernel_rfl) (by kernel_rfl) (.inl rfl) ?_
  refine RunTK.last ?_
  refine RunK.step rfl rfl (ok_assign rfl) ?_
  refine RunK.nil ?_
  refine A.sub (Sub.cons (t := 0) rfl (Sub.cons (t := 1) rfl (Sub.cons (t := 1900000) rfl (Sub.cons (t := 1900001) rfl Sub.nil)))) ?_
  refine A.seq ?_
  refine A.regs (by kernel_rfl) (by kernel_rfl) (.inl rfl) ?_
  refine RunTK.last ?_
  refine RunK.step rfl rfl (ok_move rfl) ?_
  refine RunK.step rfl rfl (ok_lenB Tryd.underlying30 rfl (Le.old _ _)) ?_
  refine RunK.step rfl rfl (ok_bin rfl rfl rfl) ?_; refine RunK.as (.bool false) (by simp; omega) ?_
  refine RunK.step rfl rfl (ok_move rfl) ?_
  refine RunK.guarded rfl rfl rfl rfl (ok_move rfl) ?_
  refine RunK.guarded rfl rfl rfl rfl (ok_lenB Tryd.underlying30 rfl (Le.old _ _)) ?_
  refine RunK.guarded rfl rfl rfl rfl (ok_bin rfl rfl rfl) ?_; refine RunK.as (.bool false) (by simp; omega) ?_
  refine RunK.step rfl rfl (ok_pick rfl rfl) ?_
  refine RunK.nil ?_
  refine A.sub (Sub.cons (t := 0) rfl (Sub.cons (t := 1) rfl (Sub.cons (t := 19) rfl (Sub.cons (t := 1900000) rfl (Sub.cons (t := 1900001) rfl Sub.nil))))) ?_
  refine A.no rfl ?_
  refine A.skip ?_
  refine End.normal_then (End.code ?_)
  refine A.regs (by kernel_rfl) (by kernel_rfl) (.inl rfl) ?_
  refine RunTK.eff 2 (by decide) rfl (.inl rfl) ?_
  refine RunK.step rfl rfl (ok_build0own Tryd.underlying30 info5) ?_
  refine RunK.step rfl rfl (ok_move rfl) ?_
  refine RunK.nil ?_
  refine ⟨_, eff_appendS (vs := a.map byteV) Tryd.underlying30 info5 (by decide) rfl rfl rfl ((Le.old _ _).trans (Le.eq (byt_vals a))) (by simp [byteV, Value.oneCell']) (by simp; omega) (by decide) (fun g hg => (LeftS.cons (t := 0) rfl (Surv.old (by omega)) (LeftS.cons (t := 1) rfl (Surv.old (by omega)) (LeftS.cons (t := 19) rfl (Surv.v _) (LeftS.cons (t := 22) rfl (Surv.old (by omega)) (LeftS.cons (t := 1900000) rfl (Surv.tab (by omega)) (LeftS.cons (t := 1900001) rfl (Surv.tab (by omega)) LeftS.nil))))))), ?_⟩
  refine RunTK.last ?_
  refine RunK.step rfl rfl (ok_assign rfl) ?_
  refine RunK.nil ?_
  refine A.sub (Sub.cons (t := 0) rfl (Sub.cons (t := 1) rfl (Sub.eq (t := 5) _ rfl (show own w₀.heap.size 5 (0 + (a.map byteV).length) ([] ++ a.map byteV) = own w₀.heap.size 5 a.length (a.map byteV) from by simp) (Sub.cons (t := 1900000) rfl (Sub.cons (t := 1900001) rfl Sub.nil))))) ?_
  refine A.openOwn (t := 5) (k := 1000095) rfl hpos fun g cap ys hBg hcap1 hcap2 hgl hgx => ?_
  refine A.regs (by kernel_rfl) (by kernel_rfl) (.inl rfl) ?_
  refine RunTK.new 3 (by decide) rfl (.inl rfl) ?_
  refine RunK.step rfl rfl (ok_call New_fn Args.nil) ?_
  refine RunK.step rfl rfl (ok_moveB (s := 1000095) a (by decide) rfl rfl (by simp) hcap1 hcap2 (by rw [List.drop_zero, List.take_left' (by simp)])) ?_
  refine RunK.step rfl rfl (ok_callM (Write_fn [] a (by simp; omega)) (Sub.cons rfl (Sub.cons rfl Sub.nil)) tabs_v (Args.cons rfl (Le.refl _) (Args.cons rfl (Le.refl _) Args.nil))) ?_; refine RunK.as (stV a) (by rw [List.nil_append]) ?_
  refine RunK.nil ?_
  refine ⟨_, _, eff_alloc (n := 77) (d := 6) (k := 1000006) zero40 (by decide), fun b6 hb6 => ?_⟩
  have hBb6 := hb6.1
  have hlt_g_b6 : g < b6 := hb6.2 1000095 _ _ _ rfl
  refine RunTK.eff 4 (by decide) rfl (.inl rfl) ?_
  refine RunK.nil ?_
  refine ⟨_, eff_storeA (n := 77) (s := 1000006) (size40.of (stL_length _)) rfl rfl (stL_ones _) hBb6 rfl ((stL_length _).symm) (LeftS.cons (t := 0) rfl (Surv.old (by omega)) (LeftS.cons (t := 1) rfl (Surv.old (by omega)) (LeftS.cons (t := 5) rfl (Surv.v _) (LeftS.cons (t := 6) rfl (Surv.v _) (LeftS.cons (t := 24) rfl (Surv.v _) (LeftS.cons (t := 26) rfl (Surv.v _) (LeftS.cons (t := 1000095) rfl (Surv.blkT (by decide)) (LeftS.cons (t := 1900000) rfl (Surv.tab (by omega)) (LeftS.cons (t := 1900001) rfl (Surv.tab (by omega)) LeftS.nil))))))))), ?_⟩
  refine RunTK.last ?_
  refine RunK.nil ?_
  refine A.sub (Sub.cons (t := 0) rfl (Sub.cons (t := 1) rfl (Sub.cons (t := 5) rfl (Sub.cons (t := 6) rfl (Sub.cons (t := 1000006) rfl (Sub.cons (t := 1000095) rfl (Sub.cons (t := 1900000) rfl (Sub.cons (t := 1900001) rfl Sub.nil)))))))) ?_
  refine A.seq ?_
  refine A.regs (by kernel_rfl) (by kernel_rfl) (.inl rfl) ?_
  refine RunTK.last ?_
  refine RunK.step rfl rfl (ok_assign rfl) ?_
  refine RunK.nil ?_
  refine A.sub (Sub.cons (t := 0) rfl (Sub.cons (t := 1) rfl (Sub.cons (t := 5) rfl (Sub.cons (t := 6) rfl (Sub.cons (t := 7) rfl (Sub.cons (t := 1000006) rfl (Sub.cons (t := 1000095) rfl (Sub.cons (t := 1900000) rfl (Sub.cons (t := 1900001) rfl Sub.nil))))))))) ?_
  refine A.block ?_
  refine A.loop (ι := (Nat × List UInt8)) (fun s => s.1 ≤ a.length ∧ s.2.length = a.length) (fun s => [(0, old w₀.heap.size (byt a)), (1, old w₀.heap.size (byt b)), (5, .v (.slice (some ⟨g, 0, none⟩) a.length cap)), (6, .v (.pointer (some ⟨b6, 0, none⟩))), (7, .v (.int .i64 ((s.1 : Nat) : Int))), (1000006, blk b6 40 (stL a)), (1000095, blk g 5 (s.2.map byteV ++ ys)), (1900000, tab 0 (H8.list.map u32V)), (1900001, tab 1 (K64.map u32V))]) (fun s => a.length - s.1) (0, a) ?_ ?_ ?_
  · exact ⟨Nat.zero_le _, rfl⟩
  · exact (Sub.cons (t := 0) rfl (Sub.cons (t := 1) rfl (Sub.eq (t := 5) _ rfl (by simp) (Sub.cons (t := 6) rfl (Sub.cons (t := 7) rfl (Sub.cons (t := 1000006) rfl (Sub.eq (t := 1000095) _ rfl (by simp) (Sub.cons (t := 1900000) rfl (Sub.cons (t := 1900001) rfl Sub.nil)))))))))
  intro s hs
  obtain ⟨hs1, hs2⟩ := hs
  refine A.seq ?_
  refine A.regs (by kernel_rfl) (by kernel_rfl) (.inl rfl) ?_
  refine RunTK.last ?_
  refine RunK.step rfl rfl (ok_move rfl) ?_
  refine RunK.step rfl rfl (ok_move rfl) ?_
  refine RunK.step rfl rfl (ok_lenV Tryd.underlying30 rfl) ?_
  refine RunK.step rfl rfl (ok_bin rfl rfl rfl) ?_
  refine RunK.nil ?_
  refine A.sub (Sub.cons (t := 0) rfl (Sub.cons (t := 1) rfl (Sub.cons (t := 5) rfl (Sub.cons (t := 6) rfl (Sub.cons (t := 7) rfl (Sub.cons (t := 30) rfl (Sub.cons (t := 1000006) rfl (Sub.cons (t := 1000095) rfl (Sub.cons (t := 1900000) rfl (Sub.cons (t := 1900001) rfl Sub.nil)))))))))) ?_
  refine A.cond rfl (fun hc30 => ?_) (fun hc30 => ?_)
  · have hlt : s.1 < a.length := by simp at hc30; omega
    refine A.skip ?_
    refine End.normal_then (End.code ?_)
    refine A.seq ?_
    refine A.block ?_
    refine A.reg (by kernel_rfl) (by kernel_rfl) (.inl rfl) ?_
    refine RunTK.eff 6 (by decide) rfl (.inl rfl) ?_
    refine RunK.step rfl rfl (ok_move rfl) ?_
    refine RunK.step rfl rfl (ok_move rfl) ?_
    refine RunK.step rfl rfl (ok_indexV s.1 Tryd.underlying30 info5 rfl rfl rfl (by omega)) ?_
    refine RunK.step rfl rfl (ok_loadV (s := 1000095) (by decide) Tryd.underlying5 rfl rfl rfl (by rw [Nat.zero_add, List.getElem?_append_left (by simp; omega), List.getElem?_map, List.getElem?_eq_getElem (by omega)]; rfl)) ?_
    refine RunK.step rfl rfl (ok_bin rfl rfl rfl) ?_; refine RunK.as (byteV (incB s.2[s.1])) (incB_val _) ?_
    refine RunK.step rfl rfl (ok_indexV s.1 Tryd.underlying30 info5 rfl rfl rfl (by omega)) ?_
    refine RunK.nil ?_
    refine ⟨_, eff_storeS (n := 77) (s := 1000095) info5 rfl rfl rfl hBg rfl (by simp; omega) (LeftS.cons (t := 0) rfl (Surv.old (by omega)) (LeftS.cons (t := 1) rfl (Surv.old (by omega)) (LeftS.cons (t := 5) rfl (Surv.v _) (LeftS.cons (t := 6) rfl (Surv.v _) (LeftS.cons (t := 7) rfl (Surv.v _) (LeftS.cons (t := 30) rfl (Surv.v _) (LeftS.cons (t := 33) rfl (Surv.v _) (LeftS.cons (t := 34) rfl (Surv.v _) (LeftS.cons (t := 35) rfl (Surv.v _) (LeftS.cons (t := 36) rfl (Surv.v _) (LeftS.cons (t := 37) rfl (Surv.v _) (LeftS.cons (t := 38) rfl (Surv.v _) (LeftS.cons (t := 1000006) rfl (Surv.blkT (by decide)) (LeftS.cons (t := 1900000) rfl (Surv.tab (by omega)) (LeftS.cons (t := 1900001) rfl (Surv.tab (by omega)) LeftS.nil))))))))))))))), ?_⟩
    refine RunTK.last ?_
    refine RunK.nil ?_
    refine End.sub (Sub.cons (t := 0) rfl (Sub.cons (t := 1) rfl (Sub.cons (t := 5) rfl (Sub.cons (t := 6) rfl (Sub.cons (t := 7) rfl (Sub.cons (t := 1000006) rfl (Sub.cons (t := 1000095) rfl (Sub.cons (t := 1900000) rfl (Sub.cons (t := 1900001) rfl Sub.nil))))))))) ?_
    refine End.normal_block ?_
    refine End.normal_then (End.code ?_)
    refine A.reg (by kernel_rfl) (by kernel_rfl) (.inl rfl) ?_
    refine RunTK.last ?_
    refine RunK.step rfl rfl (ok_move rfl) ?_
    refine RunK.step rfl rfl (ok_bin rfl rfl rfl) ?_; refine RunK.as (.int .i64 ((s.1 + 1 : Nat) : Int)) (by rw [wrap_i64 (by omega) (by omega)]; first | rfl | (congr 1; omega)) ?_
    refine RunK.step rfl rfl (ok_assign rfl) ?_
    refine RunK.nil ?_
    refine End.sub (Sub.cons (t := 0) rfl (Sub.cons (t := 1) rfl (Sub.cons (t := 5) rfl (Sub.cons (t := 6) rfl (Sub.cons (t := 7) rfl (Sub.cons (t := 1000006) rfl (Sub.cons (t := 1000095) rfl (Sub.cons (t := 1900000) rfl (Sub.cons (t := 1900001) rfl Sub.nil))))))))) ?_
    refine End.normal_then ?_
    refine End.again (s.1 + 1, s.2.set s.1 (incB s.2[s.1])) ?_ ?_ ?_
    · show _ ∧ _; simp; omega
    · show _ - _ < _ - _; omega
    · exact (Sub.cons (t := 0) rfl (Sub.cons (t := 1) rfl (Sub.cons (t := 5) rfl (Sub.cons (t := 6) rfl (Sub.cons (t := 7) rfl (Sub.cons (t := 1000006) rfl (Sub.eq (t := 1000095) _ rfl (by rw [Nat.zero_add, List.set_append_left _ _ (by simp; omega), ← List.map_set]) (Sub.cons (t := 1900000) rfl (Sub.cons (t := 1900001) rfl Sub.nil)))))))))
  · have hse : s.1 = a.length := by simp at hc30; omega
    refine A.exit ?_
    refine End.exit_then ?_
    refine End.exit_then ?_
    refine End.exit_here ?_
    refine End.normal_then (End.code ?_)
    refine A.regs (by kernel_rfl) (by kernel_rfl) (.inl rfl) ?_
    refine RunTK.new 3 (by decide) rfl (.inl rfl) ?_
    refine RunK.step rfl rfl (ok_loadA (s := 1000006) (by decide) Tryd.underlying40 rfl (size40.of (stL_length _)) rfl rfl) ?_
    refine RunK.step rfl rfl (ok_move rfl) ?_
    refine RunK.step rfl rfl (ok_callM (Write_fn a b (by omega)) (Sub.cons rfl (Sub.cons rfl Sub.nil)) tabs_v (Args.cons rfl (Le.refl _) (Args.cons rfl (Le.old _ _) Args.nil))) ?_
    refine RunK.nil ?_
    refine ⟨_, _, eff_alloc (n := 77) (d := 8) (k := 1000008) zero40 (by decide), fun b8 hb8 => ?_⟩
    have hBb8 := hb8.1
    have hlt_b6_b8 : b6 < b8 := hb8.2 1000006 _ _ _ rfl
    have hlt_g_b8 : g < b8 := hb8.2 1000095 _ _ _ rfl
    refine RunTK.eff 4 (by decide) rfl (.inl rfl) ?_
    refine RunK.nil ?_
    refine ⟨_, eff_storeA (n := 77) (s := 1000008) (size40.of (stL_length _)) rfl rfl (stL_ones _) hBb8 rfl ((stL_length _).symm) (LeftS.cons (t := 0) rfl (Surv.old (by omega)) (LeftS.cons (t := 1) rfl (Surv.old (by omega)) (LeftS.cons (t := 5) rfl (Surv.v _) (LeftS.cons (t := 6) rfl (Surv.v _) (LeftS.cons (t := 7) rfl (Surv.v _) (LeftS.cons (t := 8) rfl (Surv.v _) (LeftS.cons (t := 30) rfl (Surv.v _) (LeftS.cons (t := 39) rfl (Surv.v _) (LeftS.cons (t := 40) rfl (Surv.old (by omega)) (LeftS.cons (t := 41) rfl (Surv.v _) (LeftS.cons (t := 1000006) rfl (Surv.blk (by omega)) (LeftS.cons (t := 1000095) rfl (Surv.blkT (by decide)) (LeftS.cons (t := 1900000) rfl (Surv.tab (by omega)) (LeftS.cons (t := 1900001) rfl (Surv.tab (by omega)) LeftS.nil)))))))))))))), ?_⟩
    refine RunTK.last ?_
    refine RunK.nil ?_
    refine A.sub (Sub.cons (t := 0) rfl (Sub.cons (t := 1) rfl (Sub.cons (t := 6) rfl (Sub.cons (t := 8) rfl (Sub.cons (t := 1000006) rfl (Sub.cons (t := 1000008) rfl (Sub.cons (t := 1000095) rfl (Sub.cons (t := 1900000) rfl (Sub.cons (t := 1900001) rfl Sub.nil))))))))) ?_
    refine A.regs (by kernel_rfl) (by kernel_rfl) (.inl rfl) ?_
    refine RunTK.new 3 (by decide) rfl (.inl rfl) ?_
    refine RunK.step rfl rfl (ok_loadA (s := 1000006) (by decide) Tryd.underlying40 rfl (size40.of (stL_length _)) rfl rfl) ?_
    refine RunK.step rfl rfl (ok_move rfl) ?_
    refine RunK.step rfl rfl (ok_callM (Write_fn a a (by omega)) (Sub.cons rfl (Sub.cons rfl Sub.nil)) tabs_v (Args.cons rfl (Le.refl _) (Args.cons rfl (Le.old _ _) Args.nil))) ?_
    refine RunK.nil ?_
    refine ⟨_, _, eff_alloc (n := 77) (d := 9) (k := 1000009) zero40 (by decide), fun b9 hb9 => ?_⟩
    have hBb9 := hb9.1
    have hlt_b6_b9 : b6 < b9 := hb9.2 1000006 _ _ _ rfl
    have hlt_b8_b9 : b8 < b9 := hb9.2 1000008 _ _ _ rfl
    have hlt_g_b9 : g < b9 := hb9.2 1000095 _ _ _ rfl
    refine RunTK.eff 4 (by decide) rfl (.inl rfl) ?_
    refine RunK.nil ?_
    refine ⟨_, eff_storeA (n := 77) (s := 1000009) (size40.of (stL_length _)) rfl rfl (stL_ones _) hBb9 rfl ((stL_length _).symm) (LeftS.cons (t := 0) rfl (Surv.old (by omega)) (LeftS.cons (t := 1) rfl (Surv.old (by omega)) (LeftS.cons (t := 6) rfl (Surv.v _) (LeftS.cons (t := 8) rfl (Surv.v _) (LeftS.cons (t := 9) rfl (Surv.v _) (LeftS.cons (t := 42) rfl (Surv.v _) (LeftS.cons (t := 43) rfl (Surv.old (by omega)) (LeftS.cons (t := 44) rfl (Surv.v _) (LeftS.cons (t := 1000006) rfl (Surv.blk (by omega)) (LeftS.cons (t := 1000008) rfl (Surv.blk (by omega)) (LeftS.cons (t := 1000095) rfl (Surv.blkT (by decide)) (LeftS.cons (t := 1900000) rfl (Surv.tab (by omega)) (LeftS.cons (t := 1900001) rfl (Surv.tab (by omega)) LeftS.nil))))))))))))), ?_⟩
    refine RunTK.last ?_
    refine RunK.nil ?_
    refine A.sub (Sub.cons (t := 0) rfl (Sub.cons (t := 1) rfl (Sub.cons (t := 6) rfl (Sub.cons (t := 8) rfl (Sub.cons (t := 9) rfl (Sub.cons (t := 1000006) rfl (Sub.cons (t := 1000008) rfl (Sub.cons (t := 1000009) rfl (Sub.cons (t := 1000095) rfl (Sub.cons (t := 1900000) rfl (Sub.cons (t := 1900001) rfl Sub.nil))))))))))) ?_
    refine A.regsG _ (fun B => (OldOf.p (t := 0) rfl (OldOf.p (t := 1) rfl (OldOf.v (t := 6) rfl (OldOf.v (t := 8) rfl (OldOf.v (t := 9) rfl (OldOf.p (t := 1000006) rfl (OldOf.p (t := 1000008) rfl (OldOf.p (t := 1000009) rfl (OldOf.p (t := 1000095) rfl (OldOf.p (t := 1900000) rfl (OldOf.p (t := 1900001) rfl OldOf.nil)))))))))))) (by kernel_rfl) (by kernel_rfl) (.inl rfl) (fun B hB => ?_)
    refine RunTK.eff 2 (by decide) rfl (.inl rfl) ?_
    refine RunK.step rfl rfl (ok_build0own Tryd.underlying30 info5) ?_
    refine RunK.step rfl rfl (ok_move rfl) ?_
    refine RunK.nil ?_
    refine ⟨_, eff_appendS (vs := a.map byteV) Tryd.underlying30 info5 (by decide) rfl rfl rfl ((Le.old _ _).trans ((Le.old _ _).trans (Le.eq (byt_vals a)))) (by simp [byteV, Value.oneCell']) (by simp; omega) (by decide) (fun g hg => (LeftS.cons (t := 0) rfl (Surv.old (by omega)) (LeftS.cons (t := 1) rfl (Surv.old (by omega)) (LeftS.cons (t := 6) rfl (Surv.v _) (LeftS.cons (t := 8) rfl (Surv.v _) (LeftS.cons (t := 9) rfl (Surv.v _) (LeftS.cons (t := 46) rfl (Surv.old (by omega)) (LeftS.cons (t := 1000006) rfl (Surv.old (by omega)) (LeftS.cons (t := 1000008) rfl (Surv.old (by omega)) (LeftS.cons (t := 1000009) rfl (Surv.old (by omega)) (LeftS.cons (t := 1000095) rfl (Surv.old (by omega)) (LeftS.cons (t := 1900000) rfl (Surv.old (by omega)) (LeftS.cons (t := 1900001) rfl (Surv.old (by omega)) LeftS.nil))))))))))))), ?_⟩
    refine RunTK.eff 4 (by decide) rfl (.inl rfl) ?_
    refine RunK.step rfl rfl (ok_move rfl) ?_
    refine RunK.nil ?_
    refine ⟨_, eff_appendS (vs := b.map byteV) Tryd.underlying30 info5 (by decide) rfl rfl rfl ((Le.old _ _).trans ((Le.old _ _).trans (Le.eq (byt_vals b)))) (by simp [byteV, Value.oneCell']) (by simp; omega) (by decide) (fun g hg => (LeftS.cons (t := 0) rfl (Surv.old (by omega)) (LeftS.cons (t := 1) rfl (Surv.old (by omega)) (LeftS.cons (t := 6) rfl (Surv.v _) (LeftS.cons (t := 8) rfl (Surv.v _) (LeftS.cons (t := 9) rfl (Surv.v _) (LeftS.cons (t := 46) rfl (Surv.old (by omega)) (LeftS.cons (t := 48) rfl (Surv.old (by omega)) (LeftS.cons (t := 1000006) rfl (Surv.old (by omega)) (LeftS.cons (t := 1000008) rfl (Surv.old (by omega)) (LeftS.cons (t := 1000009) rfl (Surv.old (by omega)) (LeftS.cons (t := 1000095) rfl (Surv.old (by omega)) (LeftS.cons (t := 1900000) rfl (Surv.old (by omega)) (LeftS.cons (t := 1900001) rfl (Surv.old (by omega)) LeftS.nil)))))))))))))), ?_⟩
    refine RunTK.last ?_
    refine RunK.step rfl rfl (ok_assign rfl) ?_
    refine RunK.nil ?_
    refine A.sub (Sub.cons (t := 0) rfl (Sub.cons (t := 6) rfl (Sub.cons (t := 8) rfl (Sub.cons (t := 9) rfl (Sub.cons (t := 10) rfl (Sub.cons (t := 1000006) rfl (Sub.cons (t := 1000008) rfl (Sub.cons (t := 1000009) rfl (Sub.cons (t := 1000095) rfl (Sub.cons (t := 1900000) rfl (Sub.cons (t := 1900001) rfl Sub.nil))))))))))) ?_
    refine A.subL (SubL.cons (t := 0) rfl (Le.old _ _) (SubL.cons (t := 6) rfl (Le.refl _) (SubL.cons (t := 8) rfl (Le.refl _) (SubL.cons (t := 9) rfl (Le.refl _) (SubL.cons (t := 10) rfl (Le.refl _) (SubL.cons (t := 1000006) rfl (Le.old _ _) (SubL.cons (t := 1000008) rfl (Le.old _ _) (SubL.cons (t := 1000009) rfl (Le.old _ _) (SubL.cons (t := 1000095) rfl (Le.old _ _) (SubL.cons (t := 1900000) rfl (Le.old _ _) (SubL.cons (t := 1900001) rfl (Le.old _ _) SubL.nil))))))))))) ?_
    refine A.regsG _ (fun B => (OldOf.p (t := 0) rfl (OldOf.v (t := 6) rfl (OldOf.v (t := 8) rfl (OldOf.v (t := 9) rfl (OldOf.p (t := 10) rfl (OldOf.p (t := 1000006) rfl (OldOf.p (t := 1000008) rfl (OldOf.p (t := 1000009) rfl (OldOf.p (t := 1000095) rfl (OldOf.p (t := 1900000) rfl (OldOf.p (t := 1900001) rfl OldOf.nil)))))))))))) (by kernel_rfl) (by kernel_rfl) (.inl rfl) (fun B hB => ?_)
    refine RunTK.eff 2 (by decide) rfl (.inl rfl) ?_
    refine RunK.step rfl rfl (ok_build0own Tryd.underlying30 info5) ?_
    refine RunK.step rfl rfl (ok_move rfl) ?_
    refine RunK.nil ?_
    refine ⟨_, eff_appendS (vs := a.map byteV) Tryd.underlying30 info5 (by decide) rfl rfl rfl ((Le.old _ _).trans ((Le.old _ _).trans (Le.eq (byt_vals a)))) (by simp [byteV, Value.oneCell']) (by simp; omega) (by decide) (fun g hg => (LeftS.cons (t := 0) rfl (Surv.old (by omega)) (LeftS.cons (t := 6) rfl (Surv.v _) (LeftS.cons (t := 8) rfl (Surv.v _) (LeftS.cons (t := 9) rfl (Surv.v _) (LeftS.cons (t := 10) rfl (Surv.old (by omega)) (LeftS.cons (t := 51) rfl (Surv.old (by omega)) (LeftS.cons (t := 1000006) rfl (Surv.old (by omega)) (LeftS.cons (t := 1000008) rfl (Surv.old (by omega)) (LeftS.cons (t := 1000009) rfl (Surv.old (by omega)) (LeftS.cons (t := 1000095) rfl (Surv.old (by omega)) (LeftS.cons (t := 1900000) rfl (Surv.old (by omega)) (LeftS.cons (t := 1900001) rfl (Surv.old (by omega)) LeftS.nil))))))))))))), ?_⟩
    refine RunTK.eff 4 (by decide) rfl (.inl rfl) ?_
    refine RunK.step rfl rfl (ok_move rfl) ?_
    refine RunK.nil ?_
    refine ⟨_, eff_appendS (vs := a.map byteV) Tryd.underlying30 info5 (by decide) rfl rfl rfl ((Le.old _ _).trans ((Le.old _ _).trans (Le.eq (byt_vals a)))) (by simp [byteV, Value.oneCell']) (by simp; omega) (by decide) (fun g hg => (LeftS.cons (t := 0) rfl (Surv.old (by omega)) (LeftS.cons (t := 6) rfl (Surv.v _) (LeftS.cons (t := 8) rfl (Surv.v _) (LeftS.cons (t := 9) rfl (Surv.v _) (LeftS.cons (t := 10) rfl (Surv.old (by omega)) (LeftS.cons (t := 51) rfl (Surv.old (by omega)) (LeftS.cons (t := 53) rfl (Surv.old (by omega)) (LeftS.cons (t := 1000006) rfl (Surv.old (by omega)) (LeftS.cons (t := 1000008) rfl (Surv.old (by omega)) (LeftS.cons (t := 1000009) rfl (Surv.old (by omega)) (LeftS.cons (t := 1000095) rfl (Surv.old (by omega)) (LeftS.cons (t := 1900000) rfl (Surv.old (by omega)) (LeftS.cons (t := 1900001) rfl (Surv.old (by omega)) LeftS.nil)))))))))))))), ?_⟩
    refine RunTK.last ?_
    refine RunK.step rfl rfl (ok_assign rfl) ?_
    refine RunK.nil ?_
    refine A.sub (Sub.cons (t := 0) rfl (Sub.cons (t := 6) rfl (Sub.cons (t := 8) rfl (Sub.cons (t := 9) rfl (Sub.cons (t := 10) rfl (Sub.cons (t := 11) rfl (Sub.cons (t := 1000006) rfl (Sub.cons (t := 1000008) rfl (Sub.cons (t := 1000009) rfl (Sub.cons (t := 1000095) rfl (Sub.cons (t := 1900000) rfl (Sub.cons (t := 1900001) rfl Sub.nil)))))))))))) ?_
    refine A.subL (SubL.cons (t := 0) rfl (Le.old _ _) (SubL.cons (t := 6) rfl (Le.refl _) (SubL.cons (t := 8) rfl (Le.refl _) (SubL.cons (t := 9) rfl (Le.refl _) (SubL.cons (t := 10) rfl (Le.old _ _) (SubL.cons (t := 11) rfl (Le.refl _) (SubL.cons (t := 1000006) rfl (Le.old _ _) (SubL.cons (t := 1000008) rfl (Le.old _ _) (SubL.cons (t := 1000009) rfl (Le.old _ _) (SubL.cons (t := 1000095) rfl (Le.old _ _) (SubL.cons (t := 1900000) rfl (Le.old _ _) (SubL.cons (t := 1900001) rfl (Le.old _ _) SubL.nil)))))))))))) ?_
    refine A.regs (by kernel_rfl) (by kernel_rfl) (.inl rfl) ?_
    refine RunTK.last ?_
    refine RunK.step rfl rfl (ok_loadA (s := 1000006) (by decide) Tryd.underlying40 rfl (size40.of (stL_length _)) rfl rfl) ?_
    refine RunK.step rfl rfl (ok_callM (Sum_fn a (by omega)) (Sub.cons rfl (Sub.cons rfl Sub.nil)) tabs_v (Args.cons rfl (Le.refl _) Args.nil)) ?_
    refine RunK.step rfl rfl (ok_move rfl) ?_
    refine RunK.step rfl rfl (ok_call (refSum_fn a (by omega)) (Args.cons rfl (Le.old _ _) Args.nil)) ?_
    refine RunK.step rfl rfl (ok_eqlA Tryd.underlying35 Tryd.underlying5 info5 (by kernel_rfl) rfl rfl rfl (by rw [List.length_map, sha_length]) (ints_u8 _)) ?_
    refine RunK.step rfl rfl (ok_move rfl) ?_
    refine RunK.guarded rfl rfl rfl rfl (ok_loadA (s := 1000008) (by decide) Tryd.underlying40 rfl (size40.of (stL_length _)) rfl rfl) ?_
    refine RunK.guarded rfl rfl rfl rfl (ok_callM (Sum_fn (a ++ b) (by simp; omega)) (Sub.cons rfl (Sub.cons rfl Sub.nil)) tabs_v (Args.cons rfl (Le.refl _) Args.nil)) ?_
    refine RunK.guarded rfl rfl rfl rfl (ok_move rfl) ?_
    refine RunK.guarded rfl rfl rfl rfl (ok_call (refSum_fn (a ++ b) (by simp; omega)) (Args.cons rfl (own_cat (by simp) (by simp)) Args.nil)) ?_
    refine RunK.guarded rfl rfl rfl rfl (ok_eqlA Tryd.underlying35 Tryd.underlying5 info5 (by kernel_rfl) rfl rfl rfl (by rw [List.length_map, sha_length]) (ints_u8 _)) ?_
    refine RunK.step rfl rfl (ok_pick rfl rfl) ?_; refine RunK.as (.bool true) (by rfl) ?_
    refine RunK.step rfl rfl (ok_move rfl) ?_
    refine RunK.guarded rfl rfl rfl rfl (ok_loadA (s := 1000009) (by decide) Tryd.underlying40 rfl (size40.of (stL_length _)) rfl rfl) ?_
    refine RunK.guarded rfl rfl rfl rfl (ok_callM (Sum_fn (a ++ a) (by simp; omega)) (Sub.cons rfl (Sub.cons rfl Sub.nil)) tabs_v (Args.cons rfl (Le.refl _) Args.nil)) ?_
    refine RunK.guarded rfl rfl rfl rfl (ok_move rfl) ?_
    refine RunK.guarded rfl rfl rfl rfl (ok_call (refSum_fn (a ++ a) (by simp; omega)) (Args.cons rfl (own_cat (by simp) (by simp)) Args.nil)) ?_
    refine RunK.guarded rfl rfl rfl rfl (ok_eqlA Tryd.underlying35 Tryd.underlying5 info5 (by kernel_rfl) rfl rfl rfl (by rw [List.length_map, sha_length]) (ints_u8 _)) ?_
    refine RunK.step rfl rfl (ok_pick rfl rfl) ?_; refine RunK.as (.bool true) (by rfl) ?_
    refine RunK.step rfl rfl (ok_move rfl) ?_
    refine RunK.guarded rfl rfl rfl rfl (ok_callM lives_fn (Sub.cons rfl (Sub.cons rfl Sub.nil)) tabs_v Args.nil) ?_
    refine RunK.step rfl rfl (ok_pick rfl rfl) ?_; refine RunK.as (.bool true) (by rfl) ?_
    refine RunK.step rfl rfl (ok_assign rfl) ?_
    refine RunK.nil ?_
    refine A.sub (Sub.cons (t := 4) rfl (Sub.cons (t := 1000006) rfl (Sub.cons (t := 1000008) rfl (Sub.cons (t := 1000009) rfl (Sub.cons (t := 1000095) rfl (Sub.cons (t := 1900000) rfl (Sub.cons (t := 1900001) rfl Sub.nil))))))) ?_
    refine A.ret ?_
    exact End.ret1 rfl rfl (by first | exact Le.refl _ | exact Le.old _ _)
theorem DigestsKept_fn (a b : List UInt8) : FnM Tryd.prog 6 tabs [byt a, byt b] (.v (.bool true)) := by
  by_cases ha : a.length ≤ 100
  · by_cases hb : b.length ≤ 100
    · by_cases hz : a.length = 0
      · exact DigestsKept_fnC0 a b hz hb
      · exact DigestsKept_fnC a b ha hb (by omega)
    · exact DigestsKept_fnB a b ha (by omega)
  · exact DigestsKept_fnA a b (by omega)
end Go.Proofs.YtlnnhlgfomklcaaDoor
