/-
  The laws of caissonlaw03, by facts, part two.
-/
import Derived.Test.YtgonpjlalhdkjaaDoorC03c
import Derived.Test.YtgonpjlalhdkjaaDoorZeros
namespace Go.Proofs.YtgonpjlalhdkjaaDoor
open Go Go.RowKit
set_option linter.unusedVariables false

theorem zero35 : ZeroIs Tryd.prog 35 (List.replicate 32 (.int .u8 0) ++ [.int .u8 0]) := by unfold ZeroIs; kernel_rfl
theorem size35 : SizeIs Tryd.prog 35 33 := by unfold SizeIs; kernel_rfl
theorem field35_0 : FieldIs Tryd.prog 35 0 0 32 := by unfold FieldIs; kernel_rfl
theorem field35_1 : FieldIs Tryd.prog 35 1 32 1 := by unfold FieldIs; kernel_rfl
theorem MacsVerify_fnA (k b tg : List UInt8) (c : UInt8) (h : 200 < k.length) : FnM Tryd.prog 5 tabs [byt k, byt b, .v (aggV (tg.map byteV ++ [byteV c]))] (.v (.bool true)) := by
  refine FnM.of Tryd.func5 rfl (by kernel_rfl) Tryd.ntmps5 (by simp) (by decide) (fun w => [(0, old w.heap.size (byt k)), (1, old w.heap.size (byt b)), (2, .v (aggV (tg.map byteV ++ [byteV c]))), (1900000, tab 0 (H8.list.map u32V)), (1900001, tab 1 (K64.map u32V))]) (fun w => (StartM.old rfl (StartM.old rfl (StartM.v rfl (StartM.m (by simp [tabs]) (by decide) (StartM.m (by simp [tabs]) (by decide) StartM.nil)))))) fun w₀ hM => ?_
  have htab := tabs_hi hM
  refine A.regs (by kernel_rfl) (by kernel_rfl) (.inl rfl) ?_
  refine RunTK.new 0 (by decide) rfl (.inl rfl) ?_
  refine RunK.nil ?_
  refine ⟨_, _, eff_box (n := 61) (d := 5) (k := 1000005) rfl (by decide), fun b5 hb5 => ?_⟩
  have hBb5 := hb5.1
  refine RunTK.last ?_
  refine RunK.step rfl rfl (ok_assign rfl) ?_
  refine RunK.nil ?_
  refine A.sub (Sub.cons (t := 0) rfl (Sub.cons (t := 1) rfl (Sub.cons (t := 5) rfl (Sub.cons (t := 1000005) rfl (Sub.cons (t := 1900000) rfl (Sub.cons (t := 1900001) rfl Sub.nil)))))) ?_
  refine A.seq ?_
  refine A.regs (by kernel_rfl) (by kernel_rfl) (.inl rfl) ?_
  refine RunTK.last ?_
  refine RunK.step rfl rfl (ok_move rfl) ?_
  refine RunK.step rfl rfl (ok_lenB Tryd.underlying22 rfl (Le.old _ _)) ?_
  refine RunK.step rfl rfl (ok_bin rfl rfl rfl) ?_; refine RunK.as (.bool true) (by simp; omega) ?_
  refine RunK.step rfl rfl (ok_move rfl) ?_
  refine RunK.skipped rfl rfl rfl rfl rfl ?_
  refine RunK.skipped rfl rfl rfl rfl rfl ?_
  refine RunK.skipped rfl rfl rfl rfl rfl ?_
  refine RunK.step rfl rfl (ok_pick rfl rfl) ?_
  refine RunK.nil ?_
  refine A.sub (Sub.cons (t := 0) rfl (Sub.cons (t := 1) rfl (Sub.cons (t := 5) rfl (Sub.cons (t := 16) rfl (Sub.cons (t := 1000005) rfl (Sub.cons (t := 1900000) rfl (Sub.cons (t := 1900001) rfl Sub.nil))))))) ?_
  refine A.yes rfl ?_
  refine A.regs (by kernel_rfl) (by kernel_rfl) (.inl rfl) ?_
  refine RunTK.last ?_
  refine RunK.step rfl rfl (ok_callM lives3_fn (Sub.cons rfl (Sub.cons rfl Sub.nil)) tabs_v Args.nil) ?_
  refine RunK.step rfl rfl (ok_assign rfl) ?_
  refine RunK.nil ?_
  refine A.sub (Sub.cons (t := 6) rfl (Sub.cons (t := 1000005) rfl (Sub.cons (t := 1900000) rfl (Sub.cons (t := 1900001) rfl Sub.nil)))) ?_
  refine A.ret ?_
  refine End.ret_then ?_
  exact End.ret1 rfl rfl (by first | exact Le.refl _ | exact Le.old _ _)
set_option maxHeartbeats 2000000 in
theorem MacsVerify_fnB (k b tg : List UInt8) (c : UInt8) (htg : tg.length = 32) (hk : k.length ≤ 200) : FnM Tryd.prog 5 tabs [byt k, byt b, .v (aggV (tg.map byteV ++ [byteV c]))] (.v (.bool true)) := by
  have hc := c.toNat_lt
  refine FnM.of Tryd.func5 rfl (by kernel_rfl) Tryd.ntmps5 (by simp) (by decide) (fun w => [(0, old w.heap.size (byt k)), (1, old w.heap.size (byt b)), (2, .v (aggV (tg.map byteV ++ [byteV c]))), (1900000, tab 0 (H8.list.map u32V)), (1900001, tab 1 (K64.map u32V))]) (fun w => (StartM.old rfl (StartM.old rfl (StartM.v rfl (StartM.m (by simp [tabs]) (by decide) (StartM.m (by simp [tabs]) (by decide) StartM.nil)))))) fun w₀ hM => ?_
  have htab := tabs_hi hM
  refine A.regs (by kernel_rfl) (by kernel_rfl) (.inl rfl) ?_
  refine RunTK.new 0 (by decide) rfl (.inl rfl) ?_
  refine RunK.nil ?_
  refine ⟨_, _, eff_box (n := 61) (d := 5) (k := 1000005) rfl (by decide), fun b5 hb5 => ?_⟩
  have hBb5 := hb5.1
  refine RunTK.last ?_
  refine RunK.step rfl rfl (ok_assign rfl) ?_
  refine RunK.nil ?_
  refine A.sub (Sub.cons (t := 0) rfl (Sub.cons (t := 1) rfl (Sub.cons (t := 5) rfl (Sub.cons (t := 1000005) rfl (Sub.cons (t := 1900000) rfl (Sub.cons (t := 1900001) rfl Sub.nil)))))) ?_
  refine A.seq ?_
  refine A.regs (by kernel_rfl) (by kernel_rfl) (.inl rfl) ?_
  refine RunTK.last ?_
  refine RunK.step rfl rfl (ok_move rfl) ?_
  refine RunK.step rfl rfl (ok_lenB Tryd.underlying22 rfl (Le.old _ _)) ?_
  refine RunK.step rfl rfl (ok_bin rfl rfl rfl) ?_; refine RunK.as (.bool false) (by simp; omega) ?_
  refine RunK.step rfl rfl (ok_move rfl) ?_
  refine RunK.guarded rfl rfl rfl rfl (ok_move rfl) ?_
  refine RunK.guarded rfl rfl rfl rfl (ok_lenB Tryd.underlying22 rfl (Le.old _ _)) ?_
  refine RunK.guarded rfl rfl rfl rfl (ok_bin rfl rfl rfl) ?_
  refine RunK.step rfl rfl (ok_pick rfl rfl) ?_
  refine RunK.nil ?_
  refine A.sub (Sub.cons (t := 0) rfl (Sub.cons (t := 1) rfl (Sub.cons (t := 5) rfl (Sub.cons (t := 16) rfl (Sub.cons (t := 1000005) rfl (Sub.cons (t := 1900000) rfl (Sub.cons (t := 1900001) rfl Sub.nil))))))) ?_
  refine A.cond rfl (fun hc16 => ?_) (fun hc16 => ?_)
  · refine A.regs (by kernel_rfl) (by kernel_rfl) (.inl rfl) ?_
    refine RunTK.last ?_
    refine RunK.step rfl rfl (ok_callM lives3_fn (Sub.cons rfl (Sub.cons rfl Sub.nil)) tabs_v Args.nil) ?_
    refine RunK.step rfl rfl (ok_assign rfl) ?_
    refine RunK.nil ?_
    refine A.sub (Sub.cons (t := 6) rfl (Sub.cons (t := 1000005) rfl (Sub.cons (t := 1900000) rfl (Sub.cons (t := 1900001) rfl Sub.nil)))) ?_
    refine A.ret ?_
    refine End.ret_then ?_
    exact End.ret1 rfl rfl (by first | exact Le.refl _ | exact Le.old _ _)
  · have hb : b.length ≤ 200 := by simp at hc16; omega
    refine A.skip ?_
    refine End.normal_then (End.code ?_)
    refine A.regs (by kernel_rfl) (by kernel_rfl) (.inl rfl) ?_
    refine RunTK.new 3 (by decide) rfl (.inl rfl) ?_
    refine RunK.step rfl rfl (ok_move rfl) ?_
    refine RunK.step rfl rfl (ok_move rfl) ?_
    refine RunK.step rfl rfl (ok_call (ref3Sum_fn k b (by omega) (by omega)) (Args.cons rfl (Le.old _ _) (Args.cons rfl (Le.old _ _) Args.nil))) ?_
    refine RunK.nil ?_
    refine ⟨_, _, eff_alloc (n := 61) (d := 7) (k := 1000007) zero30 (by decide), fun b7 hb7 => ?_⟩
    have hBb7 := hb7.1
    have hlt_b5_b7 : b5 < b7 := hb7.2 1000005 _ _ _ rfl
    refine RunTK.eff 4 (by decide) rfl (.inl rfl) ?_
    refine RunK.nil ?_
    refine ⟨_, eff_storeA (n := 61) (s := 1000007) (size30.of (by rw [List.length_map, hmac_length])) rfl rfl (all_bytes _) hBb7 rfl (by rw [List.length_map, hmac_length, List.length_replicate]) (LeftS.cons (t := 0) rfl (Surv.old (by omega)) (LeftS.cons (t := 1) rfl (Surv.old (by omega)) (LeftS.cons (t := 5) rfl (Surv.v _) (LeftS.cons (t := 7) rfl (Surv.v _) (LeftS.cons (t := 16) rfl (Surv.v _) (LeftS.cons (t := 18) rfl (Surv.old (by omega)) (LeftS.cons (t := 19) rfl (Surv.old (by omega)) (LeftS.cons (t := 20) rfl (Surv.v _) (LeftS.cons (t := 1000005) rfl (Surv.blkT (by decide)) (LeftS.cons (t := 1900000) rfl (Surv.tab (by omega)) (LeftS.cons (t := 1900001) rfl (Surv.tab (by omega)) LeftS.nil))))))))))), ?_⟩
    refine RunTK.last ?_
    refine RunK.nil ?_
    refine A.sub (Sub.cons (t := 0) rfl (Sub.cons (t := 1) rfl (Sub.cons (t := 5) rfl (Sub.cons (t := 7) rfl (Sub.cons (t := 1000005) rfl (Sub.cons (t := 1000007) rfl (Sub.cons (t := 1900000) rfl (Sub.cons (t := 1900001) rfl Sub.nil)))))))) ?_
    refine A.regs (by kernel_rfl) (by kernel_rfl) (.inl rfl) ?_
    refine RunTK.new 1 (by decide) rfl (.inl rfl) ?_
    refine RunK.step rfl rfl (ok_loadA (s := 1000007) (by decide) Tryd.underlying30 rfl (size30.of (by rw [List.length_map, hmac_length])) rfl rfl) ?_
    refine RunK.nil ?_
    refine ⟨_, _, eff_alloc (n := 61) (d := 8) (k := 1000008) zero30 (by decide), fun b8 hb8 => ?_⟩
    have hBb8 := hb8.1
    have hlt_b5_b8 : b5 < b8 := hb8.2 1000005 _ _ _ rfl
    have hlt_b7_b8 : b7 < b8 := hb8.2 1000007 _ _ _ rfl
    refine RunTK.eff 2 (by decide) rfl (.inl rfl) ?_
    refine RunK.nil ?_
    refine ⟨_, eff_storeA (n := 61) (s := 1000008) (size30.of (by rw [List.length_map, hmac_length])) rfl rfl (all_bytes _) hBb8 rfl (by rw [List.length_map, hmac_length, List.length_replicate]) (LeftS.cons (t := 0) rfl (Surv.old (by omega)) (LeftS.cons (t := 1) rfl (Surv.old (by omega)) (LeftS.cons (t := 5) rfl (Surv.v _) (LeftS.cons (t := 7) rfl (Surv.v _) (LeftS.cons (t := 8) rfl (Surv.v _) (LeftS.cons (t := 21) rfl (Surv.v _) (LeftS.cons (t := 1000005) rfl (Surv.blkT (by decide)) (LeftS.cons (t := 1000007) rfl (Surv.blk (by omega)) (LeftS.cons (t := 1900000) rfl (Surv.tab (by omega)) (LeftS.cons (t := 1900001) rfl (Surv.tab (by omega)) LeftS.nil)))))))))), ?_⟩
    refine RunTK.last ?_
    refine RunK.nil ?_
    refine A.sub (Sub.cons (t := 0) rfl (Sub.cons (t := 1) rfl (Sub.cons (t := 5) rfl (Sub.cons (t := 7) rfl (Sub.cons (t := 8) rfl (Sub.cons (t := 1000005) rfl (Sub.cons (t := 1000007) rfl (Sub.cons (t := 1000008) rfl (Sub.cons (t := 1900000) rfl (Sub.cons (t := 1900001) rfl Sub.nil)))))))))) ?_
    refine A.regs (by kernel_rfl) (by kernel_rfl) (.inr (by kernel_rfl)) ?_
    refine RunTK.eff 13 (by decide) rfl (.inr (by kernel_rfl)) ?_
    refine RunK.step rfl rfl (ok_field field35_1 (by decide) rfl) ?_
    refine RunK.step rfl rfl (ok_loadV (s := 1000005) (by decide) Tryd.underlying5 rfl rfl rfl (by rw [List.getElem?_append_right (by simp [htg])]; simp only [List.length_map, htg]; rfl)) ?_
    refine RunK.step rfl rfl (ok_conv Tryd.underlying5 Tryd.underlying3 rfl) ?_; refine RunK.as (.int .i64 ((c.toNat : Nat) : Int)) (by rw [wrapN_i64 (by omega)]) ?_
    refine RunK.step rfl rfl (ok_div rfl rfl (by decide)) ?_; refine RunK.as (.int .i64 ((c.toNat / 8 : Nat) : Int)) (by rw [tdiv_lit _ (by decide), show Int.toNat 8 = 8 from rfl, wrapN_i64 (by omega)]) ?_
    refine RunK.step rfl rfl (ok_rem rfl rfl (by decide)) ?_; refine RunK.as (.int .i64 ((c.toNat / 8 % 32 : Nat) : Int)) (by rw [tmod_lit _ (by decide)]; rfl) ?_
    refine RunK.step rfl rfl (ok_index0 _ Tryd.underlying30 info5 rfl rfl (rfl) (by omega)) ?_
    refine RunK.step rfl rfl (ok_loadV (s := 1000008) (by decide) Tryd.underlying5 rfl rfl rfl (map_getB (by rw [hmac_length]; omega))) ?_
    refine RunK.step rfl rfl (ok_field field35_1 (by decide) rfl) ?_
    refine RunK.step rfl rfl (ok_loadV (s := 1000005) (by decide) Tryd.underlying5 rfl rfl rfl (by rw [List.getElem?_append_right (by simp [htg])]; simp only [List.length_map, htg]; rfl)) ?_
    refine RunK.step rfl rfl (ok_rem rfl rfl (by decide)) ?_; refine RunK.as (.int .u8 ((c.toNat % 8 : Nat) : Int)) (by rw [tmod_lit _ (by decide)]; rfl) ?_
    refine RunK.step rfl rfl (ok_shl rfl rfl (by omega)) ?_; refine RunK.as (byteV (UInt8.ofNat (2 ^ (c.toNat % 8)))) (shl1_u8 (Nat.mod_lt _ (by decide))) ?_
    refine RunK.step rfl rfl (ok_bin rfl rfl rfl) ?_; refine RunK.as (byteV (((hmac k b).getD (c.toNat / 8 % 32) 0) ^^^ UInt8.ofNat (2 ^ (c.toNat % 8)))) (congrArg (Value.int .u8) (xor_u8_nat ((hmac k b).getD (c.toNat / 8 % 32) 0) _)) ?_
    refine RunK.step rfl rfl (ok_index0 _ Tryd.underlying30 info5 rfl rfl (rfl) (by omega)) ?_
    refine RunK.nil ?_
    refine ⟨_, eff_storeS (n := 61) (s := 1000008) info5 rfl rfl rfl hBb8 rfl (by rw [List.length_map, hmac_length]; omega) (LeftS.cons (t := 0) rfl (Surv.old (by omega)) (LeftS.cons (t := 1) rfl (Surv.old (by omega)) (LeftS.cons (t := 5) rfl (Surv.v _) (LeftS.cons (t := 7) rfl (Surv.v _) (LeftS.cons (t := 8) rfl (Surv.v _) (LeftS.cons (t := 22) rfl (Surv.v _) (LeftS.cons (t := 23) rfl (Surv.v _) (LeftS.cons (t := 24) rfl (Surv.v _) (LeftS.cons (t := 25) rfl (Surv.v _) (LeftS.cons (t := 26) rfl (Surv.v _) (LeftS.cons (t := 27) rfl (Surv.v _) (LeftS.cons (t := 28) rfl (Surv.v _) (LeftS.cons (t := 29) rfl (Surv.v _) (LeftS.cons (t := 30) rfl (Surv.v _) (LeftS.cons (t := 31) rfl (Surv.v _) (LeftS.cons (t := 32) rfl (Surv.v _) (LeftS.cons (t := 33) rfl (Surv.v _) (LeftS.cons (t := 34) rfl (Surv.v _) (LeftS.cons (t := 1000005) rfl (Surv.blkT (by decide)) (LeftS.cons (t := 1000007) rfl (Surv.blk (by omega)) (LeftS.cons (t := 1900000) rfl (Surv.tab (by omega)) (LeftS.cons (t := 1900001) rfl (Surv.tab (by omega)) LeftS.nil)))))))))))))))))))))), ?_⟩
    refine RunTK.last ?_
    refine RunK.nil ?_
    refine A.sub (Sub.cons (t := 0) rfl (Sub.cons (t := 1) rfl (Sub.cons (t := 5) rfl (Sub.cons (t := 7) rfl (Sub.cons (t := 8) rfl (Sub.cons (t := 1000005) rfl (Sub.cons (t := 1000007) rfl (Sub.eq (t := 1000008) _ rfl (show blk b8 30 _ = blk b8 30 ((flipB (hmac k b) c).map byteV) from congrArg _ (by rw [flipB, List.map_set])) (Sub.cons (t := 1900000) rfl (Sub.cons (t := 1900001) rfl Sub.nil)))))))))) ?_
    refine A.regs (by kernel_rfl) (by kernel_rfl) (.inr (by kernel_rfl)) ?_
    refine RunTK.last ?_
    refine RunK.step rfl rfl (ok_move rfl) ?_
    refine RunK.step rfl rfl (ok_move rfl) ?_
    refine RunK.step rfl rfl (ok_loadA (s := 1000007) (by decide) Tryd.underlying30 rfl (size30.of (by rw [List.length_map, hmac_length])) rfl rfl) ?_
    refine RunK.step rfl rfl (ok_callM (macVerify_fn k b (hmac k b) (by first | decide | omega) (by first | decide | omega) (by first | decide | exact hmac_length _ _)) (Sub.cons rfl (Sub.cons rfl Sub.nil)) tabs_v (Args.cons rfl (Le.old _ _) (Args.cons rfl (Le.old _ _) (Args.cons rfl (Le.refl _) Args.nil)))) ?_; refine RunK.as (.bool true) (by simp) ?_
    refine RunK.step rfl rfl (ok_move rfl) ?_
    refine RunK.guarded rfl rfl rfl rfl (ok_move rfl) ?_
    refine RunK.guarded rfl rfl rfl rfl (ok_move rfl) ?_
    refine RunK.guarded rfl rfl rfl rfl (ok_loadA (s := 1000008) (by decide) Tryd.underlying30 rfl (size30.of (by rw [List.length_map, flipB_length, hmac_length])) rfl rfl) ?_
    refine RunK.guarded rfl rfl rfl rfl (ok_callM (macVerify_fn k b (flipB (hmac k b) c) (by first | decide | omega) (by first | decide | omega) (by rw [flipB_length, hmac_length])) (Sub.cons rfl (Sub.cons rfl Sub.nil)) tabs_v (Args.cons rfl (Le.old _ _) (Args.cons rfl (Le.old _ _) (Args.cons rfl (Le.refl _) Args.nil)))) ?_; refine RunK.as (.bool false) (by simp [flipB_ne (hmac_length k b)]) ?_
    refine RunK.guarded rfl rfl rfl rfl (ok_not rfl) ?_; refine RunK.as (.bool true) (by rfl) ?_
    refine RunK.step rfl rfl (ok_pick rfl rfl) ?_
    refine RunK.step rfl rfl (ok_move rfl) ?_
    refine RunK.guarded rfl rfl rfl rfl (ok_move rfl) ?_
    refine RunK.guarded rfl rfl rfl rfl (ok_move rfl) ?_
    refine RunK.guarded rfl rfl rfl rfl (ok_field field35_0 (by decide) rfl) ?_
    refine RunK.guarded rfl rfl rfl rfl (ok_loadP (s := 1000005) (by decide) Tryd.underlying30 rfl size30 rfl rfl (by simp [htg]) (by rw [List.drop_zero, List.take_left' (by rw [List.length_map, htg])])) ?_
    refine RunK.guarded rfl rfl rfl rfl (ok_callM (macVerify_fn k b tg (by first | decide | omega) (by first | decide | omega) htg) (Sub.cons rfl (Sub.cons rfl Sub.nil)) tabs_v (Args.cons rfl (Le.old _ _) (Args.cons rfl (Le.old _ _) (Args.cons rfl (Le.refl _) Args.nil)))) ?_
    refine RunK.guarded rfl rfl rfl rfl (ok_field field35_0 (by decide) rfl) ?_
    refine RunK.guarded rfl rfl rfl rfl (ok_loadP (s := 1000005) (by decide) Tryd.underlying30 rfl size30 rfl rfl (by simp [htg]) (by rw [List.drop_zero, List.take_left' (by rw [List.length_map, htg])])) ?_
    refine RunK.guarded rfl rfl rfl rfl (ok_loadA (s := 1000007) (by decide) Tryd.underlying30 rfl (size30.of (by rw [List.length_map, hmac_length])) rfl rfl) ?_
    refine RunK.guarded rfl rfl rfl rfl (ok_eqlB tg (hmac k b) Tryd.underlying30 Tryd.underlying5 info5 (by kernel_rfl) rfl rfl htg (hmac_length _ _)) ?_
    refine RunK.guarded rfl rfl rfl rfl (ok_beq Tryd.underlying4 rfl rfl) ?_; refine RunK.as (.bool true) (by simp) ?_
    refine RunK.step rfl rfl (ok_pick rfl rfl) ?_
    refine RunK.step rfl rfl (ok_move rfl) ?_
    refine RunK.guarded rfl rfl rfl rfl (ok_callM lives3_fn (Sub.cons rfl (Sub.cons rfl Sub.nil)) tabs_v Args.nil) ?_
    refine RunK.step rfl rfl (ok_pick rfl rfl) ?_
    refine RunK.step rfl rfl (ok_assign rfl) ?_
    refine RunK.nil ?_
    refine A.sub (Sub.cons (t := 6) rfl (Sub.cons (t := 1000005) rfl (Sub.cons (t := 1000007) rfl (Sub.cons (t := 1000008) rfl (Sub.cons (t := 1900000) rfl (Sub.cons (t := 1900001) rfl Sub.nil)))))) ?_
    refine A.ret ?_
    exact End.ret1 rfl rfl (by first | exact Le.refl _ | exact Le.old _ _)
theorem MacsVerify_fn (k b tg : List UInt8) (c : UInt8) (htg : tg.length = 32) : FnM Tryd.prog 5 tabs [byt k, byt b, .v (aggV (tg.map byteV ++ [byteV c]))] (.v (.bool true)) := by
  rcases Nat.lt_or_ge 200 k.length with h | h
  · exact MacsVerify_fnA k b tg c h
  · exact MacsVerify_fnB k b tg c htg h
theorem MacsKey_fnA (k b : List UInt8) (n : UInt8) (h : 200 < k.length) : FnM Tryd.prog 6 tabs [byt k, byt b, .v (byteV n)] (.v (.bool true)) := by
  refine FnM.of Tryd.func6 rfl (by kernel_rfl) Tryd.ntmps6 (by simp) (by decide) (fun w => [(0, old w.heap.size (byt k)), (1, old w.heap.size (byt b)), (2, .v (byteV n)), (1900000, tab 0 (H8.list.map u32V)), (1900001, tab 1 (K64.map u32V))]) (fun w => (StartM.old rfl (StartM.old rfl (StartM.v rfl (StartM.m (by simp [tabs]) (by decide) (StartM.m (by simp [tabs]) (by decide) StartM.nil)))))) fun w₀ hM => ?_
  have htab := tabs_hi hM
  refine A.regs (by kernel_rfl) (by kernel_rfl) (.inl rfl) ?_
  refine RunTK.last ?_
  refine RunK.step rfl rfl (ok_assign rfl) ?_
  refine RunK.nil ?_
  refine A.sub (Sub.cons (t := 0) rfl (Sub.cons (t := 1) rfl (Sub.cons (t := 2) rfl (Sub.cons (t := 1900000) rfl (Sub.cons (t := 1900001) rfl Sub.nil))))) ?_
  refine A.seq ?_
  refine A.regs (by kernel_rfl) (by kernel_rfl) (.inl rfl) ?_
  refine RunTK.last ?_
  refine RunK.step rfl rfl (ok_move rfl) ?_
  refine RunK.step rfl rfl (ok_lenB Tryd.underlying22 rfl (Le.old _ _)) ?_
  refine RunK.step rfl rfl (ok_bin rfl rfl rfl) ?_; refine RunK.as (.bool true) (by simp; omega) ?_
  refine RunK.step rfl rfl (ok_move rfl) ?_
  refine RunK.skipped rfl rfl rfl rfl rfl ?_
  refine RunK.skipped rfl rfl rfl rfl rfl ?_
  refine RunK.skipped rfl rfl rfl rfl rfl ?_
  refine RunK.step rfl rfl (ok_pick rfl rfl) ?_
  refine RunK.nil ?_
  refine A.sub (Sub.cons (t := 0) rfl (Sub.cons (t := 1) rfl (Sub.cons (t := 2) rfl (Sub.cons (t := 16) rfl (Sub.cons (t := 1900000) rfl (Sub.cons (t := 1900001) rfl Sub.nil)))))) ?_
  refine A.yes rfl ?_
  refine A.regs (by kernel_rfl) (by kernel_rfl) (.inl rfl) ?_
  refine RunTK.last ?_
  refine RunK.step rfl rfl (ok_callM lives3_fn (Sub.cons rfl (Sub.cons rfl Sub.nil)) tabs_v Args.nil) ?_
  refine RunK.step rfl rfl (ok_assign rfl) ?_
  refine RunK.nil ?_
  refine A.sub (Sub.cons (t := 6) rfl (Sub.cons (t := 1900000) rfl (Sub.cons (t := 1900001) rfl Sub.nil))) ?_
  refine A.ret ?_
  refine End.ret_then ?_
  exact End.ret1 rfl rfl (by first | exact Le.refl _ | exact Le.old _ _)
set_option maxHeartbeats 2000000 in
theorem MacsKey_fnB (k b : List UInt8) (n : UInt8) (hk : k.length ≤ 200) : FnM Tryd.prog 6 tabs [byt k, byt b, .v (byteV n)] (.v (.bool true)) := by
  have hn := n.toNat_lt
  refine FnM.of Tryd.func6 rfl (by kernel_rfl) Tryd.ntmps6 (by simp) (by decide) (fun w => [(0, old w.heap.size (byt k)), (1, old w.heap.size (byt b)), (2, .v (byteV n)), (1900000, tab 0 (H8.list.map u32V)), (1900001, tab 1 (K64.map u32V))]) (fun w => (StartM.old rfl (StartM.old rfl (StartM.v rfl (StartM.m (by simp [tabs]) (by decide) (StartM.m (by simp [tabs]) (by decide) StartM.nil)))))) fun w₀ hM => ?_
  have htab := tabs_hi hM
  refine A.regs (by kernel_rfl) (by kernel_rfl) (.inl rfl) ?_
  refine RunTK.last ?_
  refine RunK.step rfl rfl (ok_assign rfl) ?_
  refine RunK.nil ?_
  refine A.sub (Sub.cons (t := 0) rfl (Sub.cons (t := 1) rfl (Sub.cons (t := 2) rfl (Sub.cons (t := 1900000) rfl (Sub.cons (t := 1900001) rfl Sub.nil))))) ?_
  refine A.seq ?_
  refine A.regs (by kernel_rfl) (by kernel_rfl) (.inl rfl) ?_
  refine RunTK.last ?_
  refine RunK.step rfl rfl (ok_move rfl) ?_
  refine RunK.step rfl rfl (ok_lenB Tryd.underlying22 rfl (Le.old _ _)) ?_
  refine RunK.step rfl rfl (ok_bin rfl rfl rfl) ?_; refine RunK.as (.bool false) (by simp; omega) ?_
  refine RunK.step rfl rfl (ok_move rfl) ?_
  refine RunK.guarded rfl rfl rfl rfl (ok_move rfl) ?_
  refine RunK.guarded rfl rfl rfl rfl (ok_lenB Tryd.underlying22 rfl (Le.old _ _)) ?_
  refine RunK.guarded rfl rfl rfl rfl (ok_bin rfl rfl rfl) ?_
  refine RunK.step rfl rfl (ok_pick rfl rfl) ?_
  refine RunK.nil ?_
  refine A.sub (Sub.cons (t := 0) rfl (Sub.cons (t := 1) rfl (Sub.cons (t := 2) rfl (Sub.cons (t := 16) rfl (Sub.cons (t := 1900000) rfl (Sub.cons (t := 1900001) rfl Sub.nil)))))) ?_
  refine A.cond rfl (fun hc16 => ?_) (fun hc16 => ?_)
  · refine A.regs (by kernel_rfl) (by kernel_rfl) (.inl rfl) ?_
    refine RunTK.last ?_
    refine RunK.step rfl rfl (ok_callM lives3_fn (Sub.cons rfl (Sub.cons rfl Sub.nil)) tabs_v Args.nil) ?_
    refine RunK.step rfl rfl (ok_assign rfl) ?_
    refine RunK.nil ?_
    refine A.sub (Sub.cons (t := 6) rfl (Sub.cons (t := 1900000) rfl (Sub.cons (t := 1900001) rfl Sub.nil))) ?_
    refine A.ret ?_
    refine End.ret_then ?_
    exact End.ret1 rfl rfl (by first | exact Le.refl _ | exact Le.old _ _)
  · have hb : b.length ≤ 200 := by simp at hc16; omega
    refine A.skip ?_
    refine End.normal_then (End.code ?_)
    refine A.regs (by kernel_rfl) (by kernel_rfl) (.inl rfl) ?_
    refine RunTK.eff 2 (by decide) rfl (.inl rfl) ?_
    refine RunK.step rfl rfl (ok_build0own Tryd.underlying22 info5) ?_
    refine RunK.step rfl rfl (ok_move rfl) ?_
    refine RunK.nil ?_
    refine ⟨_, eff_appendS (vs := k.map byteV) Tryd.underlying22 info5 (by decide) rfl rfl rfl ((Le.old _ _).trans (Le.eq (byt_vals k))) (by simp [byteV, Value.oneCell']) (by simp; omega) (by decide) (fun g hg => (LeftS.cons (t := 0) rfl (Surv.old (by omega)) (LeftS.cons (t := 1) rfl (Surv.old (by omega)) (LeftS.cons (t := 2) rfl (Surv.v _) (LeftS.cons (t := 16) rfl (Surv.v _) (LeftS.cons (t := 19) rfl (Surv.old (by omega)) (LeftS.cons (t := 1900000) rfl (Surv.tab (by omega)) (LeftS.cons (t := 1900001) rfl (Surv.tab (by omega)) LeftS.nil)))))))), ?_⟩
    refine RunTK.eff 6 (by decide) rfl (.inl rfl) ?_
    refine RunK.step rfl rfl (ok_move rfl) ?_
    refine RunK.step rfl rfl (ok_rem rfl rfl (by decide)) ?_; refine RunK.as (.int .u8 ((n.toNat % 70 : Nat) : Int)) (by rw [tmod_lit _ (by decide)]; rfl) ?_
    refine RunK.step rfl rfl (ok_conv Tryd.underlying5 Tryd.underlying3 rfl) ?_; refine RunK.as (.int .i64 ((n.toNat % 70 : Nat) : Int)) (by rw [wrapN_i64 (by omega)]) ?_
    refine RunK.nil ?_
    refine ⟨_, eff_appendZ (m := n.toNat % 70) Tryd.underlying22 Tryd.underlying3 info5 (by decide) rfl rfl rfl rfl (by simp; omega) (by decide) (fun g hg => (LeftS.cons (t := 0) rfl (Surv.old (by omega)) (LeftS.cons (t := 1) rfl (Surv.old (by omega)) (LeftS.cons (t := 2) rfl (Surv.v _) (LeftS.cons (t := 16) rfl (Surv.v _) (LeftS.cons (t := 19) rfl (Surv.old (by omega)) (LeftS.cons (t := 21) rfl (Surv.v _) (LeftS.cons (t := 22) rfl (Surv.v _) (LeftS.cons (t := 23) rfl (Surv.v _) (LeftS.cons (t := 1900000) rfl (Surv.tab (by omega)) (LeftS.cons (t := 1900001) rfl (Surv.tab (by omega)) LeftS.nil))))))))))), ?_⟩
    refine RunTK.last ?_
    refine RunK.step rfl rfl (ok_assign rfl) ?_
    refine RunK.nil ?_
    refine A.sub (Sub.cons (t := 0) rfl (Sub.cons (t := 1) rfl (Sub.eq (t := 7) _ rfl (show own w₀.heap.size 5 (0 + (k.map byteV).length + n.toNat % 70) ([] ++ k.map byteV ++ List.replicate (n.toNat % 70) (.int .u8 0)) = own w₀.heap.size 5 (k ++ List.replicate (n.toNat % 70) 0).length ((k ++ List.replicate (n.toNat % 70) 0).map byteV) from by simp [byteV]) (Sub.cons (t := 1900000) rfl (Sub.cons (t := 1900001) rfl Sub.nil))))) ?_
    refine A.seq ?_
    rcases Bool.eq_false_or_eq_true (decide ((k ++ List.replicate (n.toNat % 70) 0).length ≤ 64)) with hsp | hsp
    · refine A.regs (by kernel_rfl) (by kernel_rfl) (.inl rfl) ?_
      refine RunTK.last ?_
      refine RunK.step rfl rfl (ok_move rfl) ?_
      refine RunK.step rfl rfl (ok_lenB (l := (k ++ List.replicate (n.toNat % 70) 0)) Tryd.underlying22 rfl (own_cat rfl rfl)) ?_
      refine RunK.step rfl rfl (ok_bin rfl rfl rfl) ?_; refine RunK.as (.bool true) (by simp at hsp ⊢; omega) ?_
      refine RunK.step rfl rfl (ok_move rfl) ?_
      refine RunK.guarded rfl rfl rfl rfl (ok_move rfl) ?_
      refine RunK.guarded rfl rfl rfl rfl (ok_move rfl) ?_
      refine RunK.guarded rfl rfl rfl rfl (ok_build [old w₀.heap.size (byt b)] Tryd.underlying28 info22 rfl (by decide) (by decide) rfl ⟨rfl, rfl, trivial⟩ (fun d hd w x h => by simp only [List.mem_cons, List.not_mem_nil, or_false] at hd; subst hd; exact old_one (fun _ _ h => lst_one h) h)) ?_
      refine RunK.guarded rfl rfl rfl rfl (ok_callM (macOf_fn (k ++ List.replicate (n.toNat % 70) 0) [b] b (by simp) (by first | omega | (simp; omega)) (by simp) (by omega)) (Sub.cons rfl (Sub.cons rfl Sub.nil)) tabs_v (Args.cons rfl (own_cat rfl rfl) (Args.cons rfl (list_lst1 (Le.old _ _)) Args.nil))) ?_; refine RunK.as (aggV ((hmac k b).map byteV)) (by rw [hmac_pad b (by simpa using hsp)]) ?_
      refine RunK.guarded rfl rfl rfl rfl (ok_move rfl) ?_
      refine RunK.guarded rfl rfl rfl rfl (ok_move rfl) ?_
      refine RunK.guarded rfl rfl rfl rfl (ok_build [old w₀.heap.size (byt b)] Tryd.underlying28 info22 rfl (by decide) (by decide) rfl ⟨rfl, rfl, trivial⟩ (fun d hd w x h => by simp only [List.mem_cons, List.not_mem_nil, or_false] at hd; subst hd; exact old_one (fun _ _ h => lst_one h) h)) ?_
      refine RunK.guarded rfl rfl rfl rfl (ok_callM (macOf_fn k [b] b (by simp) (by first | omega | (simp; omega)) (by simp) (by omega)) (Sub.cons rfl (Sub.cons rfl Sub.nil)) tabs_v (Args.cons rfl (Le.old _ _) (Args.cons rfl (list_lst1 (Le.old _ _)) Args.nil))) ?_
      refine RunK.guarded rfl rfl rfl rfl (ok_neqA Tryd.underlying30 Tryd.underlying5 info5 (by kernel_rfl) rfl rfl rfl (by rw [List.length_map, hmac_length]) (ints_u8 _)) ?_
      refine RunK.step rfl rfl (ok_pick rfl rfl) ?_
      refine RunK.nil ?_
      refine A.sub (Sub.cons (t := 0) rfl (Sub.cons (t := 1) rfl (Sub.cons (t := 38) rfl (Sub.cons (t := 1900000) rfl (Sub.cons (t := 1900001) rfl Sub.nil))))) ?_
      refine A.no rfl ?_
      refine A.skip ?_
      refine End.normal_then (End.code ?_)
      refine A.regs (by kernel_rfl) (by kernel_rfl) (.inl rfl) ?_
      refine RunTK.new 2 (by decide) rfl (.inl rfl) ?_
      refine RunK.step rfl rfl (ok_move rfl) ?_
      refine RunK.step rfl rfl (ok_callM (macBlock_fn k (by omega)) (Sub.cons rfl (Sub.cons rfl Sub.nil)) tabs_v (Args.cons rfl (by first | exact Le.refl _ | exact Le.old _ _ | exact le_byt _ _ | exact (Le.old _ _).trans (le_byt _ _) | exact le_lst _ _ | exact (Le.old _ _).trans (le_lst _ _) | exact (Le.old _ _).trans (Le.old _ _) | exact (Le.old _ _).trans ((Le.old _ _).trans (le_byt _ _)) | exact byt_nil_le | exact lst_nil_le | exact bytes_nil_le | exact list_nil_le) Args.nil)) ?_
      refine RunK.nil ?_
      refine ⟨_, _, eff_alloc (n := 53) (d := 8) (k := 1000008) zero24 (by decide), fun b8 hb8 => ?_⟩
      have hBb8 := hb8.1
      refine RunTK.eff 3 (by decide) rfl (.inl rfl) ?_
      refine RunK.nil ?_
      refine ⟨_, eff_storeA (n := 53) (s := 1000008) (size24.of (by rw [List.length_map, kblock_length])) rfl rfl (all_bytes _) hBb8 rfl (by rw [List.length_map, kblock_length, List.length_replicate]) (LeftS.cons (t := 0) rfl (Surv.old (by omega)) (LeftS.cons (t := 1) rfl (Surv.old (by omega)) (LeftS.cons (t := 8) rfl (Surv.v _) (LeftS.cons (t := 38) rfl (Surv.v _) (LeftS.cons (t := 39) rfl (Surv.old (by omega)) (LeftS.cons (t := 40) rfl (Surv.v _) (LeftS.cons (t := 1900000) rfl (Surv.tab (by omega)) (LeftS.cons (t := 1900001) rfl (Surv.tab (by omega)) LeftS.nil)))))))), ?_⟩
      refine RunTK.last ?_
      refine RunK.nil ?_
      refine A.sub (Sub.cons (t := 0) rfl (Sub.cons (t := 1) rfl (Sub.cons (t := 8) rfl (Sub.cons (t := 1000008) rfl (Sub.cons (t := 1900000) rfl (Sub.cons (t := 1900001) rfl Sub.nil)))))) ?_
      refine A.regs (by kernel_rfl) (by kernel_rfl) (.inl rfl) ?_
      refine RunTK.last ?_
      refine RunK.step rfl rfl (ok_sliceA (s := 1000008) 0 64 (by decide) Tryd.underlying24 info5 rfl rfl (.inr ⟨rfl, rfl⟩) (.inr ⟨rfl, rfl⟩) (by omega) (by omega) (by rw [List.length_map, kblock_length]) (by decide)) ?_
      refine RunK.step rfl rfl (ok_move rfl) ?_
      refine RunK.step rfl rfl (ok_build [old w₀.heap.size (byt b)] Tryd.underlying28 info22 rfl (by decide) (by decide) rfl ⟨rfl, rfl, trivial⟩ (fun d hd w x h => by simp only [List.mem_cons, List.not_mem_nil, or_false] at hd; subst hd; exact old_one (fun _ _ h => lst_one h) h)) ?_
      refine RunK.step rfl rfl (ok_callM (macOf_fn (kblock k) [b] b (by simp) (by rw [kblock_length]; decide) (by simp) (by omega)) (Sub.cons rfl (Sub.cons rfl Sub.nil)) tabs_v (Args.cons rfl (Le.eq (by rw [byt_vals]; congr 2; rw [List.drop_zero, List.take_of_length_le (by rw [List.length_map, kblock_length]; exact Nat.le_refl _)])) (Args.cons rfl (list_lst1 (Le.old _ _)) Args.nil))) ?_; refine RunK.as (aggV ((hmac k b).map byteV)) (by rw [hmac_block]) ?_
      refine RunK.step rfl rfl (ok_move rfl) ?_
      refine RunK.step rfl rfl (ok_move rfl) ?_
      refine RunK.step rfl rfl (ok_build [old w₀.heap.size (byt b)] Tryd.underlying28 info22 rfl (by decide) (by decide) rfl ⟨rfl, rfl, trivial⟩ (fun d hd w x h => by simp only [List.mem_cons, List.not_mem_nil, or_false] at hd; subst hd; exact old_one (fun _ _ h => lst_one h) h)) ?_
      refine RunK.step rfl rfl (ok_callM (macOf_fn k [b] b (by simp) (by first | omega | (simp; omega)) (by simp) (by omega)) (Sub.cons rfl (Sub.cons rfl Sub.nil)) tabs_v (Args.cons rfl (Le.old _ _) (Args.cons rfl (list_lst1 (Le.old _ _)) Args.nil))) ?_
      refine RunK.step rfl rfl (ok_eqlA Tryd.underlying30 Tryd.underlying5 info5 (by kernel_rfl) rfl rfl rfl (by rw [List.length_map, hmac_length]) (ints_u8 _)) ?_; refine RunK.as (.bool true) (by rfl) ?_
      refine RunK.step rfl rfl (ok_move rfl) ?_
      refine RunK.guarded rfl rfl rfl rfl (ok_callM lives3_fn (Sub.cons rfl (Sub.cons rfl Sub.nil)) tabs_v Args.nil) ?_
      refine RunK.step rfl rfl (ok_pick rfl rfl) ?_
      refine RunK.step rfl rfl (ok_assign rfl) ?_
      refine RunK.nil ?_
      refine A.sub (Sub.cons (t := 6) rfl (Sub.cons (t := 1000008) rfl (Sub.cons (t := 1900000) rfl (Sub.cons (t := 1900001) rfl Sub.nil)))) ?_
      refine A.ret ?_
      exact End.ret1 rfl rfl (by first | exact Le.refl _ | exact Le.old _ _)
    · refine A.regs (by kernel_rfl) (by kernel_rfl) (.inl rfl) ?_
      refine RunTK.last ?_
      refine RunK.step rfl rfl (ok_move rfl) ?_
      refine RunK.step rfl rfl (ok_lenB (l := (k ++ List.replicate (n.toNat % 70) 0)) Tryd.underlying22 rfl (own_cat rfl rfl)) ?_
      refine RunK.step rfl rfl (ok_bin rfl rfl rfl) ?_; refine RunK.as (.bool false) (by simp at hsp ⊢; omega) ?_
      refine RunK.step rfl rfl (ok_move rfl) ?_
      refine RunK.skipped rfl rfl rfl rfl rfl ?_
      refine RunK.skipped rfl rfl rfl rfl rfl ?_
      refine RunK.skipped rfl rfl rfl rfl rfl ?_
      refine RunK.skipped rfl rfl rfl rfl rfl ?_
      refine RunK.skipped rfl rfl rfl rfl rfl ?_
      refine RunK.skipped rfl rfl rfl rfl rfl ?_
      refine RunK.skipped rfl rfl rfl rfl rfl ?_
      refine RunK.skipped rfl rfl rfl rfl rfl ?_
      refine RunK.skipped rfl rfl rfl rfl rfl ?_
      refine RunK.step rfl rfl (ok_pick rfl rfl) ?_
      refine RunK.nil ?_
      refine A.sub (Sub.cons (t := 0) rfl (Sub.cons (t := 1) rfl (Sub.cons (t := 38) rfl (Sub.cons (t := 1900000) rfl (Sub.cons (t := 1900001) rfl Sub.nil))))) ?_
      refine A.no rfl ?_
      refine A.skip ?_
      refine End.normal_then (End.code ?_)
      refine A.regs (by kernel_rfl) (by kernel_rfl) (.inl rfl) ?_
      refine RunTK.new 2 (by decide) rfl (.inl rfl) ?_
      refine RunK.step rfl rfl (ok_move rfl) ?_
      refine RunK.step rfl rfl (ok_callM (macBlock_fn k (by omega)) (Sub.cons rfl (Sub.cons rfl Sub.nil)) tabs_v (Args.cons rfl (by first | exact Le.refl _ | exact Le.old _ _ | exact le_byt _ _ | exact (Le.old _ _).trans (le_byt _ _) | exact le_lst _ _ | exact (Le.old _ _).trans (le_lst _ _) | exact (Le.old _ _).trans (Le.old _ _) | exact (Le.old _ _).trans ((Le.old _ _).trans (le_byt _ _)) | exact byt_nil_le | exact lst_nil_le | exact bytes_nil_le | exact list_nil_le) Args.nil)) ?_
      refine RunK.nil ?_
      refine ⟨_, _, eff_alloc (n := 53) (d := 8) (k := 1000008) zero24 (by decide), fun b8 hb8 => ?_⟩
      have hBb8 := hb8.1
      refine RunTK.eff 3 (by decide) rfl (.inl rfl) ?_
      refine RunK.nil ?_
      refine ⟨_, eff_storeA (n := 53) (s := 1000008) (size24.of (by rw [List.length_map, kblock_length])) rfl rfl (all_bytes _) hBb8 rfl (by rw [List.length_map, kblock_length, List.length_replicate]) (LeftS.cons (t := 0) rfl (Surv.old (by omega)) (LeftS.cons (t := 1) rfl (Surv.old (by omega)) (LeftS.cons (t := 8) rfl (Surv.v _) (LeftS.cons (t := 38) rfl (Surv.v _) (LeftS.cons (t := 39) rfl (Surv.old (by omega)) (LeftS.cons (t := 40) rfl (Surv.v _) (LeftS.cons (t := 1900000) rfl (Surv.tab (by omega)) (LeftS.cons (t := 1900001) rfl (Surv.tab (by omega)) LeftS.nil)))))))), ?_⟩
      refine RunTK.last ?_
      refine RunK.nil ?_
      refine A.sub (Sub.cons (t := 0) rfl (Sub.cons (t := 1) rfl (Sub.cons (t := 8) rfl (Sub.cons (t := 1000008) rfl (Sub.cons (t := 1900000) rfl (Sub.cons (t := 1900001) rfl Sub.nil)))))) ?_
      refine A.regs (by kernel_rfl) (by kernel_rfl) (.inl rfl) ?_
      refine RunTK.last ?_
      refine RunK.step rfl rfl (ok_sliceA (s := 1000008) 0 64 (by decide) Tryd.underlying24 info5 rfl rfl (.inr ⟨rfl, rfl⟩) (.inr ⟨rfl, rfl⟩) (by omega) (by omega) (by rw [List.length_map, kblock_length]) (by decide)) ?_
      refine RunK.step rfl rfl (ok_move rfl) ?_
      refine RunK.step rfl rfl (ok_build [old w₀.heap.size (byt b)] Tryd.underlying28 info22 rfl (by decide) (by decide) rfl ⟨rfl, rfl, trivial⟩ (fun d hd w x h => by simp only [List.mem_cons, List.not_mem_nil, or_false] at hd; subst hd; exact old_one (fun _ _ h => lst_one h) h)) ?_
      refine RunK.step rfl rfl (ok_callM (macOf_fn (kblock k) [b] b (by simp) (by rw [kblock_length]; decide) (by simp) (by omega)) (Sub.cons rfl (Sub.cons rfl Sub.nil)) tabs_v (Args.cons rfl (Le.eq (by rw [byt_vals]; congr 2; rw [List.drop_zero, List.take_of_length_le (by rw [List.length_map, kblock_length]; exact Nat.le_refl _)])) (Args.cons rfl (list_lst1 (Le.old _ _)) Args.nil))) ?_; refine RunK.as (aggV ((hmac k b).map byteV)) (by rw [hmac_block]) ?_
      refine RunK.step rfl rfl (ok_move rfl) ?_
      refine RunK.step rfl rfl (ok_move rfl) ?_
      refine RunK.step rfl rfl (ok_build [old w₀.heap.size (byt b)] Tryd.underlying28 info22 rfl (by decide) (by decide) rfl ⟨rfl, rfl, trivial⟩ (fun d hd w x h => by simp only [List.mem_cons, List.not_mem_nil, or_false] at hd; subst hd; exact old_one (fun _ _ h => lst_one h) h)) ?_
      refine RunK.step rfl rfl (ok_callM (macOf_fn k [b] b (by simp) (by first | omega | (simp; omega)) (by simp) (by omega)) (Sub.cons rfl (Sub.cons rfl Sub.nil)) tabs_v (Args.cons rfl (Le.old _ _) (Args.cons rfl (list_lst1 (Le.old _ _)) Args.nil))) ?_
      refine RunK.step rfl rfl (ok_eqlA Tryd.underlying30 Tryd.underlying5 info5 (by kernel_rfl) rfl rfl rfl (by rw [List.length_map, hmac_length]) (ints_u8 _)) ?_; refine RunK.as (.bool true) (by rfl) ?_
      refine RunK.step rfl rfl (ok_move rfl) ?_
      refine RunK.guarded rfl rfl rfl rfl (ok_callM lives3_fn (Sub.cons rfl (Sub.cons rfl Sub.nil)) tabs_v Args.nil) ?_
      refine RunK.step rfl rfl (ok_pick rfl rfl) ?_
      refine RunK.step rfl rfl (ok_assign rfl) ?_
      refine RunK.nil ?_
      refine A.sub (Sub.cons (t := 6) rfl (Sub.cons (t := 1000008) rfl (Sub.cons (t := 1900000) rfl (Sub.cons (t := 1900001) rfl Sub.nil)))) ?_
      refine A.ret ?_
      exact End.ret1 rfl rfl (by first | exact Le.refl _ | exact Le.old _ _)
theorem MacsKey_fn (k b : List UInt8) (n : UInt8) : FnM Tryd.prog 6 tabs [byt k, byt b, .v (byteV n)] (.v (.bool true)) := by
  rcases Nat.lt_or_ge 200 k.length with h | h
  · exact MacsKey_fnA k b n h
  · exact MacsKey_fnB k b n h
set_option maxHeartbeats 4000000 in
theorem MacsKnown_fn  : FnM Tryd.prog 7 tabs [] (.v (.bool true)) := by
  refine FnM.of Tryd.func7 rfl (by kernel_rfl) Tryd.ntmps7 (by simp) (by decide) (fun w => [(1900000, tab 0 (H8.list.map u32V)), (1900001, tab 1 (K64.map u32V))]) (fun w => (StartM.m (by simp [tabs]) (by decide) (StartM.m (by simp [tabs]) (by decide) StartM.nil))) fun w₀ hM => ?_
  have htab := tabs_hi hM
  refine A.regs (by kernel_rfl) (by kernel_rfl) (.inl rfl) ?_
  refine RunTK.last ?_
  refine RunK.step rfl rfl (ok_assign rfl) ?_
  refine RunK.nil ?_
  refine A.sub (Sub.cons (t := 1900000) rfl (Sub.cons (t := 1900001) rfl Sub.nil)) ?_
  refine A.seq ?_
  refine A.regs (by kernel_rfl) (by kernel_rfl) (.inl rfl) ?_
  refine RunTK.last ?_
  refine RunK.step rfl rfl (ok_assign rfl) ?_
  refine RunK.nil ?_
  refine A.sub (Sub.cons (t := 1) rfl (Sub.cons (t := 1900000) rfl (Sub.cons (t := 1900001) rfl Sub.nil))) ?_
  refine A.block ?_
  refine A.loop (ι := Nat) (fun i => 62 ≤ i ∧ i ≤ 67) (fun i => [(1, .v (.int .i64 ((i : Nat) : Int))), (1900000, tab 0 (H8.list.map u32V)), (1900001, tab 1 (K64.map u32V))]) (fun i => 67 - i) 62 ?_ ?_ ?_
  · exact ⟨by decide, by decide⟩
  · exact (Sub.cons (t := 1) rfl (Sub.cons (t := 1900000) rfl (Sub.cons (t := 1900001) rfl Sub.nil)))
  intro i hi
  refine A.seq ?_
  refine A.regs (by kernel_rfl) (by kernel_rfl) (.inl rfl) ?_
  refine RunTK.last ?_
  refine RunK.step rfl rfl (ok_move rfl) ?_
  refine RunK.step rfl rfl (ok_bin rfl rfl rfl) ?_
  refine RunK.nil ?_
  refine A.sub (Sub.cons (t := 1) rfl (Sub.cons (t := 5) rfl (Sub.cons (t := 1900000) rfl (Sub.cons (t := 1900001) rfl Sub.nil)))) ?_
  refine A.cond rfl (fun hc5 => ?_) (fun hc5 => ?_)
  · have hlt : i < 67 := by simp at hc5; omega
    refine A.skip ?_
    refine End.normal_then (End.code ?_)
    refine A.seq ?_
    refine A.block ?_
    refine A.regs (by kernel_rfl) (by kernel_rfl) (.inl rfl) ?_
    refine RunTK.last ?_
    refine RunK.step rfl rfl (ok_move rfl) ?_
    refine RunK.step rfl rfl (ok_call (many_fn i 7 (by omega)) (Args.cons rfl (Le.refl _) (Args.cons rfl (Le.refl _) Args.nil))) ?_
    refine RunK.step rfl rfl (ok_callM (MacsBlock_fn (List.replicate i 7)) (Sub.cons rfl (Sub.cons rfl Sub.nil)) tabs_v (Args.cons rfl (le_byt _ _) Args.nil)) ?_
    refine RunK.step rfl rfl (ok_not rfl) ?_; refine RunK.as (.bool false) (by rfl) ?_
    refine RunK.step rfl rfl (ok_move rfl) ?_
    refine RunK.guarded rfl rfl rfl rfl (ok_move rfl) ?_
    refine RunK.guarded rfl rfl rfl rfl (ok_call (many_fn i 7 (by omega)) (Args.cons rfl (Le.refl _) (Args.cons rfl (Le.refl _) Args.nil))) ?_
    refine RunK.guarded rfl rfl rfl rfl (ok_move rfl) ?_
    refine RunK.guarded rfl rfl rfl rfl (ok_call (many_fn i 9 (by omega)) (Args.cons rfl (Le.refl _) (Args.cons rfl (Le.refl _) Args.nil))) ?_
    refine RunK.guarded rfl rfl rfl rfl (ok_build [bytes (List.replicate i 9) i] Tryd.underlying28 info22 rfl (by decide) (by decide) rfl ⟨rfl, rfl, trivial⟩ (fun d hd w x h => by simp only [List.mem_cons, List.not_mem_nil, or_false] at hd; subst hd; exact bytes_one h)) ?_
    refine RunK.guarded rfl rfl rfl rfl (ok_callM (MacsOf_fn (List.replicate i 7) [(List.replicate i 9)]) (Sub.cons rfl (Sub.cons rfl Sub.nil)) tabs_v (Args.cons rfl (le_byt _ _) (Args.cons rfl (list_lst1 (le_byt _ _)) Args.nil))) ?_
    refine RunK.guarded rfl rfl rfl rfl (ok_not rfl) ?_; refine RunK.as (.bool false) (by rfl) ?_
    refine RunK.step rfl rfl (ok_pick rfl rfl) ?_
    refine RunK.nil ?_
    refine A.sub (Sub.cons (t := 1) rfl (Sub.cons (t := 20) rfl (Sub.cons (t := 1900000) rfl (Sub.cons (t := 1900001) rfl Sub.nil)))) ?_
    refine A.no rfl ?_
    refine A.skip ?_
    refine End.normal_block ?_
    refine End.normal_then (End.code ?_)
    refine A.reg (by kernel_rfl) (by kernel_rfl) (.inl rfl) ?_
    refine RunTK.last ?_
    refine RunK.step rfl rfl (ok_move rfl) ?_
    refine RunK.step rfl rfl (ok_bin rfl rfl rfl) ?_; refine RunK.as (.int .i64 ((i + 1 : Nat) : Int)) (by rw [wrap_i64 (by omega) (by omega)]; first | rfl | (congr 1; omega)) ?_
    refine RunK.step rfl rfl (ok_assign rfl) ?_
    refine RunK.nil ?_
    refine End.sub (Sub.cons (t := 1) rfl (Sub.cons (t := 1900000) rfl (Sub.cons (t := 1900001) rfl Sub.nil))) ?_
    refine End.normal_then ?_
    refine End.again (i + 1) ?_ ?_ ?_
    · show _ ∧ _; omega
    · show _ - _ < _ - _; omega
    · exact (Sub.cons (t := 1) rfl (Sub.cons (t := 1900000) rfl (Sub.cons (t := 1900001) rfl Sub.nil)))
  · refine A.exit ?_
    refine End.exit_then ?_
    refine End.exit_then ?_
    refine End.exit_here ?_
    refine End.normal_then (End.code ?_)
    refine A.regs (by kernel_rfl) (by kernel_rfl) (.inl rfl) ?_
    refine RunTK.new 4 (by decide) rfl (.inl rfl) ?_
    refine RunK.step rfl rfl (ok_call (many_fn 20 170 (by omega)) (Args.cons rfl (Le.refl _) (Args.cons rfl (Le.refl _) Args.nil))) ?_
    refine RunK.step rfl rfl (ok_call (many_fn 50 221 (by omega)) (Args.cons rfl (Le.refl _) (Args.cons rfl (Le.refl _) Args.nil))) ?_
    refine RunK.step rfl rfl (ok_build [bytes (List.replicate 50 221) 50] Tryd.underlying28 info22 rfl (by decide) (by decide) rfl ⟨rfl, rfl, trivial⟩ (fun d hd w x h => by simp only [List.mem_cons, List.not_mem_nil, or_false] at hd; subst hd; exact bytes_one h)) ?_
    refine RunK.step rfl rfl (ok_callM (macOf_fn (List.replicate 20 170) [(List.replicate 50 221)] (List.replicate 50 221) (by simp) (by simp) (by simp) (by simp)) (Sub.cons rfl (Sub.cons rfl Sub.nil)) tabs_v (Args.cons rfl (le_byt _ _) (Args.cons rfl (list_lst1 (le_byt _ _)) Args.nil))) ?_
    refine RunK.nil ?_
    refine ⟨_, _, eff_alloc (n := 48) (d := 2) (k := 1000002) zero30 (by decide), fun b2 hb2 => ?_⟩
    have hBb2 := hb2.1
    refine RunTK.eff 5 (by decide) rfl (.inl rfl) ?_
    refine RunK.nil ?_
    refine ⟨_, eff_storeA (n := 48) (s := 1000002) (size30.of (by rw [List.length_map, hmac_length])) rfl rfl (all_bytes _) hBb2 rfl (by rw [List.length_map, hmac_length, List.length_replicate]) (LeftS.cons (t := 1) rfl (Surv.v _) (LeftS.cons (t := 2) rfl (Surv.v _) (LeftS.cons (t := 5) rfl (Surv.v _) (LeftS.cons (t := 24) rfl (Surv.v _) (LeftS.cons (t := 1900000) rfl (Surv.tab (by omega)) (LeftS.cons (t := 1900001) rfl (Surv.tab (by omega)) LeftS.nil)))))), ?_⟩
    refine RunTK.last ?_
    refine RunK.nil ?_
    refine A.sub (Sub.cons (t := 2) rfl (Sub.cons (t := 1000002) rfl (Sub.cons (t := 1900000) rfl (Sub.cons (t := 1900001) rfl Sub.nil)))) ?_
    refine A.regs (by kernel_rfl) (by kernel_rfl) (.inl rfl) ?_
    refine RunTK.eff 2 (by decide) rfl (.inl rfl) ?_
    refine RunK.step rfl rfl (ok_call (many_fn 131 170 (by omega)) (Args.cons rfl (Le.refl _) (Args.cons rfl (Le.refl _) Args.nil))) ?_
    refine RunK.step rfl rfl (ok_buildT [84, 101, 115, 116, 32, 85, 115, 105, 110, 103, 32, 76, 97, 114, 103, 101, 114, 32, 84, 104, 97, 110, 32, 66, 108, 111, 99, 107, 45, 83, 105, 122, 101, 32, 75, 101, 121, 32, 45, 32, 72, 97, 115, 104, 32, 75, 101, 121, 32, 70, 105, 114, 115, 116] Tryd.underlying22 info5 rfl (by decide) (by decide) rfl ⟨rfl, rfl, rfl, rfl, rfl, rfl, rfl, rfl, rfl, rfl, rfl, rfl, rfl, rfl, rfl, rfl, rfl, rfl, rfl, rfl, rfl, rfl, rfl, rfl, rfl, rfl, rfl, rfl, rfl, rfl, rfl, rfl, rfl, rfl, rfl, rfl, rfl, rfl, rfl, rfl, rfl, rfl, rfl, rfl, rfl, rfl, rfl, rfl, rfl, rfl, rfl, rfl, rfl, rfl, rfl, rfl, rfl, rfl, rfl, rfl, rfl, rfl, rfl, rfl, rfl, rfl, rfl, rfl, rfl, rfl, rfl, rfl, rfl, rfl, rfl, rfl, rfl, rfl, rfl, rfl, rfl, rfl, rfl, rfl, rfl, rfl, rfl, rfl, rfl, rfl, rfl, rfl, rfl, rfl, rfl, rfl, rfl, rfl, rfl, rfl, rfl, rfl, rfl, rfl, rfl, rfl, rfl, rfl, trivial⟩) ?_
    refine RunK.nil ?_
    refine ⟨_, eff_convN (n := 48) Tryd.underlying22 Tryd.underlying5 rfl (by decide) (fun g hg => (LeftM.cons (t := 2) rfl (.of (Surv.v _)) (LeftM.cons (t := 25) rfl (.stb) (LeftM.cons (t := 26) rfl (.stb) (LeftM.cons (t := 1000002) rfl (.of (Surv.blkT (by decide))) (LeftM.cons (t := 1900000) rfl (.of (Surv.tab (by omega))) (LeftM.cons (t := 1900001) rfl (.of (Surv.tab (by omega))) LeftM.nil))))))), ?_⟩
    refine RunTK.new 5 (by decide) rfl (.inl rfl) ?_
    refine RunK.step rfl rfl (ok_build [newT w₀.heap.size 5 [84, 101, 115, 116, 32, 85, 115, 105, 110, 103, 32, 76, 97, 114, 103, 101, 114, 32, 84, 104, 97, 110, 32, 66, 108, 111, 99, 107, 45, 83, 105, 122, 101, 32, 75, 101, 121, 32, 45, 32, 72, 97, 115, 104, 32, 75, 101, 121, 32, 70, 105, 114, 115, 116] 54] Tryd.underlying28 info22 rfl (by decide) (by decide) rfl ⟨rfl, rfl, trivial⟩ (fun d hd w x h => by simp only [List.mem_cons, List.not_mem_nil, or_false] at hd; subst hd; exact newT_one h)) ?_
    refine RunK.step rfl rfl (ok_callM (macOf_fn (List.replicate 131 170) [[84, 101, 115, 116, 32, 85, 115, 105, 110, 103, 32, 76, 97, 114, 103, 101, 114, 32, 84, 104, 97, 110, 32, 66, 108, 111, 99, 107, 45, 83, 105, 122, 101, 32, 75, 101, 121, 32, 45, 32, 72, 97, 115, 104, 32, 75, 101, 121, 32, 70, 105, 114, 115, 116]] [84, 101, 115, 116, 32, 85, 115, 105, 110, 103, 32, 76, 97, 114, 103, 101, 114, 32, 84, 104, 97, 110, 32, 66, 108, 111, 99, 107, 45, 83, 105, 122, 101, 32, 75, 101, 121, 32, 45, 32, 72, 97, 115, 104, 32, 75, 101, 121, 32, 70, 105, 114, 115, 116] (by simp) (by simp) (by simp) (by simp)) (Sub.cons rfl (Sub.cons rfl Sub.nil)) tabs_v (Args.cons rfl (le_byt _ _) (Args.cons rfl (list_lst1 newT_byt) Args.nil))) ?_
    refine RunK.nil ?_
    refine ⟨_, _, eff_alloc (n := 48) (d := 3) (k := 1000003) zero30 (by decide), fun b3 hb3 => ?_⟩
    have hBb3 := hb3.1
    have hlt_b2_b3 : b2 < b3 := hb3.2 1000002 _ _ _ rfl
    refine RunTK.eff 6 (by decide) rfl (.inl rfl) ?_
    refine RunK.nil ?_
    refine ⟨_, eff_storeA (n := 48) (s := 1000003) (size30.of (by rw [List.length_map, hmac_length])) rfl rfl (all_bytes _) hBb3 rfl (by rw [List.length_map, hmac_length, List.length_replicate]) (LeftS.cons (t := 2) rfl (Surv.v _) (LeftS.cons (t := 3) rfl (Surv.v _) (LeftS.cons (t := 26) rfl (Surv.newT (by decide)) (LeftS.cons (t := 27) rfl (Surv.newT (by decide)) (LeftS.cons (t := 29) rfl (Surv.v _) (LeftS.cons (t := 1000002) rfl (Surv.blk (by omega)) (LeftS.cons (t := 1900000) rfl (Surv.tab (by omega)) (LeftS.cons (t := 1900001) rfl (Surv.tab (by omega)) LeftS.nil)))))))), ?_⟩
    refine RunTK.last ?_
    refine RunK.nil ?_
    refine A.sub (Sub.cons (t := 2) rfl (Sub.cons (t := 3) rfl (Sub.cons (t := 1000002) rfl (Sub.cons (t := 1000003) rfl (Sub.cons (t := 1900000) rfl (Sub.cons (t := 1900001) rfl Sub.nil)))))) ?_
    refine A.regs (by kernel_rfl) (by kernel_rfl) (.inr (by kernel_rfl)) ?_
    refine RunTK.last ?_
    refine RunK.step rfl rfl (ok_loadA (s := 1000002) (by decide) Tryd.underlying30 rfl (size30.of (by rw [List.length_map, hmac_length])) rfl rfl) ?_
    refine RunK.step rfl rfl (ok_litA [_, _, _, _, _, _, _, _] Tryd.underlying42 info41 zero42 rfl ⟨rfl, rfl, rfl, rfl, rfl, rfl, rfl, rfl, rfl, rfl, rfl, rfl, rfl, rfl, rfl, rfl, trivial⟩ rfl) ?_; refine RunK.as (aggV ((hmacR (List.replicate 20 170) (List.replicate 50 221)).list.map u32V)) (by kernel_rfl) ?_
    refine RunK.step rfl rfl (ok_call (is3_fn (kpad 92 (List.replicate 20 170) ++ sha (kpad 54 (List.replicate 20 170) ++ (List.replicate 50 221)))) (Args.cons rfl (Le.refl _) (Args.cons rfl (Le.refl _) Args.nil))) ?_
    refine RunK.step rfl rfl (ok_move rfl) ?_
    refine RunK.guarded rfl rfl rfl rfl (ok_loadA (s := 1000003) (by decide) Tryd.underlying30 rfl (size30.of (by rw [List.length_map, hmac_length])) rfl rfl) ?_
    refine RunK.guarded rfl rfl rfl rfl (ok_litA [_, _, _, _, _, _, _, _] Tryd.underlying42 info41 zero42 rfl ⟨rfl, rfl, rfl, rfl, rfl, rfl, rfl, rfl, rfl, rfl, rfl, rfl, rfl, rfl, rfl, rfl, trivial⟩ rfl) ?_; refine RunK.as (aggV ((hmacR (List.replicate 131 170) [84, 101, 115, 116, 32, 85, 115, 105, 110, 103, 32, 76, 97, 114, 103, 101, 114, 32, 84, 104, 97, 110, 32, 66, 108, 111, 99, 107, 45, 83, 105, 122, 101, 32, 75, 101, 121, 32, 45, 32, 72, 97, 115, 104, 32, 75, 101, 121, 32, 70, 105, 114, 115, 116]).list.map u32V)) (by kernel_rfl) ?_
    refine RunK.guarded rfl rfl rfl rfl (ok_call (is3_fn (kpad 92 (List.replicate 131 170) ++ sha (kpad 54 (List.replicate 131 170) ++ [84, 101, 115, 116, 32, 85, 115, 105, 110, 103, 32, 76, 97, 114, 103, 101, 114, 32, 84, 104, 97, 110, 32, 66, 108, 111, 99, 107, 45, 83, 105, 122, 101, 32, 75, 101, 121, 32, 45, 32, 72, 97, 115, 104, 32, 75, 101, 121, 32, 70, 105, 114, 115, 116]))) (Args.cons rfl (Le.refl _) (Args.cons rfl (Le.refl _) Args.nil))) ?_
    refine RunK.step rfl rfl (ok_pick rfl rfl) ?_
    refine RunK.step rfl rfl (ok_move rfl) ?_
    refine RunK.guarded rfl rfl rfl rfl (ok_callM (macOf_fn [] [] [] rfl (by decide) (by decide) (by decide)) (Sub.cons rfl (Sub.cons rfl Sub.nil)) tabs_v (Args.cons rfl byt_nil_le (Args.cons rfl lst_nil_le Args.nil))) ?_
    refine RunK.guarded rfl rfl rfl rfl (ok_make 64 Tryd.underlying22 info5 (by decide) rfl rfl rfl rfl rfl (by decide)) ?_
    refine RunK.guarded rfl rfl rfl rfl (ok_build [.v (.slice none 0 0)] Tryd.underlying28 info22 rfl (by decide) (by decide) rfl ⟨rfl, rfl, trivial⟩ (fun d hd w x h => by simp only [List.mem_cons, List.not_mem_nil, or_false] at hd; subst hd; exact v_one rfl h)) ?_
    refine RunK.guarded rfl rfl rfl rfl (ok_callM (macOf_fn (List.replicate 64 0) [[]] [] rfl (by decide) (by decide) (by decide)) (Sub.cons rfl (Sub.cons rfl Sub.nil)) tabs_v (Args.cons rfl (fresh_zeros (by decide)) (Args.cons rfl (list_lst1 byt_nil_le) Args.nil))) ?_; refine RunK.as (aggV ((hmac [] []).map byteV)) (by rw [show (List.replicate 64 0) = kblock [] from rfl, hmac_block]) ?_
    refine RunK.guarded rfl rfl rfl rfl (ok_eqlA Tryd.underlying30 Tryd.underlying5 info5 (by kernel_rfl) rfl rfl rfl (by rw [List.length_map, hmac_length]) (ints_u8 _)) ?_; refine RunK.as (.bool true) (by rfl) ?_
    refine RunK.step rfl rfl (ok_pick rfl rfl) ?_
    refine RunK.step rfl rfl (ok_move rfl) ?_
    refine RunK.guarded rfl rfl rfl rfl (ok_callM lives3_fn (Sub.cons rfl (Sub.cons rfl Sub.nil)) tabs_v Args.nil) ?_
    refine RunK.step rfl rfl (ok_pick rfl rfl) ?_
    refine RunK.step rfl rfl (ok_assign rfl) ?_
    refine RunK.nil ?_
    refine A.sub (Sub.cons (t := 0) rfl (Sub.cons (t := 1000002) rfl (Sub.cons (t := 1000003) rfl (Sub.cons (t := 1900000) rfl (Sub.cons (t := 1900001) rfl Sub.nil))))) ?_
    refine A.ret ?_
    exact End.ret1 rfl rfl (by first | exact Le.refl _ | exact Le.old _ _)
end Go.Proofs.YtgonpjlalhdkjaaDoor
