/-
  The laws of caissonlaw04, by facts, part two.
-/
import Derived.Test.YtidlikaiileggaaDoorC04b
import Derived.Test.YtidlikaiileggaaDoorC04c
import Derived.Test.YtidlikaiileggaaDoorZeros
import Derived.Test.YtidlikaiileggaaDoorMore
namespace Go.Proofs.YtidlikaiileggaaDoor
open Go Go.RowKit
set_option linter.unusedVariables false

theorem okm : hkdf (hmac (rise 0 13) (List.replicate 22 11 : List UInt8)) (rise 240 10) 42 = [60, 178, 95, 37, 250, 172, 213, 122, 144, 67, 79, 100, 208, 54, 47, 42, 45, 45, 10, 144, 207, 26, 90, 76, 93, 176, 45, 86, 236, 196, 197, 191, 52, 0, 114, 8, 213, 184, 135, 24, 88, 101] := by kernel_rfl
set_option maxHeartbeats 4000000 in
theorem lives4_fn  : FnM Tryd.prog 8 tabs [] (.v (.bool true)) := by
  refine FnM.of Tryd.func8 rfl (by kernel_rfl) Tryd.ntmps8 (by simp) (by decide) (fun w => [(1900000, tab 0 (H8.list.map u32V)), (1900001, tab 1 (K64.map u32V))]) (fun w => (StartM.m (by simp [tabs]) (by decide) (StartM.m (by simp [tabs]) (by decide) StartM.nil))) fun w₀ hM => ?_
  have htab := tabs_hi hM
  refine A.regs (by kernel_rfl) (by kernel_rfl) (.inl rfl) ?_
  refine RunTK.last ?_
  refine RunK.step rfl rfl (ok_assign rfl) ?_
  refine RunK.nil ?_
  refine A.sub (Sub.cons (t := 1900000) rfl (Sub.cons (t := 1900001) rfl Sub.nil)) ?_
  refine A.regs (by kernel_rfl) (by kernel_rfl) (.inl rfl) ?_
  refine RunTK.last ?_
  refine RunK.step rfl rfl (ok_make 22 Tryd.underlying22 info5 (by decide) rfl rfl rfl rfl rfl (by decide)) ?_
  refine RunK.step rfl rfl (ok_assign rfl) ?_
  refine RunK.nil ?_
  refine A.sub (Sub.cons (t := 1) rfl (Sub.cons (t := 1900000) rfl (Sub.cons (t := 1900001) rfl Sub.nil))) ?_
  refine A.open (t := 1) (k := 1000090) rfl fun g hBg => ?_
  refine A.seq ?_
  refine A.regs (by kernel_rfl) (by kernel_rfl) (.inl rfl) ?_
  refine RunTK.last ?_
  refine RunK.step rfl rfl (ok_assign rfl) ?_
  refine RunK.nil ?_
  refine A.sub (Sub.cons (t := 1) rfl (Sub.cons (t := 2) rfl (Sub.cons (t := 1000090) rfl (Sub.cons (t := 1900000) rfl (Sub.cons (t := 1900001) rfl Sub.nil))))) ?_
  refine A.block ?_
  refine A.loop (ι := Nat) (fun i => i ≤ 22) (fun i => [(1, .v (.slice (some ⟨g, 0, none⟩) 22 22)), (2, .v (.int .i64 ((i : Nat) : Int))), (1000090, blk g 5 (((List.replicate 22 11 : List UInt8).take i).map byteV ++ List.replicate ((List.replicate 22 11 : List UInt8).length - i) (.int .u8 0))), (1900000, tab 0 (H8.list.map u32V)), (1900001, tab 1 (K64.map u32V))]) (fun i => 22 - i) 0 ?_ ?_ ?_
  · exact Nat.zero_le _
  · exact (Sub.eq (t := 1) _ rfl (by simp) (Sub.cons (t := 2) rfl (Sub.eq (t := 1000090) _ rfl (by simp) (Sub.cons (t := 1900000) rfl (Sub.cons (t := 1900001) rfl Sub.nil)))))
  intro i hi
  refine A.seq ?_
  refine A.regs (by kernel_rfl) (by kernel_rfl) (.inl rfl) ?_
  refine RunTK.last ?_
  refine RunK.step rfl rfl (ok_move rfl) ?_
  refine RunK.step rfl rfl (ok_bin rfl rfl rfl) ?_
  refine RunK.nil ?_
  refine A.sub (Sub.cons (t := 1) rfl (Sub.cons (t := 2) rfl (Sub.cons (t := 17) rfl (Sub.cons (t := 1000090) rfl (Sub.cons (t := 1900000) rfl (Sub.cons (t := 1900001) rfl Sub.nil)))))) ?_
  refine A.cond rfl (fun hc17 => ?_) (fun hc17 => ?_)
  · have hlt : i < 22 := by simp at hc17; omega
    refine A.skip ?_
    refine End.normal_then (End.code ?_)
    refine A.seq ?_
    refine A.block ?_
    refine A.reg (by kernel_rfl) (by kernel_rfl) (.inl rfl) ?_
    refine RunTK.eff 3 (by decide) rfl (.inl rfl) ?_
    refine RunK.step rfl rfl (ok_move rfl) ?_
    refine RunK.step rfl rfl (ok_move rfl) ?_
    refine RunK.step rfl rfl (ok_indexV i Tryd.underlying22 info5 rfl rfl rfl hlt) ?_
    refine RunK.nil ?_
    refine ⟨_, eff_storeS (n := 77) (s := 1000090) info5 rfl rfl rfl hBg rfl (by simp; omega) (LeftS.cons (t := 1) rfl (Surv.v _) (LeftS.cons (t := 2) rfl (Surv.v _) (LeftS.cons (t := 17) rfl (Surv.v _) (LeftS.cons (t := 20) rfl (Surv.v _) (LeftS.cons (t := 21) rfl (Surv.v _) (LeftS.cons (t := 22) rfl (Surv.v _) (LeftS.cons (t := 1900000) rfl (Surv.tab (by omega)) (LeftS.cons (t := 1900001) rfl (Surv.tab (by omega)) LeftS.nil)))))))), ?_⟩
    refine RunTK.last ?_
    refine RunK.nil ?_
    refine End.sub (Sub.cons (t := 1) rfl (Sub.cons (t := 2) rfl (Sub.cons (t := 1000090) rfl (Sub.cons (t := 1900000) rfl (Sub.cons (t := 1900001) rfl Sub.nil))))) ?_
    refine End.normal_block ?_
    refine End.normal_then (End.code ?_)
    refine A.reg (by kernel_rfl) (by kernel_rfl) (.inl rfl) ?_
    refine RunTK.last ?_
    refine RunK.step rfl rfl (ok_move rfl) ?_
    refine RunK.step rfl rfl (ok_bin rfl rfl rfl) ?_; refine RunK.as (.int .i64 ((i + 1 : Nat) : Int)) (by rw [wrap_i64 (by omega) (by omega)]; first | rfl | (congr 1; omega)) ?_
    refine RunK.step rfl rfl (ok_assign rfl) ?_
    refine RunK.nil ?_
    refine End.sub (Sub.cons (t := 1) rfl (Sub.cons (t := 2) rfl (Sub.cons (t := 1000090) rfl (Sub.cons (t := 1900000) rfl (Sub.cons (t := 1900001) rfl Sub.nil))))) ?_
    refine End.normal_then ?_
    refine End.again (i + 1) ?_ ?_ ?_
    · show _ ≤ _; omega
    · show _ - _ < _ - _; omega
    · exact (Sub.cons (t := 1) rfl (Sub.cons (t := 2) rfl (Sub.eq (t := 1000090) _ rfl (by rw [Nat.zero_add]; exact congrArg _ (fill_step (l := (List.replicate 22 11 : List UInt8)) (c := 11) (by rw [List.getElem?_replicate, if_pos hlt]))) (Sub.cons (t := 1900000) rfl (Sub.cons (t := 1900001) rfl Sub.nil)))))
  · obtain rfl : i = 22 := by simp at hc17; omega
    refine A.exit ?_
    refine End.exit_then ?_
    refine End.exit_then ?_
    refine End.exit_here ?_
    refine End.normal_then (End.code ?_)
    refine A.regs (by kernel_rfl) (by kernel_rfl) (.inl rfl) ?_
    refine RunTK.new 3 (by decide) rfl (.inl rfl) ?_
    refine RunK.step rfl rfl (ok_callB (from4_fnB 0 13 (by decide)) (fun _ _ h => own_mono h) (Args.cons rfl (Le.refl _) (Args.cons rfl (Le.refl _) Args.nil))) ?_
    refine RunK.step rfl rfl (ok_moveB (s := 1000090) (List.replicate 22 11 : List UInt8) (by decide) rfl rfl (by decide) (by decide) (by decide) (by rfl)) ?_
    refine RunK.step rfl rfl (ok_callM (Extract_fn (rise 0 13) (List.replicate 22 11 : List UInt8) (by rw [rise_length]; decide) (by decide)) (Sub.cons rfl (Sub.cons rfl Sub.nil)) tabs_v (Args.cons rfl (own_cat rfl (rise_length _ _).symm) (Args.cons rfl (Le.refl _) Args.nil))) ?_
    refine RunK.nil ?_
    refine ⟨_, _, eff_alloc (n := 77) (d := 3) (k := 1000003) zero25 (by decide), fun b3 hb3 => ?_⟩
    have hBb3 := hb3.1
    have hlt_g_b3 : g < b3 := hb3.2 1000090 _ _ _ rfl
    refine RunTK.eff 4 (by decide) rfl (.inl rfl) ?_
    refine RunK.nil ?_
    refine ⟨_, eff_storeA (n := 77) (s := 1000003) (size25.of (by rw [List.length_map, hmac_length])) rfl rfl (all_bytes _) hBb3 rfl (by rw [List.length_map, hmac_length, List.length_replicate]) (LeftS.cons (t := 1) rfl (Surv.v _) (LeftS.cons (t := 2) rfl (Surv.v _) (LeftS.cons (t := 3) rfl (Surv.v _) (LeftS.cons (t := 17) rfl (Surv.v _) (LeftS.cons (t := 23) rfl (Surv.own (by decide)) (LeftS.cons (t := 25) rfl (Surv.v _) (LeftS.cons (t := 1000090) rfl (Surv.blkT (by decide)) (LeftS.cons (t := 1900000) rfl (Surv.tab (by omega)) (LeftS.cons (t := 1900001) rfl (Surv.tab (by omega)) LeftS.nil))))))))), ?_⟩
    refine RunTK.last ?_
    refine RunK.nil ?_
    refine A.sub (Sub.cons (t := 3) rfl (Sub.cons (t := 1000003) rfl (Sub.cons (t := 1000090) rfl (Sub.cons (t := 1900000) rfl (Sub.cons (t := 1900001) rfl Sub.nil))))) ?_
    refine A.regs (by kernel_rfl) (by kernel_rfl) (.inl rfl) ?_
    refine RunTK.last ?_
    refine RunK.step rfl rfl (ok_callB (from4_fnB 240 10 (by decide)) (fun _ _ h => own_mono h) (Args.cons rfl (Le.refl _) (Args.cons rfl (Le.refl _) Args.nil))) ?_
    refine RunK.step rfl rfl (ok_assign rfl) ?_
    refine RunK.nil ?_
    refine A.sub (Sub.cons (t := 3) rfl (Sub.cons (t := 4) rfl (Sub.cons (t := 1000003) rfl (Sub.cons (t := 1000090) rfl (Sub.cons (t := 1900000) rfl (Sub.cons (t := 1900001) rfl Sub.nil)))))) ?_
    refine A.regs (by kernel_rfl) (by kernel_rfl) (.inl rfl) ?_
    refine RunTK.last ?_
    refine RunK.step rfl rfl ((ok_sliceA (s := 1000003) 0 32 (by decide) Tryd.underlying25 info5 rfl rfl (.inr ⟨rfl, rfl⟩) (.inr ⟨rfl, rfl⟩) (by omega) (by omega) (by rw [List.length_map, (hmac_length _ _)]) (by decide)).le (byt_all (hmac_length _ _))) ?_
    refine RunK.step rfl rfl (ok_move rfl) ?_
    refine RunK.step rfl rfl (ok_callM (Expand_fn (hmac (rise 0 13) (List.replicate 22 11 : List UInt8)) (rise 240 10) 42 (by rw [hmac_length]; decide) (by rw [rise_length]; decide) (by decide)) (Sub.cons rfl (Sub.cons rfl Sub.nil)) tabs_v (Args.cons rfl (Le.refl _) (Args.cons rfl (own_cat rfl (rise_length _ _).symm) (Args.cons rfl (Le.refl _) Args.nil)))) ?_
    refine RunK.step rfl rfl (ok_move rfl) ?_
    refine RunK.step rfl rfl (ok_extract rfl rfl) ?_
    refine RunK.step rfl rfl (ok_extract rfl rfl) ?_
    refine RunK.step rfl rfl (ok_assign rfl) ?_
    refine RunK.step rfl rfl (ok_assign rfl) ?_
    refine RunK.nil ?_
    refine A.sub (Sub.cons (t := 3) rfl (Sub.cons (t := 4) rfl (Sub.cons (t := 5) rfl (Sub.cons (t := 6) rfl (Sub.cons (t := 1000003) rfl (Sub.cons (t := 1000090) rfl (Sub.cons (t := 1900000) rfl (Sub.cons (t := 1900001) rfl Sub.nil)))))))) ?_
    refine A.regs (by kernel_rfl) (by kernel_rfl) (.inl rfl) ?_
    refine RunTK.last ?_
    refine RunK.step rfl rfl ((ok_sliceA (s := 1000003) 0 32 (by decide) Tryd.underlying25 info5 rfl rfl (.inr ⟨rfl, rfl⟩) (.inr ⟨rfl, rfl⟩) (by omega) (by omega) (by rw [List.length_map, (hmac_length _ _)]) (by decide)).le (byt_all (hmac_length _ _))) ?_
    refine RunK.step rfl rfl (ok_move rfl) ?_
    refine RunK.step rfl rfl (ok_callM (Expand_fn (hmac (rise 0 13) (List.replicate 22 11 : List UInt8)) (rise 240 10) 0 (by rw [hmac_length]; decide) (by rw [rise_length]; decide) (by decide)) (Sub.cons rfl (Sub.cons rfl Sub.nil)) tabs_v (Args.cons rfl (Le.refl _) (Args.cons rfl (own_cat rfl (rise_length _ _).symm) (Args.cons rfl (Le.refl _) Args.nil)))) ?_
    refine RunK.step rfl rfl (ok_move rfl) ?_
    refine RunK.step rfl rfl (ok_extract rfl rfl) ?_
    refine RunK.step rfl rfl (ok_extract rfl rfl) ?_
    refine RunK.step rfl rfl (ok_assign rfl) ?_
    refine RunK.step rfl rfl (ok_assign rfl) ?_
    refine RunK.nil ?_
    refine A.sub (Sub.cons (t := 3) rfl (Sub.cons (t := 4) rfl (Sub.cons (t := 5) rfl (Sub.cons (t := 6) rfl (Sub.cons (t := 7) rfl (Sub.cons (t := 8) rfl (Sub.cons (t := 1000003) rfl (Sub.cons (t := 1000090) rfl (Sub.cons (t := 1900000) rfl (Sub.cons (t := 1900001) rfl Sub.nil)))))))))) ?_
    refine A.regs (by kernel_rfl) (by kernel_rfl) (.inl rfl) ?_
    refine RunTK.last ?_
    refine RunK.step rfl rfl ((ok_sliceA (s := 1000003) 0 32 (by decide) Tryd.underlying25 info5 rfl rfl (.inr ⟨rfl, rfl⟩) (.inr ⟨rfl, rfl⟩) (by omega) (by omega) (by rw [List.length_map, (hmac_length _ _)]) (by decide)).le (byt_all (hmac_length _ _))) ?_
    refine RunK.step rfl rfl (ok_move rfl) ?_
    refine RunK.step rfl rfl (ok_callM (Expand_neg (hmac (rise 0 13) (List.replicate 22 11 : List UInt8)) (rise 240 10) (-1) (by decide)) (Sub.cons rfl (Sub.cons rfl Sub.nil)) tabs_v (Args.cons rfl (Le.refl _) (Args.cons rfl (own_cat rfl (rise_length _ _).symm) (Args.cons rfl (Le.refl _) Args.nil)))) ?_
    refine RunK.step rfl rfl (ok_move rfl) ?_
    refine RunK.step rfl rfl (ok_extract rfl rfl) ?_
    refine RunK.step rfl rfl (ok_extract rfl rfl) ?_
    refine RunK.step rfl rfl (ok_assign rfl) ?_
    refine RunK.step rfl rfl (ok_assign rfl) ?_
    refine RunK.nil ?_
    refine A.sub (Sub.cons (t := 3) rfl (Sub.cons (t := 4) rfl (Sub.cons (t := 5) rfl (Sub.cons (t := 6) rfl (Sub.cons (t := 7) rfl (Sub.cons (t := 8) rfl (Sub.cons (t := 9) rfl (Sub.cons (t := 10) rfl (Sub.cons (t := 1000003) rfl (Sub.cons (t := 1000090) rfl (Sub.cons (t := 1900000) rfl (Sub.cons (t := 1900001) rfl Sub.nil)))))))))))) ?_
    refine A.regs (by kernel_rfl) (by kernel_rfl) (.inl rfl) ?_
    refine RunTK.last ?_
    refine RunK.step rfl rfl ((ok_sliceA (s := 1000003) 0 32 (by decide) Tryd.underlying25 info5 rfl rfl (.inr ⟨rfl, rfl⟩) (.inr ⟨rfl, rfl⟩) (by omega) (by omega) (by rw [List.length_map, (hmac_length _ _)]) (by decide)).le (byt_all (hmac_length _ _))) ?_
    refine RunK.step rfl rfl (ok_move rfl) ?_
    refine RunK.step rfl rfl (ok_callM (Expand_big (hmac (rise 0 13) (List.replicate 22 11 : List UInt8)) (rise 240 10) 8161 (by decide)) (Sub.cons rfl (Sub.cons rfl Sub.nil)) tabs_v (Args.cons rfl (Le.refl _) (Args.cons rfl (own_cat rfl (rise_length _ _).symm) (Args.cons rfl (Le.refl _) Args.nil)))) ?_
    refine RunK.step rfl rfl (ok_move rfl) ?_
    refine RunK.step rfl rfl (ok_extract rfl rfl) ?_
    refine RunK.step rfl rfl (ok_extract rfl rfl) ?_
    refine RunK.step rfl rfl (ok_assign rfl) ?_
    refine RunK.step rfl rfl (ok_assign rfl) ?_
    refine RunK.nil ?_
    refine A.sub (Sub.cons (t := 3) rfl (Sub.cons (t := 5) rfl (Sub.cons (t := 6) rfl (Sub.cons (t := 7) rfl (Sub.cons (t := 8) rfl (Sub.cons (t := 9) rfl (Sub.cons (t := 10) rfl (Sub.cons (t := 11) rfl (Sub.cons (t := 12) rfl (Sub.cons (t := 1000003) rfl (Sub.cons (t := 1000090) rfl (Sub.cons (t := 1900000) rfl (Sub.cons (t := 1900001) rfl Sub.nil))))))))))))) ?_
    refine A.regs (by kernel_rfl) (by kernel_rfl) (.inl rfl) ?_
    refine RunTK.last ?_
    refine RunK.step rfl rfl (ok_assign rfl) ?_; refine RunK.as (.string ⟨([7, 119, 9, 54, 44, 46, 50, 223, 13, 220, 63, 13, 196, 123, 186, 99, 144, 182, 199, 59, 181, 15, 156, 49, 34, 236, 132, 74, 215, 194, 179, 229] : List UInt8).toArray⟩) (rfl) ?_
    refine RunK.nil ?_
    refine A.sub (Sub.cons (t := 3) rfl (Sub.cons (t := 5) rfl (Sub.cons (t := 6) rfl (Sub.cons (t := 7) rfl (Sub.cons (t := 8) rfl (Sub.cons (t := 9) rfl (Sub.cons (t := 10) rfl (Sub.cons (t := 11) rfl (Sub.cons (t := 12) rfl (Sub.cons (t := 13) rfl (Sub.cons (t := 1000003) rfl (Sub.cons (t := 1000090) rfl (Sub.cons (t := 1900000) rfl (Sub.cons (t := 1900001) rfl Sub.nil)))))))))))))) ?_
    refine A.regs (by kernel_rfl) (by kernel_rfl) (.inl rfl) ?_
    refine RunTK.last ?_
    refine RunK.step rfl rfl (ok_assign rfl) ?_; refine RunK.as (.string ⟨([60, 178, 95, 37, 250, 172, 213, 122, 144, 67, 79, 100, 208, 54, 47, 42, 45, 45, 10, 144, 207, 26, 90, 76, 93, 176, 45, 86, 236, 196, 197, 191, 52, 0, 114, 8, 213, 184, 135, 24, 88, 101] : List UInt8).toArray⟩) (rfl) ?_
    refine RunK.nil ?_
    refine A.sub (Sub.cons (t := 3) rfl (Sub.cons (t := 5) rfl (Sub.cons (t := 6) rfl (Sub.cons (t := 7) rfl (Sub.cons (t := 8) rfl (Sub.cons (t := 9) rfl (Sub.cons (t := 10) rfl (Sub.cons (t := 11) rfl (Sub.cons (t := 12) rfl (Sub.cons (t := 13) rfl (Sub.cons (t := 14) rfl (Sub.cons (t := 1000003) rfl (Sub.cons (t := 1000090) rfl (Sub.cons (t := 1900000) rfl (Sub.cons (t := 1900001) rfl Sub.nil))))))))))))))) ?_
    refine A.regs (by kernel_rfl) (by kernel_rfl) (.inl rfl) ?_
    refine RunTK.last ?_
    refine RunK.step rfl rfl ((ok_sliceA (s := 1000003) 0 32 (by decide) Tryd.underlying25 info5 rfl rfl (.inr ⟨rfl, rfl⟩) (.inr ⟨rfl, rfl⟩) (by omega) (by omega) (by rw [List.length_map, (hmac_length _ _)]) (by decide)).le (byt_all (hmac_length _ _))) ?_
    refine RunK.step rfl rfl (ok_str (l := (hmac (rise 0 13) (List.replicate 22 11 : List UInt8))) Tryd.underlying22 Tryd.underlying5 Tryd.underlying9 rfl (Le.refl _)) ?_
    refine RunK.step rfl rfl (ok_move rfl) ?_
    refine RunK.step rfl rfl (ok_seq rfl rfl) ?_; refine RunK.as (.bool true) (by kernel_rfl) ?_
    refine RunK.step rfl rfl (ok_move rfl) ?_
    refine RunK.guarded rfl rfl rfl rfl (ok_move rfl) ?_
    refine RunK.guarded rfl rfl rfl rfl (ok_move rfl) ?_
    refine RunK.guarded rfl rfl rfl rfl (ok_move rfl) ?_
    refine RunK.guarded rfl rfl rfl rfl (ok_strB (l := [60, 178, 95, 37, 250, 172, 213, 122, 144, 67, 79, 100, 208, 54, 47, 42, 45, 45, 10, 144, 207, 26, 90, 76, 93, 176, 45, 86, 236, 196, 197, 191, 52, 0, 114, 8, 213, 184, 135, 24, 88, 101]) Tryd.underlying9 Tryd.underlying22 Tryd.underlying5 rfl (by decide)) ?_
    refine RunK.guarded rfl rfl rfl rfl (ok_call (same4_fn [60, 178, 95, 37, 250, 172, 213, 122, 144, 67, 79, 100, 208, 54, 47, 42, 45, 45, 10, 144, 207, 26, 90, 76, 93, 176, 45, 86, 236, 196, 197, 191, 52, 0, 114, 8, 213, 184, 135, 24, 88, 101] 0) (Args.cons rfl (Le.eq (by rw [okm]; rfl)) (Args.cons rfl (Le.refl _) (Args.cons rfl (Le.refl _) (Args.cons rfl (Le.refl _) Args.nil))))) ?_
    refine RunK.step rfl rfl (ok_pick rfl rfl) ?_; refine RunK.as (.bool true) (by rfl) ?_
    refine RunK.step rfl rfl (ok_move rfl) ?_
    refine RunK.guarded rfl rfl rfl rfl (ok_move rfl) ?_
    refine RunK.guarded rfl rfl rfl rfl (ok_move rfl) ?_
    refine RunK.guarded rfl rfl rfl rfl (ok_call (same4_fn [] 0) (Args.cons rfl (Le.eq rfl) (Args.cons rfl (Le.refl _) (Args.cons rfl byt_nil_le (Args.cons rfl (Le.refl _) Args.nil))))) ?_
    refine RunK.step rfl rfl (ok_pick rfl rfl) ?_; refine RunK.as (.bool true) (by rfl) ?_
    refine RunK.step rfl rfl (ok_move rfl) ?_
    refine RunK.guarded rfl rfl rfl rfl (ok_move rfl) ?_
    refine RunK.guarded rfl rfl rfl rfl (ok_move rfl) ?_
    refine RunK.guarded rfl rfl rfl rfl (ok_call (same4_fn [] 1) (Args.cons rfl bytes_nil_le (Args.cons rfl (Le.refl _) (Args.cons rfl byt_nil_le (Args.cons rfl (Le.refl _) Args.nil))))) ?_
    refine RunK.step rfl rfl (ok_pick rfl rfl) ?_; refine RunK.as (.bool true) (by rfl) ?_
    refine RunK.step rfl rfl (ok_move rfl) ?_
    refine RunK.guarded rfl rfl rfl rfl (ok_move rfl) ?_
    refine RunK.guarded rfl rfl rfl rfl (ok_move rfl) ?_
    refine RunK.guarded rfl rfl rfl rfl (ok_call (same4_fn [] 3) (Args.cons rfl bytes_nil_le (Args.cons rfl (Le.refl _) (Args.cons rfl byt_nil_le (Args.cons rfl (Le.refl _) Args.nil))))) ?_
    refine RunK.step rfl rfl (ok_pick rfl rfl) ?_; refine RunK.as (.bool true) (by rfl) ?_
    refine RunK.step rfl rfl (ok_assign rfl) ?_
    refine RunK.nil ?_
    refine A.sub (Sub.cons (t := 0) rfl (Sub.cons (t := 1000003) rfl (Sub.cons (t := 1000090) rfl (Sub.cons (t := 1900000) rfl (Sub.cons (t := 1900001) rfl Sub.nil))))) ?_
    refine A.ret ?_
    exact End.ret1 rfl rfl (by first | exact Le.refl _ | exact Le.old _ _)
theorem DerivesExtract_fnA (k m : List UInt8) (h : 100 < k.length) : FnM Tryd.prog 3 tabs [byt k, byt m] (.v (.bool true)) := by
  refine FnM.of Tryd.func3 rfl (by kernel_rfl) Tryd.ntmps3 (by simp) (by decide) (fun w => [(0, old w.heap.size (byt k)), (1, old w.heap.size (byt m)), (1900000, tab 0 (H8.list.map u32V)), (1900001, tab 1 (K64.map u32V))]) (fun w => (StartM.old rfl (StartM.old rfl (StartM.m (by simp [tabs]) (by decide) (StartM.m (by simp [tabs]) (by decide) StartM.nil))))) fun w₀ hM => ?_
  have htab := tabs_hi hM
  refine A.regs (by kernel_rfl) (by kernel_rfl) (.inl rfl) ?_
  refine RunTK.last ?_
  refine RunK.step rfl rfl (ok_assign rfl) ?_
  refine RunK.nil ?_
  refine A.sub (Sub.cons (t := 0) rfl (Sub.cons (t := 1) rfl (Sub.cons (t := 1900000) rfl (Sub.cons (t := 1900001) rfl Sub.nil)))) ?_
  refine A.seq ?_
  refine A.regs (by kernel_rfl) (by kernel_rfl) (.inl rfl) ?_
  refine RunTK.last ?_
  refine RunK.step rfl rfl (ok_move rfl) ?_
  refine RunK.step rfl rfl (ok_lenB Tryd.underlying22 rfl (Le.old _ _)) ?_
  refine RunK.step rfl rfl (ok_bin rfl rfl rfl) ?_; refine RunK.as (.bool true) (by simp; omega) ?_
  refine RunK.step rfl rfl (ok_move rfl) ?_
  refine RunK.skipped rfl rfl rfl rfl rfl ?_
  refine RunK.skipped rfl rfl rfl rfl rfl ?_
  refine RunK.skipped rfl rfl rfl rfl rfl ?_
  refine RunK.step rfl rfl (ok_pick rfl rfl) ?_
  refine RunK.nil ?_
  refine A.sub (Sub.cons (t := 0) rfl (Sub.cons (t := 1) rfl (Sub.cons (t := 12) rfl (Sub.cons (t := 1900000) rfl (Sub.cons (t := 1900001) rfl Sub.nil))))) ?_
  refine A.yes rfl ?_
  refine A.regs (by kernel_rfl) (by kernel_rfl) (.inl rfl) ?_
  refine RunTK.last ?_
  refine RunK.step rfl rfl (ok_callM lives4_fn (Sub.cons rfl (Sub.cons rfl Sub.nil)) tabs_v Args.nil) ?_
  refine RunK.step rfl rfl (ok_assign rfl) ?_
  refine RunK.nil ?_
  refine A.sub (Sub.cons (t := 4) rfl (Sub.cons (t := 1900000) rfl (Sub.cons (t := 1900001) rfl Sub.nil))) ?_
  refine A.ret ?_
  refine End.ret_then ?_
  exact End.ret1 rfl rfl (by first | exact Le.refl _ | exact Le.old _ _)
set_option maxHeartbeats 2000000 in
theorem DerivesExtract_fnB (k m : List UInt8) (hk : k.length ≤ 100) : FnM Tryd.prog 3 tabs [byt k, byt m] (.v (.bool true)) := by
  refine FnM.of Tryd.func3 rfl (by kernel_rfl) Tryd.ntmps3 (by simp) (by decide) (fun w => [(0, old w.heap.size (byt k)), (1, old w.heap.size (byt m)), (1900000, tab 0 (H8.list.map u32V)), (1900001, tab 1 (K64.map u32V))]) (fun w => (StartM.old rfl (StartM.old rfl (StartM.m (by simp [tabs]) (by decide) (StartM.m (by simp [tabs]) (by decide) StartM.nil))))) fun w₀ hM => ?_
  have htab := tabs_hi hM
  refine A.regs (by kernel_rfl) (by kernel_rfl) (.inl rfl) ?_
  refine RunTK.last ?_
  refine RunK.step rfl rfl (ok_assign rfl) ?_
  refine RunK.nil ?_
  refine A.sub (Sub.cons (t := 0) rfl (Sub.cons (t := 1) rfl (Sub.cons (t := 1900000) rfl (Sub.cons (t := 1900001) rfl Sub.nil)))) ?_
  refine A.seq ?_
  refine A.regs (by kernel_rfl) (by kernel_rfl) (.inl rfl) ?_
  refine RunTK.last ?_
  refine RunK.step rfl rfl (ok_move rfl) ?_
  refine RunK.step rfl rfl (ok_lenB Tryd.underlying22 rfl (Le.old _ _)) ?_
  refine RunK.step rfl rfl (ok_bin rfl rfl rfl) ?_; refine RunK.as (.bool false) (by simp; omega) ?_
  refine RunK.step rfl rfl (ok_move rfl) ?_
  refine RunK.guarded rfl rfl rfl rfl (ok_move rfl) ?_
  refine RunK.guarded rfl rfl rfl rfl (ok_lenB Tryd.underlying22 rfl (Le.old _ _)) ?_
  refine RunK.guarded rfl rfl rfl rfl (ok_bin rfl rfl rfl) ?_
  refine RunK.step rfl rfl (ok_pick rfl rfl) ?_
  refine RunK.nil ?_
  refine A.sub (Sub.cons (t := 0) rfl (Sub.cons (t := 1) rfl (Sub.cons (t := 12) rfl (Sub.cons (t := 1900000) rfl (Sub.cons (t := 1900001) rfl Sub.nil))))) ?_
  refine A.cond rfl (fun hc12 => ?_) (fun hc12 => ?_)
  · refine A.regs (by kernel_rfl) (by kernel_rfl) (.inl rfl) ?_
    refine RunTK.last ?_
    refine RunK.step rfl rfl (ok_callM lives4_fn (Sub.cons rfl (Sub.cons rfl Sub.nil)) tabs_v Args.nil) ?_
    refine RunK.step rfl rfl (ok_assign rfl) ?_
    refine RunK.nil ?_
    refine A.sub (Sub.cons (t := 4) rfl (Sub.cons (t := 1900000) rfl (Sub.cons (t := 1900001) rfl Sub.nil))) ?_
    refine A.ret ?_
    refine End.ret_then ?_
    exact End.ret1 rfl rfl (by first | exact Le.refl _ | exact Le.old _ _)
  · have hm : m.length ≤ 100 := by simp at hc12; omega
    refine A.skip ?_
    refine End.normal_then (End.code ?_)
    refine A.regs (by kernel_rfl) (by kernel_rfl) (.inr (by kernel_rfl)) ?_
    refine RunTK.last ?_
    refine RunK.step rfl rfl (ok_move rfl) ?_
    refine RunK.step rfl rfl (ok_move rfl) ?_
    refine RunK.step rfl rfl (ok_callM (Extract_fn k m (by omega) (by omega)) (Sub.cons rfl (Sub.cons rfl Sub.nil)) tabs_v (Args.cons rfl (Le.old _ _) (Args.cons rfl (Le.old _ _) Args.nil))) ?_
    refine RunK.step rfl rfl (ok_move rfl) ?_
    refine RunK.step rfl rfl (ok_move rfl) ?_
    refine RunK.step rfl rfl (ok_call (ref3Sum_fn k m (by omega) (by omega)) (Args.cons rfl (Le.old _ _) (Args.cons rfl (Le.old _ _) Args.nil))) ?_
    refine RunK.step rfl rfl (ok_eqlA Tryd.underlying25 Tryd.underlying5 info5 (by kernel_rfl) rfl rfl rfl (by rw [List.length_map, hmac_length]) (ints_u8 _)) ?_
    refine RunK.step rfl rfl (ok_move rfl) ?_
    refine RunK.guarded rfl rfl rfl rfl (ok_move rfl) ?_
    refine RunK.guarded rfl rfl rfl rfl (ok_callM (Extract_fn [] m (by simp) (by omega)) (Sub.cons rfl (Sub.cons rfl Sub.nil)) tabs_v (Args.cons rfl byt_nil_le (Args.cons rfl (Le.old _ _) Args.nil))) ?_
    refine RunK.guarded rfl rfl rfl rfl (ok_make 32 Tryd.underlying22 info5 (by decide) rfl rfl rfl rfl rfl (by decide)) ?_
    refine RunK.guarded rfl rfl rfl rfl (ok_move rfl) ?_
    refine RunK.guarded rfl rfl rfl rfl (ok_callM (Extract_fn (List.replicate 32 0) m (by simp) (by omega)) (Sub.cons rfl (Sub.cons rfl Sub.nil)) tabs_v (Args.cons rfl (fresh_zeros (by decide)) (Args.cons rfl (Le.old _ _) Args.nil))) ?_; refine RunK.as (aggV ((hmac [] m).map byteV)) (by rw [show ((List.replicate 32 0) : List UInt8) = [] ++ (List.replicate 32 0) from rfl, hmac_pad m (by simp)]) ?_
    refine RunK.guarded rfl rfl rfl rfl (ok_eqlA Tryd.underlying25 Tryd.underlying5 info5 (by kernel_rfl) rfl rfl rfl (by rw [List.length_map, hmac_length]) (ints_u8 _)) ?_
    refine RunK.step rfl rfl (ok_pick rfl rfl) ?_; refine RunK.as (.bool true) (by rfl) ?_
    refine RunK.step rfl rfl (ok_move rfl) ?_
    refine RunK.guarded rfl rfl rfl rfl (ok_callM lives4_fn (Sub.cons rfl (Sub.cons rfl Sub.nil)) tabs_v Args.nil) ?_
    refine RunK.step rfl rfl (ok_pick rfl rfl) ?_; refine RunK.as (.bool true) (by rfl) ?_
    refine RunK.step rfl rfl (ok_assign rfl) ?_
    refine RunK.nil ?_
    refine A.sub (Sub.cons (t := 4) rfl (Sub.cons (t := 1900000) rfl (Sub.cons (t := 1900001) rfl Sub.nil))) ?_
    refine A.ret ?_
    exact End.ret1 rfl rfl (by first | exact Le.refl _ | exact Le.old _ _)
theorem DerivesExtract_fn (k m : List UInt8) : FnM Tryd.prog 3 tabs [byt k, byt m] (.v (.bool true)) := by
  rcases Nat.lt_or_ge 100 k.length with h | h
  · exact DerivesExtract_fnA k m h
  · exact DerivesExtract_fnB k m h
theorem DerivesExpand_fnA (k m : List UInt8) (n : Int) (h : 100 < k.length) : FnM Tryd.prog 4 tabs [byt k, byt m, .v (.int .i64 n)] (.v (.bool true)) := by
  refine FnM.of Tryd.func4 rfl (by kernel_rfl) Tryd.ntmps4 (by simp) (by decide) (fun w => [(0, old w.heap.size (byt k)), (1, old w.heap.size (byt m)), (2, .v (.int .i64 n)), (1900000, tab 0 (H8.list.map u32V)), (1900001, tab 1 (K64.map u32V))]) (fun w => (StartM.old rfl (StartM.old rfl (StartM.v rfl (StartM.m (by simp [tabs]) (by decide) (StartM.m (by simp [tabs]) (by decide) StartM.nil)))))) fun w₀ hM => ?_
  have htab := tabs_hi hM
  refine A.regs (by kernel_rfl) (by kernel_rfl) (.inl rfl) ?_
  refine RunTK.last ?_
  refine RunK.step rfl rfl (ok_assign rfl) ?_
  refine RunK.nil ?_
  refine A.sub (Sub.cons (t := 0) rfl (Sub.cons (t := 1) rfl (Sub.cons (t := 2) rfl (Sub.cons (t := 1900000) rfl (Sub.cons (t := 1900001) rfl Sub.nil))))) ?_
  refine A.seq ?_
  refine A.regs (by kernel_rfl) (by kernel_rfl) (.inl rfl) ?_
  refine RunTK.last ?_
  refine RunK.step rfl rfl (ok_move rfl) ?_
  refine RunK.step rfl rfl (ok_lenB Tryd.underlying22 rfl (Le.old _ _)) ?_
  refine RunK.step rfl rfl (ok_bin rfl rfl rfl) ?_; refine RunK.as (.bool true) (by simp; omega) ?_
  refine RunK.step rfl rfl (ok_move rfl) ?_
  refine RunK.skipped rfl rfl rfl rfl rfl ?_
  refine RunK.skipped rfl rfl rfl rfl rfl ?_
  refine RunK.skipped rfl rfl rfl rfl rfl ?_
  refine RunK.step rfl rfl (ok_pick rfl rfl) ?_
  refine RunK.step rfl rfl (ok_move rfl) ?_
  refine RunK.skipped rfl rfl rfl rfl rfl ?_
  refine RunK.skipped rfl rfl rfl rfl rfl ?_
  refine RunK.skipped rfl rfl rfl rfl rfl ?_
  refine RunK.skippedU rfl rfl rfl rfl ?_
  refine RunK.skippedU rfl rfl rfl rfl ?_
  refine RunK.skipped rfl rfl rfl rfl rfl ?_
  refine RunK.step rfl rfl (ok_pick rfl rfl) ?_
  refine RunK.nil ?_
  refine A.sub (Sub.cons (t := 0) rfl (Sub.cons (t := 1) rfl (Sub.cons (t := 2) rfl (Sub.cons (t := 24) rfl (Sub.cons (t := 1900000) rfl (Sub.cons (t := 1900001) rfl Sub.nil)))))) ?_
  refine A.yes rfl ?_
  refine A.regs (by kernel_rfl) (by kernel_rfl) (.inl rfl) ?_
  refine RunTK.last ?_
  refine RunK.step rfl rfl (ok_callM lives4_fn (Sub.cons rfl (Sub.cons rfl Sub.nil)) tabs_v Args.nil) ?_
  refine RunK.step rfl rfl (ok_assign rfl) ?_
  refine RunK.nil ?_
  refine A.sub (Sub.cons (t := 6) rfl (Sub.cons (t := 1900000) rfl (Sub.cons (t := 1900001) rfl Sub.nil))) ?_
  refine A.ret ?_
  refine End.ret_then ?_
  exact End.ret1 rfl rfl (by first | exact Le.refl _ | exact Le.old _ _)
theorem DerivesExpand_fnB (k m : List UInt8) (n : Int) (hk : k.length ≤ 100) (h : 100 < m.length) : FnM Tryd.prog 4 tabs [byt k, byt m, .v (.int .i64 n)] (.v (.bool true)) := by
  refine FnM.of Tryd.func4 rfl (by kernel_rfl) Tryd.ntmps4 (by simp) (by decide) (fun w => [(0, old w.heap.size (byt k)), (1, old w.heap.size (byt m)), (2, .v (.int .i64 n)), (1900000, tab 0 (H8.list.map u32V)), (1900001, tab 1 (K64.map u32V))]) (fun w => (StartM.old rfl (StartM.old rfl (StartM.v rfl (StartM.m (by simp [tabs]) (by decide) (StartM.m (by simp [tabs]) (by decide) StartM.nil)))))) fun w₀ hM => ?_
  have htab := tabs_hi hM
  refine A.regs (by kernel_rfl) (by kernel_rfl) (.inl rfl) ?_
  refine RunTK.last ?_
  refine RunK.step rfl rfl (ok_assign rfl) ?_
  refine RunK.nil ?_
  refine A.sub (Sub.cons (t := 0) rfl (Sub.cons (t := 1) rfl (Sub.cons (t := 2) rfl (Sub.cons (t := 1900000) rfl (Sub.cons (t := 1900001) rfl Sub.nil))))) ?_
  refine A.seq ?_
  refine A.regs (by kernel_rfl) (by kernel_rfl) (.inl rfl) ?_
  refine RunTK.last ?_
  refine RunK.step rfl rfl (ok_move rfl) ?_
  refine RunK.step rfl rfl (ok_lenB Tryd.underlying22 rfl (Le.old _ _)) ?_
  refine RunK.step rfl rfl (ok_bin rfl rfl rfl) ?_; refine RunK.as (.bool false) (by simp; omega) ?_
  refine RunK.step rfl rfl (ok_move rfl) ?_
  refine RunK.guarded rfl rfl rfl rfl (ok_move rfl) ?_
  refine RunK.guarded rfl rfl rfl rfl (ok_lenB Tryd.underlying22 rfl (Le.old _ _)) ?_
  refine RunK.guarded rfl rfl rfl rfl (ok_bin rfl rfl rfl) ?_; refine RunK.as (.bool true) (by simp; omega) ?_
  refine RunK.step rfl rfl (ok_pick rfl rfl) ?_
  refine RunK.step rfl rfl (ok_move rfl) ?_
  refine RunK.skipped rfl rfl rfl rfl rfl ?_
  refine RunK.skipped rfl rfl rfl rfl rfl ?_
  refine RunK.skipped rfl rfl rfl rfl rfl ?_
  refine RunK.skippedU rfl rfl rfl rfl ?_
  refine RunK.skippedU rfl rfl rfl rfl ?_
  refine RunK.skipped rfl rfl rfl rfl rfl ?_
  refine RunK.step rfl rfl (ok_pick rfl rfl) ?_
  refine RunK.nil ?_
  refine A.sub (Sub.cons (t := 0) rfl (Sub.cons (t := 1) rfl (Sub.cons (t := 2) rfl (Sub.cons (t := 24) rfl (Sub.cons (t := 1900000) rfl (Sub.cons (t := 1900001) rfl Sub.nil)))))) ?_
  refine A.yes rfl ?_
  refine A.regs (by kernel_rfl) (by kernel_rfl) (.inl rfl) ?_
  refine RunTK.last ?_
  refine RunK.step rfl rfl (ok_callM lives4_fn (Sub.cons rfl (Sub.cons rfl Sub.nil)) tabs_v Args.nil) ?_
  refine RunK.step rfl rfl (ok_assign rfl) ?_
  refine RunK.nil ?_
  refine A.sub (Sub.cons (t := 6) rfl (Sub.cons (t := 1900000) rfl (Sub.cons (t := 1900001) rfl Sub.nil))) ?_
  refine A.ret ?_
  refine End.ret_then ?_
  exact End.ret1 rfl rfl (by first | exact Le.refl _ | exact Le.old _ _)
theorem DerivesExpand_fnC (k m : List UInt8) (n : Int) (hk : k.length ≤ 100) (hm : m.length ≤ 100) (h : 300 < n) (h' : n ≤ 8160) : FnM Tryd.prog 4 tabs [byt k, byt m, .v (.int .i64 n)] (.v (.bool true)) := by
  refine FnM.of Tryd.func4 rfl (by kernel_rfl) Tryd.ntmps4 (by simp) (by decide) (fun w => [(0, old w.heap.size (byt k)), (1, old w.heap.size (byt m)), (2, .v (.int .i64 n)), (1900000, tab 0 (H8.list.map u32V)), (1900001, tab 1 (K64.map u32V))]) (fun w => (StartM.old rfl (StartM.old rfl (StartM.v rfl (StartM.m (by simp [tabs]) (by decide) (StartM.m (by simp [tabs]) (by decide) StartM.nil)))))) fun w₀ hM => ?_
  have htab := tabs_hi hM
  refine A.regs (by kernel_rfl) (by kernel_rfl) (.inl rfl) ?_
  refine RunTK.last ?_
  refine RunK.step rfl rfl (ok_assign rfl) ?_
  refine RunK.nil ?_
  refine A.sub (Sub.cons (t := 0) rfl (Sub.cons (t := 1) rfl (Sub.cons (t := 2) rfl (Sub.cons (t := 1900000) rfl (Sub.cons (t := 1900001) rfl Sub.nil))))) ?_
  refine A.seq ?_
  refine A.regs (by kernel_rfl) (by kernel_rfl) (.inl rfl) ?_
  refine RunTK.last ?_
  refine RunK.step rfl rfl (ok_move rfl) ?_
  refine RunK.step rfl rfl (ok_lenB Tryd.underlying22 rfl (Le.old _ _)) ?_
  refine RunK.step rfl rfl (ok_bin rfl rfl rfl) ?_; refine RunK.as (.bool false) (by simp; omega) ?_
  refine RunK.step rfl rfl (ok_move rfl) ?_
  refine RunK.guarded rfl rfl rfl rfl (ok_move rfl) ?_
  refine RunK.guarded rfl rfl rfl rfl (ok_lenB Tryd.underlying22 rfl (Le.old _ _)) ?_
  refine RunK.guarded rfl rfl rfl rfl (ok_bin rfl rfl rfl) ?_; refine RunK.as (.bool false) (by simp; omega) ?_
  refine RunK.step rfl rfl (ok_pick rfl rfl) ?_
  refine RunK.step rfl rfl (ok_move rfl) ?_
  refine RunK.guarded rfl rfl rfl rfl (ok_move rfl) ?_
  refine RunK.guarded rfl rfl rfl rfl (ok_bin rfl rfl rfl) ?_; refine RunK.as (.bool true) (by simp [h]) ?_
  refine RunK.guarded rfl rfl rfl rfl (ok_move rfl) ?_
  refine RunK.guarded rfl rfl rfl rfl (ok_move rfl) ?_
  refine RunK.guarded rfl rfl rfl rfl (ok_bin rfl rfl rfl) ?_; refine RunK.as (.bool true) (by simp [h']) ?_
  refine RunK.guarded rfl rfl rfl rfl (ok_pick rfl rfl) ?_
  refine RunK.step rfl rfl (ok_pick rfl rfl) ?_
  refine RunK.nil ?_
  refine A.sub (Sub.cons (t := 0) rfl (Sub.cons (t := 1) rfl (Sub.cons (t := 2) rfl (Sub.cons (t := 24) rfl (Sub.cons (t := 1900000) rfl (Sub.cons (t := 1900001) rfl Sub.nil)))))) ?_
  refine A.yes rfl ?_
  refine A.regs (by kernel_rfl) (by kernel_rfl) (.inl rfl) ?_
  refine RunTK.last ?_
  refine RunK.step rfl rfl (ok_callM lives4_fn (Sub.cons rfl (Sub.cons rfl Sub.nil)) tabs_v Args.nil) ?_
  refine RunK.step rfl rfl (ok_assign rfl) ?_
  refine RunK.nil ?_
  refine A.sub (Sub.cons (t := 6) rfl (Sub.cons (t := 1900000) rfl (Sub.cons (t := 1900001) rfl Sub.nil))) ?_
  refine A.ret ?_
  refine End.ret_then ?_
  exact End.ret1 rfl rfl (by first | exact Le.refl _ | exact Le.old _ _)
set_option maxHeartbeats 1000000 in
theorem DerivesExpand_fnD (k m : List UInt8) (n : Int) (hk : k.length ≤ 100) (hm : m.length ≤ 100) (h : n < 0) : FnM Tryd.prog 4 tabs [byt k, byt m, .v (.int .i64 n)] (.v (.bool true)) := by
  refine FnM.of Tryd.func4 rfl (by kernel_rfl) Tryd.ntmps4 (by simp) (by decide) (fun w => [(0, old w.heap.size (byt k)), (1, old w.heap.size (byt m)), (2, .v (.int .i64 n)), (1900000, tab 0 (H8.list.map u32V)), (1900001, tab 1 (K64.map u32V))]) (fun w => (StartM.old rfl (StartM.old rfl (StartM.v rfl (StartM.m (by simp [tabs]) (by decide) (StartM.m (by simp [tabs]) (by decide) StartM.nil)))))) fun w₀ hM => ?_
  have htab := tabs_hi hM
  refine A.regs (by kernel_rfl) (by kernel_rfl) (.inl rfl) ?_
  refine RunTK.last ?_
  refine RunK.step rfl rfl (ok_assign rfl) ?_
  refine RunK.nil ?_
  refine A.sub (Sub.cons (t := 0) rfl (Sub.cons (t := 1) rfl (Sub.cons (t := 2) rfl (Sub.cons (t := 1900000) rfl (Sub.cons (t := 1900001) rfl Sub.nil))))) ?_
  refine A.seq ?_
  refine A.regs (by kernel_rfl) (by kernel_rfl) (.inl rfl) ?_
  refine RunTK.last ?_
  refine RunK.step rfl rfl (ok_move rfl) ?_
  refine RunK.step rfl rfl (ok_lenB Tryd.underlying22 rfl (Le.old _ _)) ?_
  refine RunK.step rfl rfl (ok_bin rfl rfl rfl) ?_; refine RunK.as (.bool false) (by simp; omega) ?_
  refine RunK.step rfl rfl (ok_move rfl) ?_
  refine RunK.guarded rfl rfl rfl rfl (ok_move rfl) ?_
  refine RunK.guarded rfl rfl rfl rfl (ok_lenB Tryd.underlying22 rfl (Le.old _ _)) ?_
  refine RunK.guarded rfl rfl rfl rfl (ok_bin rfl rfl rfl) ?_; refine RunK.as (.bool false) (by simp; omega) ?_
  refine RunK.step rfl rfl (ok_pick rfl rfl) ?_
  refine RunK.step rfl rfl (ok_move rfl) ?_
  refine RunK.guarded rfl rfl rfl rfl (ok_move rfl) ?_
  refine RunK.guarded rfl rfl rfl rfl (ok_bin rfl rfl rfl) ?_; refine RunK.as (.bool false) (by simp; omega) ?_
  refine RunK.guarded rfl rfl rfl rfl (ok_move rfl) ?_
  refine RunK.skipped rfl rfl rfl rfl rfl ?_
  refine RunK.skipped rfl rfl rfl rfl rfl ?_
  refine RunK.guarded rfl rfl rfl rfl (ok_pick rfl rfl) ?_
  refine RunK.step rfl rfl (ok_pick rfl rfl) ?_
  refine RunK.nil ?_
  refine A.sub (Sub.cons (t := 0) rfl (Sub.cons (t := 1) rfl (Sub.cons (t := 2) rfl (Sub.cons (t := 24) rfl (Sub.cons (t := 1900000) rfl (Sub.cons (t := 1900001) rfl Sub.nil)))))) ?_
  refine A.no rfl ?_
  refine A.skip ?_
  refine End.normal_then (End.code ?_)
  refine A.regs (by kernel_rfl) (by kernel_rfl) (.inl rfl) ?_
  refine RunTK.last ?_
  refine RunK.step rfl rfl (ok_move rfl) ?_
  refine RunK.step rfl rfl (ok_move rfl) ?_
  refine RunK.step rfl rfl (ok_move rfl) ?_
  refine RunK.step rfl rfl (ok_callM (Expand_neg k m n h) (Sub.cons rfl (Sub.cons rfl Sub.nil)) tabs_v (Args.cons rfl (Le.old _ _) (Args.cons rfl (Le.old _ _) (Args.cons rfl (Le.refl _) Args.nil)))) ?_
  refine RunK.step rfl rfl (ok_move rfl) ?_
  refine RunK.step rfl rfl (ok_extract rfl rfl) ?_
  refine RunK.step rfl rfl (ok_extract rfl rfl) ?_
  refine RunK.step rfl rfl (ok_assign rfl) ?_
  refine RunK.step rfl rfl (ok_assign rfl) ?_
  refine RunK.nil ?_
  refine A.sub (Sub.cons (t := 0) rfl (Sub.cons (t := 1) rfl (Sub.cons (t := 2) rfl (Sub.cons (t := 7) rfl (Sub.cons (t := 8) rfl (Sub.cons (t := 1900000) rfl (Sub.cons (t := 1900001) rfl Sub.nil))))))) ?_
  refine A.seq ?_
  refine A.block ?_
  refine A.regs (by kernel_rfl) (by kernel_rfl) (.inl rfl) ?_
  refine RunTK.last ?_
  refine RunK.step rfl rfl (ok_move rfl) ?_
  refine RunK.step rfl rfl (ok_bin rfl rfl rfl) ?_; refine RunK.as (.bool true) (by simp [h]) ?_
  refine RunK.step rfl rfl (ok_assign rfl) ?_
  refine RunK.nil ?_
  refine A.sub (Sub.cons (t := 0) rfl (Sub.cons (t := 1) rfl (Sub.cons (t := 2) rfl (Sub.cons (t := 7) rfl (Sub.cons (t := 8) rfl (Sub.cons (t := 33) rfl (Sub.cons (t := 1900000) rfl (Sub.cons (t := 1900001) rfl Sub.nil)))))))) ?_
  refine A.yes rfl ?_
  refine A.regs (by kernel_rfl) (by kernel_rfl) (.inl rfl) ?_
  refine RunTK.last ?_
  refine RunK.step rfl rfl (ok_move rfl) ?_
  refine RunK.step rfl rfl (ok_move rfl) ?_
  refine RunK.step rfl rfl (ok_call (same4_fn [] 1) (Args.cons rfl bytes_nil_le (Args.cons rfl (Le.refl _) (Args.cons rfl byt_nil_le (Args.cons rfl (Le.refl _) Args.nil))))) ?_
  refine RunK.step rfl rfl (ok_move rfl) ?_
  refine RunK.guarded rfl rfl rfl rfl (ok_callM lives4_fn (Sub.cons rfl (Sub.cons rfl Sub.nil)) tabs_v Args.nil) ?_
  refine RunK.step rfl rfl (ok_pick rfl rfl) ?_; refine RunK.as (.bool true) (by rfl) ?_
  refine RunK.step rfl rfl (ok_assign rfl) ?_
  refine RunK.nil ?_
  refine A.sub (Sub.cons (t := 6) rfl (Sub.cons (t := 1900000) rfl (Sub.cons (t := 1900001) rfl Sub.nil))) ?_
  refine A.ret ?_
  refine End.ret_block ?_
  refine End.ret_then ?_
  exact End.ret1 rfl rfl (by first | exact Le.refl _ | exact Le.old _ _)
set_option maxHeartbeats 1000000 in
theorem DerivesExpand_fnE (k m : List UInt8) (n : Int) (hk : k.length ≤ 100) (hm : m.length ≤ 100) (h : 8160 < n) : FnM Tryd.prog 4 tabs [byt k, byt m, .v (.int .i64 n)] (.v (.bool true)) := by
  refine FnM.of Tryd.func4 rfl (by kernel_rfl) Tryd.ntmps4 (by simp) (by decide) (fun w => [(0, old w.heap.size (byt k)), (1, old w.heap.size (byt m)), (2, .v (.int .i64 n)), (1900000, tab 0 (H8.list.map u32V)), (1900001, tab 1 (K64.map u32V))]) (fun w => (StartM.old rfl (StartM.old rfl (StartM.v rfl (StartM.m (by simp [tabs]) (by decide) (StartM.m (by simp [tabs]) (by decide) StartM.nil)))))) fun w₀ hM => ?_
  have htab := tabs_hi hM
  refine A.regs (by kernel_rfl) (by kernel_rfl) (.inl rfl) ?_
  refine RunTK.last ?_
  refine RunK.step rfl rfl (ok_assign rfl) ?_
  refine RunK.nil ?_
  refine A.sub (Sub.cons (t := 0) rfl (Sub.cons (t := 1) rfl (Sub.cons (t := 2) rfl (Sub.cons (t := 1900000) rfl (Sub.cons (t := 1900001) rfl Sub.nil))))) ?_
  refine A.seq ?_
  refine A.regs (by kernel_rfl) (by kernel_rfl) (.inl rfl) ?_
  refine RunTK.last ?_
  refine RunK.step rfl rfl (ok_move rfl) ?_
  refine RunK.step rfl rfl (ok_lenB Tryd.underlying22 rfl (Le.old _ _)) ?_
  refine RunK.step rfl rfl (ok_bin rfl rfl rfl) ?_; refine RunK.as (.bool false) (by simp; omega) ?_
  refine RunK.step rfl rfl (ok_move rfl) ?_
  refine RunK.guarded rfl rfl rfl rfl (ok_move rfl) ?_
  refine RunK.guarded rfl rfl rfl rfl (ok_lenB Tryd.underlying22 rfl (Le.old _ _)) ?_
  refine RunK.guarded rfl rfl rfl rfl (ok_bin rfl rfl rfl) ?_; refine RunK.as (.bool false) (by simp; omega) ?_
  refine RunK.step rfl rfl (ok_pick rfl rfl) ?_
  refine RunK.step rfl rfl (ok_move rfl) ?_
  refine RunK.guarded rfl rfl rfl rfl (ok_move rfl) ?_
  refine RunK.guarded rfl rfl rfl rfl (ok_bin rfl rfl rfl) ?_; refine RunK.as (.bool true) (by simp; omega) ?_
  refine RunK.guarded rfl rfl rfl rfl (ok_move rfl) ?_
  refine RunK.guarded rfl rfl rfl rfl (ok_move rfl) ?_
  refine RunK.guarded rfl rfl rfl rfl (ok_bin rfl rfl rfl) ?_; refine RunK.as (.bool false) (by simp; omega) ?_
  refine RunK.guarded rfl rfl rfl rfl (ok_pick rfl rfl) ?_
  refine RunK.step rfl rfl (ok_pick rfl rfl) ?_
  refine RunK.nil ?_
  refine A.sub (Sub.cons (t := 0) rfl (Sub.cons (t := 1) rfl (Sub.cons (t := 2) rfl (Sub.cons (t := 24) rfl (Sub.cons (t := 1900000) rfl (Sub.cons (t := 1900001) rfl Sub.nil)))))) ?_
  refine A.no rfl ?_
  refine A.skip ?_
  refine End.normal_then (End.code ?_)
  refine A.regs (by kernel_rfl) (by kernel_rfl) (.inl rfl) ?_
  refine RunTK.last ?_
  refine RunK.step rfl rfl (ok_move rfl) ?_
  refine RunK.step rfl rfl (ok_move rfl) ?_
  refine RunK.step rfl rfl (ok_move rfl) ?_
  refine RunK.step rfl rfl (ok_callM (Expand_big k m n h) (Sub.cons rfl (Sub.cons rfl Sub.nil)) tabs_v (Args.cons rfl (Le.old _ _) (Args.cons rfl (Le.old _ _) (Args.cons rfl (Le.refl _) Args.nil)))) ?_
  refine RunK.step rfl rfl (ok_move rfl) ?_
  refine RunK.step rfl rfl (ok_extract rfl rfl) ?_
  refine RunK.step rfl rfl (ok_extract rfl rfl) ?_
  refine RunK.step rfl rfl (ok_assign rfl) ?_
  refine RunK.step rfl rfl (ok_assign rfl) ?_
  refine RunK.nil ?_
  refine A.sub (Sub.cons (t := 0) rfl (Sub.cons (t := 1) rfl (Sub.cons (t := 2) rfl (Sub.cons (t := 7) rfl (Sub.cons (t := 8) rfl (Sub.cons (t := 1900000) rfl (Sub.cons (t := 1900001) rfl Sub.nil))))))) ?_
  refine A.seq ?_
  refine A.block ?_
  refine A.regs (by kernel_rfl) (by kernel_rfl) (.inl rfl) ?_
  refine RunTK.last ?_
  refine RunK.step rfl rfl (ok_move rfl) ?_
  refine RunK.step rfl rfl (ok_bin rfl rfl rfl) ?_; refine RunK.as (.bool false) (by simp; omega) ?_
  refine RunK.step rfl rfl (ok_assign rfl) ?_
  refine RunK.nil ?_
  refine A.sub (Sub.cons (t := 0) rfl (Sub.cons (t := 1) rfl (Sub.cons (t := 2) rfl (Sub.cons (t := 7) rfl (Sub.cons (t := 8) rfl (Sub.cons (t := 33) rfl (Sub.cons (t := 1900000) rfl (Sub.cons (t := 1900001) rfl Sub.nil)))))))) ?_
  refine A.no rfl ?_
  refine A.regs (by kernel_rfl) (by kernel_rfl) (.inl rfl) ?_
  refine RunTK.last ?_
  refine RunK.step rfl rfl (ok_move rfl) ?_
  refine RunK.step rfl rfl (ok_bin rfl rfl rfl) ?_; refine RunK.as (.bool true) (by simp [h]) ?_
  refine RunK.step rfl rfl (ok_assign rfl) ?_
  refine RunK.nil ?_
  refine A.sub (Sub.cons (t := 0) rfl (Sub.cons (t := 1) rfl (Sub.cons (t := 2) rfl (Sub.cons (t := 7) rfl (Sub.cons (t := 8) rfl (Sub.cons (t := 42) rfl (Sub.cons (t := 1900000) rfl (Sub.cons (t := 1900001) rfl Sub.nil)))))))) ?_
  refine A.yes rfl ?_
  refine A.regs (by kernel_rfl) (by kernel_rfl) (.inl rfl) ?_
  refine RunTK.last ?_
  refine RunK.step rfl rfl (ok_move rfl) ?_
  refine RunK.step rfl rfl (ok_move rfl) ?_
  refine RunK.step rfl rfl (ok_call (same4_fn [] 3) (Args.cons rfl bytes_nil_le (Args.cons rfl (Le.refl _) (Args.cons rfl byt_nil_le (Args.cons rfl (Le.refl _) Args.nil))))) ?_
  refine RunK.step rfl rfl (ok_move rfl) ?_
  refine RunK.guarded rfl rfl rfl rfl (ok_callM lives4_fn (Sub.cons rfl (Sub.cons rfl Sub.nil)) tabs_v Args.nil) ?_
  refine RunK.step rfl rfl (ok_pick rfl rfl) ?_; refine RunK.as (.bool true) (by rfl) ?_
  refine RunK.step rfl rfl (ok_assign rfl) ?_
  refine RunK.nil ?_
  refine A.sub (Sub.cons (t := 6) rfl (Sub.cons (t := 1900000) rfl (Sub.cons (t := 1900001) rfl Sub.nil))) ?_
  refine A.ret ?_
  refine End.ret_block ?_
  refine End.ret_then ?_
  exact End.ret1 rfl rfl (by first | exact Le.refl _ | exact Le.old _ _)
set_option maxHeartbeats 1000000 in
theorem DerivesExpand_fnF (k m : List UInt8) (n : Nat) (hk : k.length ≤ 100) (hm : m.length ≤ 100) (h : n ≤ 300) : FnM Tryd.prog 4 tabs [byt k, byt m, .v (.int .i64 ((n : Nat) : Int))] (.v (.bool true)) := by
  refine FnM.of Tryd.func4 rfl (by kernel_rfl) Tryd.ntmps4 (by simp) (by decide) (fun w => [(0, old w.heap.size (byt k)), (1, old w.heap.size (byt m)), (2, .v (.int .i64 ((n : Nat) : Int))), (1900000, tab 0 (H8.list.map u32V)), (1900001, tab 1 (K64.map u32V))]) (fun w => (StartM.old rfl (StartM.old rfl (StartM.v rfl (StartM.m (by simp [tabs]) (by decide) (StartM.m (by simp [tabs]) (by decide) StartM.nil)))))) fun w₀ hM => ?_
  have htab := tabs_hi hM
  refine A.regs (by kernel_rfl) (by kernel_rfl) (.inl rfl) ?_
  refine RunTK.last ?_
  refine RunK.step rfl rfl (ok_assign rfl) ?_
  refine RunK.nil ?_
  refine A.sub (Sub.cons (t := 0) rfl (Sub.cons (t := 1) rfl (Sub.cons (t := 2) rfl (Sub.cons (t := 1900000) rfl (Sub.cons (t := 1900001) rfl Sub.nil))))) ?_
  refine A.seq ?_
  refine A.regs (by kernel_rfl) (by kernel_rfl) (.inl rfl) ?_
  refine RunTK.last ?_
  refine RunK.step rfl rfl (ok_move rfl) ?_
  refine RunK.step rfl rfl (ok_lenB Tryd.underlying22 rfl (Le.old _ _)) ?_
  refine RunK.step rfl rfl (ok_bin rfl rfl rfl) ?_; refine RunK.as (.bool false) (by simp; omega) ?_
  refine RunK.step rfl rfl (ok_move rfl) ?_
  refine RunK.guarded rfl rfl rfl rfl (ok_move rfl) ?_
  refine RunK.guarded rfl rfl rfl rfl (ok_lenB Tryd.underlying22 rfl (Le.old _ _)) ?_
  refine RunK.guarded rfl rfl rfl rfl (ok_bin rfl rfl rfl) ?_; refine RunK.as (.bool false) (by simp; omega) ?_
  refine RunK.step rfl rfl (ok_pick rfl rfl) ?_
  refine RunK.step rfl rfl (ok_move rfl) ?_
  refine RunK.guarded rfl rfl rfl rfl (ok_move rfl) ?_
  refine RunK.guarded rfl rfl rfl rfl (ok_bin rfl rfl rfl) ?_; refine RunK.as (.bool false) (by simp; omega) ?_
  refine RunK.guarded rfl rfl rfl rfl (ok_move rfl) ?_
  refine RunK.skipped rfl rfl rfl rfl rfl ?_
  refine RunK.skipped rfl rfl rfl rfl rfl ?_
  refine RunK.guarded rfl rfl rfl rfl (ok_pick rfl rfl) ?_
  refine RunK.step rfl rfl (ok_pick rfl rfl) ?_
  refine RunK.nil ?_
  refine A.sub (Sub.cons (t := 0) rfl (Sub.cons (t := 1) rfl (Sub.cons (t := 2) rfl (Sub.cons (t := 24) rfl (Sub.cons (t := 1900000) rfl (Sub.cons (t := 1900001) rfl Sub.nil)))))) ?_
  refine A.no rfl ?_
  refine A.skip ?_
  refine End.normal_then (End.code ?_)
  refine A.regs (by kernel_rfl) (by kernel_rfl) (.inl rfl) ?_
  refine RunTK.last ?_
  refine RunK.step rfl rfl (ok_move rfl) ?_
  refine RunK.step rfl rfl (ok_move rfl) ?_
  refine RunK.step rfl rfl (ok_move rfl) ?_
  refine RunK.step rfl rfl (ok_callM (Expand_fn k m n (by omega) (by omega) (by omega)) (Sub.cons rfl (Sub.cons rfl Sub.nil)) tabs_v (Args.cons rfl (Le.old _ _) (Args.cons rfl (Le.old _ _) (Args.cons rfl (Le.refl _) Args.nil)))) ?_
  refine RunK.step rfl rfl (ok_move rfl) ?_
  refine RunK.step rfl rfl (ok_extract rfl rfl) ?_
  refine RunK.step rfl rfl (ok_extract rfl rfl) ?_
  refine RunK.step rfl rfl (ok_assign rfl) ?_
  refine RunK.step rfl rfl (ok_assign rfl) ?_
  refine RunK.nil ?_
  refine A.sub (Sub.cons (t := 0) rfl (Sub.cons (t := 1) rfl (Sub.cons (t := 2) rfl (Sub.cons (t := 7) rfl (Sub.cons (t := 8) rfl (Sub.cons (t := 1900000) rfl (Sub.cons (t := 1900001) rfl Sub.nil))))))) ?_
  refine A.seq ?_
  refine A.block ?_
  refine A.regs (by kernel_rfl) (by kernel_rfl) (.inl rfl) ?_
  refine RunTK.last ?_
  refine RunK.step rfl rfl (ok_move rfl) ?_
  refine RunK.step rfl rfl (ok_bin rfl rfl rfl) ?_; refine RunK.as (.bool false) (by simp) ?_
  refine RunK.step rfl rfl (ok_assign rfl) ?_
  refine RunK.nil ?_
  refine A.sub (Sub.cons (t := 0) rfl (Sub.cons (t := 1) rfl (Sub.cons (t := 2) rfl (Sub.cons (t := 7) rfl (Sub.cons (t := 8) rfl (Sub.cons (t := 33) rfl (Sub.cons (t := 1900000) rfl (Sub.cons (t := 1900001) rfl Sub.nil)))))))) ?_
  refine A.no rfl ?_
  refine A.regs (by kernel_rfl) (by kernel_rfl) (.inl rfl) ?_
  refine RunTK.last ?_
  refine RunK.step rfl rfl (ok_move rfl) ?_
  refine RunK.step rfl rfl (ok_bin rfl rfl rfl) ?_; refine RunK.as (.bool false) (by simp; omega) ?_
  refine RunK.step rfl rfl (ok_assign rfl) ?_
  refine RunK.nil ?_
  refine A.sub (Sub.cons (t := 0) rfl (Sub.cons (t := 1) rfl (Sub.cons (t := 2) rfl (Sub.cons (t := 7) rfl (Sub.cons (t := 8) rfl (Sub.cons (t := 42) rfl (Sub.cons (t := 1900000) rfl (Sub.cons (t := 1900001) rfl Sub.nil)))))))) ?_
  refine A.no rfl ?_
  refine A.skip ?_
  refine End.normal_block ?_
  refine End.normal_then (End.code ?_)
  refine A.regs (by kernel_rfl) (by kernel_rfl) (.inl rfl) ?_
  refine RunTK.last ?_
  refine RunK.step rfl rfl (ok_move rfl) ?_
  refine RunK.step rfl rfl (ok_move rfl) ?_
  refine RunK.step rfl rfl (ok_move rfl) ?_
  refine RunK.step rfl rfl (ok_move rfl) ?_
  refine RunK.step rfl rfl (ok_move rfl) ?_
  refine RunK.step rfl rfl (ok_callB (ref4Expand_fn k m n (by omega) (by omega) (by omega)) (fun _ _ h => own_mono h) (Args.cons rfl (Le.old _ _) (Args.cons rfl (Le.old _ _) (Args.cons rfl (Le.refl _) Args.nil)))) ?_
  refine RunK.step rfl rfl (ok_call (same4_fn (hkdf k m n) 0) (Args.cons rfl (Le.eq (by rw [hkdf_length])) (Args.cons rfl (Le.refl _) (Args.cons rfl (own_cat rfl (hkdf_length _).symm) (Args.cons rfl (Le.refl _) Args.nil))))) ?_
  refine RunK.step rfl rfl (ok_move rfl) ?_
  refine RunK.guarded rfl rfl rfl rfl (ok_callM lives4_fn (Sub.cons rfl (Sub.cons rfl Sub.nil)) tabs_v Args.nil) ?_
  refine RunK.step rfl rfl (ok_pick rfl rfl) ?_; refine RunK.as (.bool true) (by rfl) ?_
  refine RunK.step rfl rfl (ok_assign rfl) ?_
  refine RunK.nil ?_
  refine A.sub (Sub.cons (t := 6) rfl (Sub.cons (t := 1900000) rfl (Sub.cons (t := 1900001) rfl Sub.nil))) ?_
  refine A.ret ?_
  exact End.ret1 rfl rfl (by first | exact Le.refl _ | exact Le.old _ _)
theorem DerivesExpand_fn (k m : List UInt8) (n : Int) : FnM Tryd.prog 4 tabs [byt k, byt m, .v (.int .i64 n)] (.v (.bool true)) := by
  rcases Nat.lt_or_ge 100 k.length with hk | hk
  · exact DerivesExpand_fnA k m n hk
  rcases Nat.lt_or_ge 100 m.length with hm | hm
  · exact DerivesExpand_fnB k m n hk hm
  rcases Int.lt_or_le n 0 with h | h
  · exact DerivesExpand_fnD k m n hk hm h
  rcases Int.lt_or_le 8160 n with h' | h'
  · exact DerivesExpand_fnE k m n hk hm h'
  rcases Int.lt_or_le 300 n with h2 | h2
  · exact DerivesExpand_fnC k m n hk hm h2 h'
  · obtain ⟨c, rfl⟩ := Int.eq_ofNat_of_zero_le h
    exact DerivesExpand_fnF k m c hk hm (by omega)
theorem DerivesPrefix_fnA (k m : List UInt8) (a b : UInt8) (h : 100 < k.length) : FnM Tryd.prog 5 tabs [byt k, byt m, .v (aggV ([a, b].map byteV))] (.v (.bool true)) := by
  refine FnM.of Tryd.func5 rfl (by kernel_rfl) Tryd.ntmps5 (by simp) (by decide) (fun w => [(0, old w.heap.size (byt k)), (1, old w.heap.size (byt m)), (2, .v (aggV ([a, b].map byteV))), (1900000, tab 0 (H8.list.map u32V)), (1900001, tab 1 (K64.map u32V))]) (fun w => (StartM.old rfl (StartM.old rfl (StartM.v rfl (StartM.m (by simp [tabs]) (by decide) (StartM.m (by simp [tabs]) (by decide) StartM.nil)))))) fun w₀ hM => ?_
  have htab := tabs_hi hM
  refine A.regs (by kernel_rfl) (by kernel_rfl) (.inl rfl) ?_
  refine RunTK.new 0 (by decide) rfl (.inl rfl) ?_
  refine RunK.nil ?_
  refine ⟨_, _, eff_box (n := 78) (d := 5) (k := 1000005) rfl (by decide), fun b5 hb5 => ?_⟩
  have hBb5 := hb5.1
  refine RunTK.last ?_
  refine RunK.step rfl rfl (ok_assign rfl) ?_
  refine RunK.nil ?_
  refine A.sub (Sub.cons (t := 0) rfl (Sub.cons (t := 1) rfl (Sub.cons (t := 5) rfl (Sub.cons (t := 1000005) rfl (Sub.cons (t := 1900000) rfl (Sub.cons (t := 1900001) rfl Sub.nil)))))) ?_
  refine A.seq ?_
  refine A.regs (by kernel_rfl) (by kernel_rfl) (.inl rfl) ?_
  refine RunTK.last ?_
  refine RunK.step rfl rfl (ok_move rfl) ?_
  refine RunK.step rfl rfl (ok_lenB Tryd.underlying22 rfl (Le.old _ _)) ?_
  refine RunK.step rfl rfl (ok_bin rfl rfl rfl) ?_; refine RunK.as (.bool true) (by simp; omega) ?_
  refine RunK.step rfl rfl (ok_move rfl) ?_
  refine RunK.skipped rfl rfl rfl rfl rfl ?_
  refine RunK.skipped rfl rfl rfl rfl rfl ?_
  refine RunK.skipped rfl rfl rfl rfl rfl ?_
  refine RunK.step rfl rfl (ok_pick rfl rfl) ?_
  refine RunK.nil ?_
  refine A.sub (Sub.cons (t := 0) rfl (Sub.cons (t := 1) rfl (Sub.cons (t := 5) rfl (Sub.cons (t := 20) rfl (Sub.cons (t := 1000005) rfl (Sub.cons (t := 1900000) rfl (Sub.cons (t := 1900001) rfl Sub.nil))))))) ?_
  refine A.yes rfl ?_
  refine A.regs (by kernel_rfl) (by kernel_rfl) (.inl rfl) ?_
  refine RunTK.last ?_
  refine RunK.step rfl rfl (ok_callM lives4_fn (Sub.cons rfl (Sub.cons rfl Sub.nil)) tabs_v Args.nil) ?_
  refine RunK.step rfl rfl (ok_assign rfl) ?_
  refine RunK.nil ?_
  refine A.sub (Sub.cons (t := 6) rfl (Sub.cons (t := 1000005) rfl (Sub.cons (t := 1900000) rfl (Sub.cons (t := 1900001) rfl Sub.nil)))) ?_
  refine A.ret ?_
  refine End.ret_then ?_
  exact End.ret1 rfl rfl (by first | exact Le.refl _ | exact Le.old _ _)
set_option maxHeartbeats 2000000 in
theorem DerivesPrefix_fnB (k m : List UInt8) (a b : UInt8) (hk : k.length ≤ 100) : FnM Tryd.prog 5 tabs [byt k, byt m, .v (aggV ([a, b].map byteV))] (.v (.bool true)) := by
  have ha := a.toNat_lt
  have hb := b.toNat_lt
  refine FnM.of Tryd.func5 rfl (by kernel_rfl) Tryd.ntmps5 (by simp) (by decide) (fun w => [(0, old w.heap.size (byt k)), (1, old w.heap.size (byt m)), (2, .v (aggV ([a, b].map byteV))), (1900000, tab 0 (H8.list.map u32V)), (1900001, tab 1 (K64.map u32V))]) (fun w => (StartM.old rfl (StartM.old rfl (StartM.v rfl (StartM.m (by simp [tabs]) (by decide) (StartM.m (by simp [tabs]) (by decide) StartM.nil)))))) fun w₀ hM => ?_
  have htab := tabs_hi hM
  refine A.regs (by kernel_rfl) (by kernel_rfl) (.inl rfl) ?_
  refine RunTK.new 0 (by decide) rfl (.inl rfl) ?_
  refine RunK.nil ?_
  refine ⟨_, _, eff_box (n := 78) (d := 5) (k := 1000005) rfl (by decide), fun b5 hb5 => ?_⟩
  have hBb5 := hb5.1
  refine RunTK.last ?_
  refine RunK.step rfl rfl (ok_assign rfl) ?_
  refine RunK.nil ?_
  refine A.sub (Sub.cons (t := 0) rfl (Sub.cons (t := 1) rfl (Sub.cons (t := 5) rfl (Sub.cons (t := 1000005) rfl (Sub.cons (t := 1900000) rfl (Sub.cons (t := 1900001) rfl Sub.nil)))))) ?_
  refine A.seq ?_
  refine A.regs (by kernel_rfl) (by kernel_rfl) (.inl rfl) ?_
  refine RunTK.last ?_
  refine RunK.step rfl rfl (ok_move rfl) ?_
  refine RunK.step rfl rfl (ok_lenB Tryd.underlying22 rfl (Le.old _ _)) ?_
  refine RunK.step rfl rfl (ok_bin rfl rfl rfl) ?_; refine RunK.as (.bool false) (by simp; omega) ?_
  refine RunK.step rfl rfl (ok_move rfl) ?_
  refine RunK.guarded rfl rfl rfl rfl (ok_move rfl) ?_
  refine RunK.guarded rfl rfl rfl rfl (ok_lenB Tryd.underlying22 rfl (Le.old _ _)) ?_
  refine RunK.guarded rfl rfl rfl rfl (ok_bin rfl rfl rfl) ?_
  refine RunK.step rfl rfl (ok_pick rfl rfl) ?_
  refine RunK.nil ?_
  refine A.sub (Sub.cons (t := 0) rfl (Sub.cons (t := 1) rfl (Sub.cons (t := 5) rfl (Sub.cons (t := 20) rfl (Sub.cons (t := 1000005) rfl (Sub.cons (t := 1900000) rfl (Sub.cons (t := 1900001) rfl Sub.nil))))))) ?_
  refine A.cond rfl (fun hc20 => ?_) (fun hc20 => ?_)
  · refine A.regs (by kernel_rfl) (by kernel_rfl) (.inl rfl) ?_
    refine RunTK.last ?_
    refine RunK.step rfl rfl (ok_callM lives4_fn (Sub.cons rfl (Sub.cons rfl Sub.nil)) tabs_v Args.nil) ?_
    refine RunK.step rfl rfl (ok_assign rfl) ?_
    refine RunK.nil ?_
    refine A.sub (Sub.cons (t := 6) rfl (Sub.cons (t := 1000005) rfl (Sub.cons (t := 1900000) rfl (Sub.cons (t := 1900001) rfl Sub.nil)))) ?_
    refine A.ret ?_
    refine End.ret_then ?_
    exact End.ret1 rfl rfl (by first | exact Le.refl _ | exact Le.old _ _)
  · have hm : m.length ≤ 100 := by simp at hc20; omega
    refine A.skip ?_
    refine End.normal_then (End.code ?_)
    refine A.regs (by kernel_rfl) (by kernel_rfl) (.inr (by kernel_rfl)) ?_
    refine RunTK.last ?_
    refine RunK.step rfl rfl (ok_index0 (0) Tryd.underlying34 info5 rfl rfl (rfl) (by decide)) ?_
    refine RunK.step rfl rfl (ok_loadV (s := 1000005) (by decide) Tryd.underlying5 rfl rfl rfl (rfl)) ?_
    refine RunK.step rfl rfl (ok_index0 (1) Tryd.underlying34 info5 rfl rfl (rfl) (by decide)) ?_
    refine RunK.step rfl rfl (ok_loadV (s := 1000005) (by decide) Tryd.underlying5 rfl rfl rfl (rfl)) ?_
    refine RunK.step rfl rfl (ok_minI rfl rfl) ?_; refine RunK.as (.int .u8 (((min a.toNat b.toNat) : Nat) : Int)) (by congr 1; omega) ?_
    refine RunK.step rfl rfl (ok_conv Tryd.underlying5 Tryd.underlying3 rfl) ?_; refine RunK.as (.int .i64 (((min a.toNat b.toNat) : Nat) : Int)) (by rw [wrapN_i64 (by omega)]) ?_
    refine RunK.step rfl rfl (ok_index0 (0) Tryd.underlying34 info5 rfl rfl (rfl) (by decide)) ?_
    refine RunK.step rfl rfl (ok_loadV (s := 1000005) (by decide) Tryd.underlying5 rfl rfl rfl (rfl)) ?_
    refine RunK.step rfl rfl (ok_index0 (1) Tryd.underlying34 info5 rfl rfl (rfl) (by decide)) ?_
    refine RunK.step rfl rfl (ok_loadV (s := 1000005) (by decide) Tryd.underlying5 rfl rfl rfl (rfl)) ?_
    refine RunK.step rfl rfl (ok_maxI rfl rfl) ?_; refine RunK.as (.int .u8 (((max a.toNat b.toNat) : Nat) : Int)) (by congr 1; omega) ?_
    refine RunK.step rfl rfl (ok_conv Tryd.underlying5 Tryd.underlying3 rfl) ?_; refine RunK.as (.int .i64 (((max a.toNat b.toNat) : Nat) : Int)) (by rw [wrapN_i64 (by omega)]) ?_
    refine RunK.step rfl rfl (ok_assign rfl) ?_
    refine RunK.step rfl rfl (ok_assign rfl) ?_
    refine RunK.nil ?_
    refine A.sub (Sub.cons (t := 0) rfl (Sub.cons (t := 1) rfl (Sub.cons (t := 7) rfl (Sub.cons (t := 8) rfl (Sub.cons (t := 1000005) rfl (Sub.cons (t := 1900000) rfl (Sub.cons (t := 1900001) rfl Sub.nil))))))) ?_
    refine A.regs (by kernel_rfl) (by kernel_rfl) (.inl rfl) ?_
    refine RunTK.last ?_
    refine RunK.step rfl rfl (ok_move rfl) ?_
    refine RunK.step rfl rfl (ok_move rfl) ?_
    refine RunK.step rfl rfl (ok_move rfl) ?_
    refine RunK.step rfl rfl (ok_callM (Expand_fn k m (min a.toNat b.toNat) (by omega) (by omega) (by omega)) (Sub.cons rfl (Sub.cons rfl Sub.nil)) tabs_v (Args.cons rfl (Le.old _ _) (Args.cons rfl (Le.old _ _) (Args.cons rfl (Le.refl _) Args.nil)))) ?_
    refine RunK.step rfl rfl (ok_move rfl) ?_
    refine RunK.step rfl rfl (ok_extract rfl rfl) ?_
    refine RunK.step rfl rfl (ok_extract rfl rfl) ?_
    refine RunK.step rfl rfl (ok_assign rfl) ?_
    refine RunK.step rfl rfl (ok_assign rfl) ?_
    refine RunK.nil ?_
    refine A.sub (Sub.cons (t := 0) rfl (Sub.cons (t := 1) rfl (Sub.cons (t := 7) rfl (Sub.cons (t := 8) rfl (Sub.cons (t := 9) rfl (Sub.cons (t := 10) rfl (Sub.cons (t := 1000005) rfl (Sub.cons (t := 1900000) rfl (Sub.cons (t := 1900001) rfl Sub.nil))))))))) ?_
    refine A.regs (by kernel_rfl) (by kernel_rfl) (.inl rfl) ?_
    refine RunTK.last ?_
    refine RunK.step rfl rfl (ok_move rfl) ?_
    refine RunK.step rfl rfl (ok_move rfl) ?_
    refine RunK.step rfl rfl (ok_move rfl) ?_
    refine RunK.step rfl rfl (ok_callM (Expand_fn k m (max a.toNat b.toNat) (by omega) (by omega) (by omega)) (Sub.cons rfl (Sub.cons rfl Sub.nil)) tabs_v (Args.cons rfl (Le.old _ _) (Args.cons rfl (Le.old _ _) (Args.cons rfl (Le.refl _) Args.nil)))) ?_
    refine RunK.step rfl rfl (ok_move rfl) ?_
    refine RunK.step rfl rfl (ok_extract rfl rfl) ?_
    refine RunK.step rfl rfl (ok_extract rfl rfl) ?_
    refine RunK.step rfl rfl (ok_assign rfl) ?_
    refine RunK.step rfl rfl (ok_assign rfl) ?_
    refine RunK.nil ?_
    refine A.sub (Sub.cons (t := 7) rfl (Sub.cons (t := 8) rfl (Sub.cons (t := 9) rfl (Sub.cons (t := 10) rfl (Sub.cons (t := 11) rfl (Sub.cons (t := 12) rfl (Sub.cons (t := 1000005) rfl (Sub.cons (t := 1900000) rfl (Sub.cons (t := 1900001) rfl Sub.nil))))))))) ?_
    refine A.regs (by kernel_rfl) (by kernel_rfl) (.inr (by kernel_rfl)) ?_
    refine RunTK.last ?_
    refine RunK.step rfl rfl (ok_move rfl) ?_
    refine RunK.step rfl rfl (ok_bin rfl rfl rfl) ?_
    refine RunK.step rfl rfl (ok_move rfl) ?_
    refine RunK.guarded rfl rfl rfl rfl (ok_move rfl) ?_
    refine RunK.guarded rfl rfl rfl rfl (ok_bin rfl rfl rfl) ?_
    refine RunK.step rfl rfl (ok_pick rfl rfl) ?_; refine RunK.as (.bool true) (by rfl) ?_
    refine RunK.step rfl rfl (ok_move rfl) ?_
    refine RunK.guarded rfl rfl rfl rfl (ok_move rfl) ?_
    refine RunK.guarded rfl rfl rfl rfl (ok_lenB (l := (hkdf k m (min a.toNat b.toNat))) Tryd.underlying22 rfl (le_byt _ _)) ?_; refine RunK.as (.int .i64 (((min a.toNat b.toNat) : Nat) : Int)) (by rw [hkdf_length]) ?_
    refine RunK.guarded rfl rfl rfl rfl (ok_move rfl) ?_
    refine RunK.guarded rfl rfl rfl rfl (ok_bin rfl rfl rfl) ?_; refine RunK.as (.bool true) (by simp) ?_
    refine RunK.step rfl rfl (ok_pick rfl rfl) ?_; refine RunK.as (.bool true) (by rfl) ?_
    refine RunK.step rfl rfl (ok_move rfl) ?_
    refine RunK.guarded rfl rfl rfl rfl (ok_move rfl) ?_
    refine RunK.guarded rfl rfl rfl rfl (ok_lenB (l := (hkdf k m (max a.toNat b.toNat))) Tryd.underlying22 rfl (le_byt _ _)) ?_; refine RunK.as (.int .i64 (((max a.toNat b.toNat) : Nat) : Int)) (by rw [hkdf_length]) ?_
    refine RunK.guarded rfl rfl rfl rfl (ok_move rfl) ?_
    refine RunK.guarded rfl rfl rfl rfl (ok_bin rfl rfl rfl) ?_; refine RunK.as (.bool true) (by simp) ?_
    refine RunK.step rfl rfl (ok_pick rfl rfl) ?_; refine RunK.as (.bool true) (by rfl) ?_
    refine RunK.step rfl rfl (ok_move rfl) ?_
    refine RunK.guarded rfl rfl rfl rfl (ok_move rfl) ?_
    refine RunK.guarded rfl rfl rfl rfl (ok_move rfl) ?_
    refine RunK.guarded rfl rfl rfl rfl ((ok_slice (ds := (hkdf k m (max a.toNat b.toNat)).map byteD) 0 (min a.toNat b.toNat) Tryd.underlying22 info5 rfl (le_byt _ _) (.inr ⟨rfl, rfl⟩) (.inl ⟨_, _, rfl, rfl⟩) (by omega) (by rw [List.length_map, hkdf_length]; omega)).le (d' := byt (hkdf k m (min a.toNat b.toNat))) (Le.eq (by rw [List.drop_zero, ← List.map_take, hkdf_take (by omega)]; rfl))) ?_
    refine RunK.guarded rfl rfl rfl rfl (ok_str (l := (hkdf k m (min a.toNat b.toNat))) Tryd.underlying22 Tryd.underlying5 Tryd.underlying9 rfl (Le.refl _)) ?_
    refine RunK.guarded rfl rfl rfl rfl (ok_move rfl) ?_
    refine RunK.guarded rfl rfl rfl rfl (ok_str (l := (hkdf k m (min a.toNat b.toNat))) Tryd.underlying22 Tryd.underlying5 Tryd.underlying9 rfl (le_byt _ _)) ?_
    refine RunK.guarded rfl rfl rfl rfl (ok_seq rfl rfl) ?_; refine RunK.as (.bool true) (by simp) ?_
    refine RunK.step rfl rfl (ok_pick rfl rfl) ?_; refine RunK.as (.bool true) (by rfl) ?_
    refine RunK.step rfl rfl (ok_move rfl) ?_
    refine RunK.guarded rfl rfl rfl rfl (ok_callM lives4_fn (Sub.cons rfl (Sub.cons rfl Sub.nil)) tabs_v Args.nil) ?_
    refine RunK.step rfl rfl (ok_pick rfl rfl) ?_; refine RunK.as (.bool true) (by rfl) ?_
    refine RunK.step rfl rfl (ok_assign rfl) ?_
    refine RunK.nil ?_
    refine A.sub (Sub.cons (t := 6) rfl (Sub.cons (t := 1000005) rfl (Sub.cons (t := 1900000) rfl (Sub.cons (t := 1900001) rfl Sub.nil)))) ?_
    refine A.ret ?_
    exact End.ret1 rfl rfl (by first | exact Le.refl _ | exact Le.old _ _)
theorem DerivesPrefix_fn (k m z : List UInt8) (hz : z.length = 2) : FnM Tryd.prog 5 tabs [byt k, byt m, .v (aggV (z.map byteV))] (.v (.bool true)) := by
  match z, hz with
  | [a, b], _ =>
    rcases Nat.lt_or_ge 100 k.length with h | h
    · exact DerivesPrefix_fnA k m a b h
    · exact DerivesPrefix_fnB k m a b h
set_option maxHeartbeats 2000000 in
theorem DerivesVolume_fn (mk : List UInt8) (hmk : mk.length = 32) : FnM Tryd.prog 6 tabs [.v (aggV (mk.map byteV))] (.v (.bool true)) := by
  refine FnM.of Tryd.func6 rfl (by kernel_rfl) Tryd.ntmps6 (by simp) (by decide) (fun w => [(0, .v (aggV (mk.map byteV))), (1900000, tab 0 (H8.list.map u32V)), (1900001, tab 1 (K64.map u32V))]) (fun w => (StartM.v rfl (StartM.m (by simp [tabs]) (by decide) (StartM.m (by simp [tabs]) (by decide) StartM.nil)))) fun w₀ hM => ?_
  have htab := tabs_hi hM
  refine A.regs (by kernel_rfl) (by kernel_rfl) (.inl rfl) ?_
  refine RunTK.new 0 (by decide) rfl (.inl rfl) ?_
  refine RunK.nil ?_
  refine ⟨_, _, eff_box (n := 26) (d := 1) (k := 1000001) rfl (by decide), fun b1 hb1 => ?_⟩
  have hBb1 := hb1.1
  refine RunTK.last ?_
  refine RunK.step rfl rfl (ok_assign rfl) ?_
  refine RunK.nil ?_
  refine A.sub (Sub.cons (t := 1) rfl (Sub.cons (t := 1000001) rfl (Sub.cons (t := 1900000) rfl (Sub.cons (t := 1900001) rfl Sub.nil)))) ?_
  refine A.regs (by kernel_rfl) (by kernel_rfl) (.inl rfl) ?_
  refine RunTK.new 2 (by decide) rfl (.inl rfl) ?_
  refine RunK.step rfl rfl (ok_loadA (s := 1000001) (by decide) Tryd.underlying36 rfl (size36.of (by rw [List.length_map, hmk])) rfl rfl) ?_
  refine RunK.step rfl rfl (ok_callM (Volume_fn mk hmk) (Sub.cons rfl (Sub.cons rfl Sub.nil)) tabs_v (Args.cons rfl (by first | exact Le.refl _ | exact Le.old _ _ | exact le_byt _ _ | exact (Le.old _ _).trans (le_byt _ _) | exact le_lst _ _ | exact (Le.old _ _).trans (le_lst _ _) | exact (Le.old _ _).trans (Le.old _ _) | exact (Le.old _ _).trans ((Le.old _ _).trans (le_byt _ _)) | exact byt_nil_le | exact lst_nil_le | exact bytes_nil_le | exact list_nil_le) Args.nil)) ?_
  refine RunK.nil ?_
  refine ⟨_, _, eff_alloc (n := 26) (d := 3) (k := 1000003) zero39 (by decide), fun b3 hb3 => ?_⟩
  have hBb3 := hb3.1
  have hlt_b1_b3 : b1 < b3 := hb3.2 1000001 _ _ _ rfl
  refine RunTK.eff 3 (by decide) rfl (.inl rfl) ?_
  refine RunK.nil ?_
  refine ⟨_, eff_storeA (n := 26) (s := 1000003) (size39.of (by simp [hkdf_length])) rfl rfl (by simp [byteV, Value.oneCell']) hBb3 rfl (by simp [hkdf_length]) (LeftS.cons (t := 1) rfl (Surv.v _) (LeftS.cons (t := 3) rfl (Surv.v _) (LeftS.cons (t := 6) rfl (Surv.v _) (LeftS.cons (t := 7) rfl (Surv.v _) (LeftS.cons (t := 1000001) rfl (Surv.blkT (by decide)) (LeftS.cons (t := 1900000) rfl (Surv.tab (by omega)) (LeftS.cons (t := 1900001) rfl (Surv.tab (by omega)) LeftS.nil))))))), ?_⟩
  refine RunTK.last ?_
  refine RunK.nil ?_
  refine A.sub (Sub.cons (t := 1) rfl (Sub.cons (t := 3) rfl (Sub.cons (t := 1000001) rfl (Sub.cons (t := 1000003) rfl (Sub.cons (t := 1900000) rfl (Sub.cons (t := 1900001) rfl Sub.nil)))))) ?_
  refine A.regs (by kernel_rfl) (by kernel_rfl) (.inl rfl) ?_
  refine RunTK.new 5 (by decide) rfl (.inl rfl) ?_
  refine RunK.step rfl rfl (ok_loadA (s := 1000001) (by decide) Tryd.underlying36 rfl (size36.of (by rw [List.length_map, hmk])) rfl rfl) ?_
  refine RunK.step rfl rfl (ok_call (ref4Keys_fn mk hmk) (Args.cons rfl (Le.refl _) Args.nil)) ?_
  refine RunK.step rfl rfl (ok_move rfl) ?_
  refine RunK.step rfl rfl (ok_extract rfl rfl) ?_
  refine RunK.step rfl rfl (ok_extract rfl rfl) ?_
  refine RunK.nil ?_
  refine ⟨_, _, eff_alloc (n := 26) (d := 4) (k := 1000004) zero37 (by decide), fun b4 hb4 => ?_⟩
  have hBb4 := hb4.1
  have hlt_b1_b4 : b1 < b4 := hb4.2 1000001 _ _ _ rfl
  have hlt_b3_b4 : b3 < b4 := hb4.2 1000003 _ _ _ rfl
  refine RunTK.new 6 (by decide) rfl (.inl rfl) ?_
  refine RunK.nil ?_
  refine ⟨_, _, eff_alloc (n := 26) (d := 5) (k := 1000005) zero36 (by decide), fun b5 hb5 => ?_⟩
  have hBb5 := hb5.1
  have hlt_b1_b5 : b1 < b5 := hb5.2 1000001 _ _ _ rfl
  have hlt_b3_b5 : b3 < b5 := hb5.2 1000003 _ _ _ rfl
  have hlt_b4_b5 : b4 < b5 := hb5.2 1000004 _ _ _ rfl
  refine RunTK.eff 7 (by decide) rfl (.inl rfl) ?_
  refine RunK.nil ?_
  refine ⟨_, eff_storeA (n := 26) (s := 1000004) (size37.of (by rw [List.length_map, hkdf_length])) rfl rfl (all_bytes _) hBb4 rfl (by rw [List.length_map, hkdf_length, List.length_replicate]) (LeftS.cons (t := 1) rfl (Surv.v _) (LeftS.cons (t := 3) rfl (Surv.v _) (LeftS.cons (t := 4) rfl (Surv.v _) (LeftS.cons (t := 5) rfl (Surv.v _) (LeftS.cons (t := 9) rfl (Surv.v _) (LeftS.cons (t := 11) rfl (Surv.v _) (LeftS.cons (t := 12) rfl (Surv.v _) (LeftS.cons (t := 1000001) rfl (Surv.blkT (by decide)) (LeftS.cons (t := 1000003) rfl (Surv.blkT (by decide)) (LeftS.cons (t := 1000005) rfl (Surv.blkT (by decide)) (LeftS.cons (t := 1900000) rfl (Surv.tab (by omega)) (LeftS.cons (t := 1900001) rfl (Surv.tab (by omega)) LeftS.nil)))))))))))), ?_⟩
  refine RunTK.eff 8 (by decide) rfl (.inl rfl) ?_
  refine RunK.nil ?_
  refine ⟨_, eff_storeA (n := 26) (s := 1000005) (size36.of (by rw [List.length_map, hkdf_length])) rfl rfl (all_bytes _) hBb5 rfl (by rw [List.length_map, hkdf_length, List.length_replicate]) (LeftS.cons (t := 1) rfl (Surv.v _) (LeftS.cons (t := 3) rfl (Surv.v _) (LeftS.cons (t := 4) rfl (Surv.v _) (LeftS.cons (t := 5) rfl (Surv.v _) (LeftS.cons (t := 9) rfl (Surv.v _) (LeftS.cons (t := 11) rfl (Surv.v _) (LeftS.cons (t := 12) rfl (Surv.v _) (LeftS.cons (t := 1000001) rfl (Surv.blk (by omega)) (LeftS.cons (t := 1000003) rfl (Surv.blkT (by decide)) (LeftS.cons (t := 1000004) rfl (Surv.blkT (by decide)) (LeftS.cons (t := 1900000) rfl (Surv.tab (by omega)) (LeftS.cons (t := 1900001) rfl (Surv.tab (by omega)) LeftS.nil)))))))))))), ?_⟩
  refine RunTK.last ?_
  refine RunK.nil ?_
  refine A.sub (Sub.cons (t := 3) rfl (Sub.cons (t := 4) rfl (Sub.cons (t := 5) rfl (Sub.cons (t := 1000001) rfl (Sub.cons (t := 1000003) rfl (Sub.cons (t := 1000004) rfl (Sub.cons (t := 1000005) rfl (Sub.cons (t := 1900000) rfl (Sub.cons (t := 1900001) rfl Sub.nil))))))))) ?_
  refine A.regs (by kernel_rfl) (by kernel_rfl) (.inl rfl) ?_
  refine RunTK.last ?_
  refine RunK.step rfl rfl (ok_field field39_0 (by decide) rfl) ?_
  refine RunK.step rfl rfl (ok_loadP (s := 1000003) (by decide) Tryd.underlying37 rfl size37 rfl rfl (by simp [hkdf_length]) (by rw [List.drop_zero, List.take_left' (by rw [List.length_map, hkdf_length])])) ?_
  refine RunK.step rfl rfl (ok_loadA (s := 1000004) (by decide) Tryd.underlying37 rfl (size37.of (by rw [List.length_map, hkdf_length])) rfl rfl) ?_
  refine RunK.step rfl rfl (ok_eqlA Tryd.underlying37 Tryd.underlying5 info5 (by kernel_rfl) rfl rfl rfl (by rw [List.length_map, hkdf_length]) (ints_u8 _)) ?_
  refine RunK.step rfl rfl (ok_move rfl) ?_
  refine RunK.guarded rfl rfl rfl rfl (ok_field field39_1 (by decide) rfl) ?_
  refine RunK.guarded rfl rfl rfl rfl (ok_loadP (s := 1000003) (by decide) Tryd.underlying36 rfl size36 rfl rfl (by simp [hkdf_length]) (by rw [List.drop_left' (by rw [List.length_map, hkdf_length]), List.take_of_length_le (Nat.le_of_eq (by rw [List.length_map, hkdf_length]))])) ?_
  refine RunK.guarded rfl rfl rfl rfl (ok_loadA (s := 1000005) (by decide) Tryd.underlying36 rfl (size36.of (by rw [List.length_map, hkdf_length])) rfl rfl) ?_
  refine RunK.guarded rfl rfl rfl rfl (ok_eqlA Tryd.underlying36 Tryd.underlying5 info5 (by kernel_rfl) rfl rfl rfl (by rw [List.length_map, hkdf_length]) (ints_u8 _)) ?_
  refine RunK.step rfl rfl (ok_pick rfl rfl) ?_; refine RunK.as (.bool true) (by rfl) ?_
  refine RunK.step rfl rfl (ok_move rfl) ?_
  refine RunK.guarded rfl rfl rfl rfl (ok_callM lives4_fn (Sub.cons rfl (Sub.cons rfl Sub.nil)) tabs_v Args.nil) ?_
  refine RunK.step rfl rfl (ok_pick rfl rfl) ?_; refine RunK.as (.bool true) (by rfl) ?_
  refine RunK.step rfl rfl (ok_assign rfl) ?_
  refine RunK.nil ?_
  refine A.sub (Sub.cons (t := 2) rfl (Sub.cons (t := 1000001) rfl (Sub.cons (t := 1000003) rfl (Sub.cons (t := 1000004) rfl (Sub.cons (t := 1000005) rfl (Sub.cons (t := 1900000) rfl (Sub.cons (t := 1900001) rfl Sub.nil))))))) ?_
  refine A.ret ?_
  exact End.ret1 rfl rfl (by first | exact Le.refl _ | exact Le.old _ _)
set_option maxHeartbeats 4000000 in
theorem DerivesKnown_fn  : FnM Tryd.prog 7 tabs [] (.v (.bool true)) := by
  refine FnM.of Tryd.func7 rfl (by kernel_rfl) Tryd.ntmps7 (by simp) (by decide) (fun w => [(1900000, tab 0 (H8.list.map u32V)), (1900001, tab 1 (K64.map u32V))]) (fun w => (StartM.m (by simp [tabs]) (by decide) (StartM.m (by simp [tabs]) (by decide) StartM.nil))) fun w₀ hM => ?_
  have htab := tabs_hi hM
  refine A.regs (by kernel_rfl) (by kernel_rfl) (.inl rfl) ?_
  refine RunTK.last ?_
  refine RunK.step rfl rfl (ok_assign rfl) ?_
  refine RunK.nil ?_
  refine A.sub (Sub.cons (t := 1900000) rfl (Sub.cons (t := 1900001) rfl Sub.nil)) ?_
  refine A.regs (by kernel_rfl) (by kernel_rfl) (.inl rfl) ?_
  refine RunTK.last ?_
  refine RunK.step rfl rfl (ok_callB (from4_fnB 1 32 (by decide)) (fun _ _ h => own_mono h) (Args.cons rfl (Le.refl _) (Args.cons rfl (Le.refl _) Args.nil))) ?_
  refine RunK.step rfl rfl (ok_assign rfl) ?_
  refine RunK.nil ?_
  refine A.sub (Sub.cons (t := 1) rfl (Sub.cons (t := 1900000) rfl (Sub.cons (t := 1900001) rfl Sub.nil))) ?_
  refine A.seq ?_
  refine A.regs (by kernel_rfl) (by kernel_rfl) (.inl rfl) ?_
  refine RunTK.last ?_
  refine RunK.step rfl rfl (ok_assign rfl) ?_
  refine RunK.nil ?_
  refine A.sub (Sub.cons (t := 1) rfl (Sub.cons (t := 2) rfl (Sub.cons (t := 1900000) rfl (Sub.cons (t := 1900001) rfl Sub.nil)))) ?_
  refine A.block ?_
  refine A.loop (ι := Nat) (fun i => i ≤ 35) (fun i => [(1, own w₀.heap.size 5 32 ((rise 1 32).map byteV)), (2, .v (.int .i64 ((i : Nat) : Int))), (1900000, tab 0 (H8.list.map u32V)), (1900001, tab 1 (K64.map u32V))]) (fun i => 35 - i) 30 ?_ ?_ ?_
  · show 30 ≤ 35; decide
  · exact (Sub.cons (t := 1) rfl (Sub.cons (t := 2) rfl (Sub.cons (t := 1900000) rfl (Sub.cons (t := 1900001) rfl Sub.nil))))
  intro i hi
  refine A.seq ?_
  refine A.regs (by kernel_rfl) (by kernel_rfl) (.inl rfl) ?_
  refine RunTK.last ?_
  refine RunK.step rfl rfl (ok_move rfl) ?_
  refine RunK.step rfl rfl (ok_bin rfl rfl rfl) ?_
  refine RunK.nil ?_
  refine A.sub (Sub.cons (t := 1) rfl (Sub.cons (t := 2) rfl (Sub.cons (t := 9) rfl (Sub.cons (t := 1900000) rfl (Sub.cons (t := 1900001) rfl Sub.nil))))) ?_
  refine A.cond rfl (fun hc9 => ?_) (fun hc9 => ?_)
  · have hlt : i < 35 := by simp at hc9; omega
    refine A.skip ?_
    refine End.normal_then (End.code ?_)
    refine A.seq ?_
    refine A.block ?_
    refine A.regs (by kernel_rfl) (by kernel_rfl) (.inl rfl) ?_
    refine RunTK.last ?_
    refine RunK.step rfl rfl (ok_move rfl) ?_
    refine RunK.step rfl rfl (ok_move rfl) ?_
    refine RunK.step rfl rfl (ok_callM (DerivesExpand_fn (rise 1 32) [] ((i : Nat) : Int)) (Sub.cons rfl (Sub.cons rfl Sub.nil)) tabs_v (Args.cons rfl (own_cat rfl (rise_length _ _).symm) (Args.cons rfl byt_nil_le (Args.cons rfl (Le.refl _) Args.nil)))) ?_
    refine RunK.step rfl rfl (ok_not rfl) ?_; refine RunK.as (.bool false) (by rfl) ?_
    refine RunK.step rfl rfl (ok_move rfl) ?_
    refine RunK.guarded rfl rfl rfl rfl (ok_move rfl) ?_
    refine RunK.guarded rfl rfl rfl rfl (ok_move rfl) ?_
    refine RunK.guarded rfl rfl rfl rfl (ok_bin rfl rfl rfl) ?_; refine RunK.as (.int .i64 ((2 * i : Nat) : Int)) (by rw [wrap_i64 (by omega) (by omega)]; first | rfl | (congr 1; omega)) ?_
    refine RunK.guarded rfl rfl rfl rfl (ok_callM (DerivesExpand_fn [] (rise 1 32) ((2 * i : Nat) : Int)) (Sub.cons rfl (Sub.cons rfl Sub.nil)) tabs_v (Args.cons rfl byt_nil_le (Args.cons rfl (own_cat rfl (rise_length _ _).symm) (Args.cons rfl (Le.refl _) Args.nil)))) ?_
    refine RunK.guarded rfl rfl rfl rfl (ok_not rfl) ?_; refine RunK.as (.bool false) (by rfl) ?_
    refine RunK.step rfl rfl (ok_pick rfl rfl) ?_; refine RunK.as (.bool false) (by rfl) ?_
    refine RunK.nil ?_
    refine A.sub (Sub.cons (t := 1) rfl (Sub.cons (t := 2) rfl (Sub.cons (t := 22) rfl (Sub.cons (t := 1900000) rfl (Sub.cons (t := 1900001) rfl Sub.nil))))) ?_
    refine A.no rfl ?_
    refine A.skip ?_
    refine End.normal_block ?_
    refine End.normal_then (End.code ?_)
    refine A.reg (by kernel_rfl) (by kernel_rfl) (.inl rfl) ?_
    refine RunTK.last ?_
    refine RunK.step rfl rfl (ok_move rfl) ?_
    refine RunK.step rfl rfl (ok_bin rfl rfl rfl) ?_; refine RunK.as (.int .i64 ((i + 1 : Nat) : Int)) (by rw [wrap_i64 (by omega) (by omega)]; first | rfl | (congr 1; omega)) ?_
    refine RunK.step rfl rfl (ok_assign rfl) ?_
    refine RunK.nil ?_
    refine End.sub (Sub.cons (t := 1) rfl (Sub.cons (t := 2) rfl (Sub.cons (t := 1900000) rfl (Sub.cons (t := 1900001) rfl Sub.nil)))) ?_
    refine End.normal_then ?_
    refine End.again (i + 1) ?_ ?_ ?_
    · show _ ≤ _; omega
    · show _ - _ < _ - _; omega
    · exact (Sub.cons (t := 1) rfl (Sub.cons (t := 2) rfl (Sub.cons (t := 1900000) rfl (Sub.cons (t := 1900001) rfl Sub.nil))))
  · refine A.exit ?_
    refine End.exit_then ?_
    refine End.exit_then ?_
    refine End.exit_here ?_
    refine End.normal_then (End.code ?_)
    refine A.regsH _ (fun B => (OldH.p (t := 1) rfl (OldH.same (t := 2) rfl (OldH.same (t := 9) rfl (OldH.same (t := 1900000) rfl (OldH.same (t := 1900001) rfl OldH.nil)))))) (by kernel_rfl) (by kernel_rfl) (.inl rfl) (fun B hB => ?_)
    refine RunTK.eff 2 (by decide) rfl (.inl rfl) ?_
    refine RunK.step rfl rfl (ok_move rfl) ?_
    refine RunK.step rfl rfl (ok_buildT [120] Tryd.underlying22 info5 rfl (by decide) (by decide) rfl ⟨rfl, rfl, trivial⟩) ?_
    refine RunK.nil ?_
    refine ⟨_, eff_convN (n := 69) Tryd.underlying22 Tryd.underlying5 rfl (by decide) (fun g hg => (LeftM.cons (t := 1) rfl (.of (Surv.old (by omega))) (LeftM.cons (t := 2) rfl (.of (Surv.v _)) (LeftM.cons (t := 9) rfl (.of (Surv.v _)) (LeftM.cons (t := 24) rfl (.of (Surv.old (by omega))) (LeftM.cons (t := 25) rfl (.stb) (LeftM.cons (t := 1900000) rfl (.of (Surv.tab (by omega))) (LeftM.cons (t := 1900001) rfl (.of (Surv.tab (by omega))) LeftM.nil)))))))), ?_⟩
    refine RunTK.last ?_
    refine RunK.step rfl rfl (ok_callM (Expand_fn (rise 1 32) [120] 8160 (by rw [rise_length]; decide) (by decide) (by decide)) (Sub.cons rfl (Sub.cons rfl Sub.nil)) tabs_v (Args.cons rfl ((Le.old _ _).trans (own_cat rfl (rise_length _ _).symm)) (Args.cons rfl newT_byt (Args.cons rfl (Le.refl _) Args.nil)))) ?_
    refine RunK.step rfl rfl (ok_move rfl) ?_
    refine RunK.step rfl rfl (ok_extract rfl rfl) ?_
    refine RunK.step rfl rfl (ok_extract rfl rfl) ?_
    refine RunK.step rfl rfl (ok_assign rfl) ?_
    refine RunK.step rfl rfl (ok_assign rfl) ?_
    refine RunK.nil ?_
    refine A.sub (Sub.cons (t := 1) rfl (Sub.cons (t := 3) rfl (Sub.cons (t := 4) rfl (Sub.cons (t := 1900000) rfl (Sub.cons (t := 1900001) rfl Sub.nil))))) ?_
    refine A.subL (SubL.cons (t := 1) rfl (Le.old _ _) (SubL.cons (t := 3) rfl (Le.refl _) (SubL.cons (t := 4) rfl (Le.refl _) (SubL.cons (t := 1900000) rfl (Le.refl _) (SubL.cons (t := 1900001) rfl (Le.refl _) SubL.nil))))) ?_
    refine A.regsH _ (fun B => (OldH.p (t := 1) rfl (OldH.p (t := 3) rfl (OldH.same (t := 4) rfl (OldH.same (t := 1900000) rfl (OldH.same (t := 1900001) rfl OldH.nil)))))) (by kernel_rfl) (by kernel_rfl) (.inl rfl) (fun B hB => ?_)
    refine RunTK.eff 2 (by decide) rfl (.inl rfl) ?_
    refine RunK.step rfl rfl (ok_move rfl) ?_
    refine RunK.step rfl rfl (ok_buildT [120] Tryd.underlying22 info5 rfl (by decide) (by decide) rfl ⟨rfl, rfl, trivial⟩) ?_
    refine RunK.nil ?_
    refine ⟨_, eff_convN (n := 69) Tryd.underlying22 Tryd.underlying5 rfl (by decide) (fun g hg => (LeftM.cons (t := 1) rfl (.of (Surv.old (by omega))) (LeftM.cons (t := 3) rfl (.of (Surv.old (by omega))) (LeftM.cons (t := 4) rfl (.of (Surv.v _)) (LeftM.cons (t := 31) rfl (.of (Surv.old (by omega))) (LeftM.cons (t := 32) rfl (.stb) (LeftM.cons (t := 1900000) rfl (.of (Surv.tab (by omega))) (LeftM.cons (t := 1900001) rfl (.of (Surv.tab (by omega))) LeftM.nil)))))))), ?_⟩
    refine RunTK.last ?_
    refine RunK.step rfl rfl (ok_callM (Expand_fn (rise 1 32) [120] 8159 (by rw [rise_length]; decide) (by decide) (by decide)) (Sub.cons rfl (Sub.cons rfl Sub.nil)) tabs_v (Args.cons rfl ((Le.old _ _).trans (own_cat rfl (rise_length _ _).symm)) (Args.cons rfl newT_byt (Args.cons rfl (Le.refl _) Args.nil)))) ?_
    refine RunK.step rfl rfl (ok_move rfl) ?_
    refine RunK.step rfl rfl (ok_extract rfl rfl) ?_
    refine RunK.step rfl rfl (ok_extract rfl rfl) ?_
    refine RunK.step rfl rfl (ok_assign rfl) ?_
    refine RunK.step rfl rfl (ok_assign rfl) ?_
    refine RunK.nil ?_
    refine A.sub (Sub.cons (t := 1) rfl (Sub.cons (t := 3) rfl (Sub.cons (t := 4) rfl (Sub.cons (t := 5) rfl (Sub.cons (t := 6) rfl (Sub.cons (t := 1900000) rfl (Sub.cons (t := 1900001) rfl Sub.nil))))))) ?_
    refine A.subL (SubL.cons (t := 1) rfl (Le.old _ _) (SubL.cons (t := 3) rfl (Le.old _ _) (SubL.cons (t := 4) rfl (Le.refl _) (SubL.cons (t := 5) rfl (Le.refl _) (SubL.cons (t := 6) rfl (Le.refl _) (SubL.cons (t := 1900000) rfl (Le.refl _) (SubL.cons (t := 1900001) rfl (Le.refl _) SubL.nil))))))) ?_
    refine A.regsH _ (fun B => (OldH.p (t := 1) rfl (OldH.p (t := 3) rfl (OldH.same (t := 4) rfl (OldH.p (t := 5) rfl (OldH.same (t := 6) rfl (OldH.same (t := 1900000) rfl (OldH.same (t := 1900001) rfl OldH.nil)))))))) (by kernel_rfl) (by kernel_rfl) (.inl rfl) (fun B hB => ?_)
    refine RunTK.eff 4 (by decide) rfl (.inl rfl) ?_
    refine RunK.step rfl rfl (ok_move rfl) ?_
    refine RunK.step rfl rfl (ok_move rfl) ?_
    refine RunK.step rfl rfl (ok_move rfl) ?_
    refine RunK.step rfl rfl (ok_buildT [120] Tryd.underlying22 info5 rfl (by decide) (by decide) rfl ⟨rfl, rfl, trivial⟩) ?_
    refine RunK.nil ?_
    refine ⟨_, eff_convN (n := 69) Tryd.underlying22 Tryd.underlying5 rfl (by decide) (fun g hg => (LeftM.cons (t := 1) rfl (.of (Surv.old (by omega))) (LeftM.cons (t := 3) rfl (.of (Surv.old (by omega))) (LeftM.cons (t := 4) rfl (.of (Surv.v _)) (LeftM.cons (t := 5) rfl (.of (Surv.old (by omega))) (LeftM.cons (t := 6) rfl (.of (Surv.v _)) (LeftM.cons (t := 37) rfl (.of (Surv.old (by omega))) (LeftM.cons (t := 38) rfl (.of (Surv.v _)) (LeftM.cons (t := 39) rfl (.of (Surv.old (by omega))) (LeftM.cons (t := 40) rfl (.stb) (LeftM.cons (t := 1900000) rfl (.of (Surv.tab (by omega))) (LeftM.cons (t := 1900001) rfl (.of (Surv.tab (by omega))) LeftM.nil)))))))))))), ?_⟩
    refine RunTK.eff 17 (by decide) rfl (.inl rfl) ?_
    refine RunK.step rfl rfl (ok_callB (ref4Expand_fn (rise 1 32) [120] 8160 (by rw [rise_length]; decide) (by decide) (by decide)) (fun _ _ h => own_mono h) (Args.cons rfl ((Le.old _ _).trans (own_cat rfl (rise_length _ _).symm)) (Args.cons rfl newT_byt (Args.cons rfl (Le.refl _) Args.nil)))) ?_
    refine RunK.step rfl rfl (ok_call (same4_fn (hkdf (rise 1 32) [120] 8160) 0) (Args.cons rfl ((Le.old _ _).trans (Le.eq (by rw [hkdf_length]))) (Args.cons rfl (Le.refl _) (Args.cons rfl (own_cat rfl (hkdf_length _).symm) (Args.cons rfl (Le.refl _) Args.nil))))) ?_
    refine RunK.step rfl rfl (ok_move rfl) ?_
    refine RunK.guarded rfl rfl rfl rfl (ok_move rfl) ?_
    refine RunK.guarded rfl rfl rfl rfl (ok_lenB (l := hkdf (rise 1 32) [120] 8160) Tryd.underlying22 rfl ((Le.old _ _).trans (le_byt _ _))) ?_; refine RunK.as (.int .i64 ((8160 : Nat) : Int)) (by rw [hkdf_length]) ?_
    refine RunK.guarded rfl rfl rfl rfl (ok_bin rfl rfl rfl) ?_; refine RunK.as (.bool true) (by rfl) ?_
    refine RunK.step rfl rfl (ok_pick rfl rfl) ?_; refine RunK.as (.bool true) (by rfl) ?_
    refine RunK.step rfl rfl (ok_move rfl) ?_
    refine RunK.guarded rfl rfl rfl rfl (ok_move rfl) ?_
    refine RunK.guarded rfl rfl rfl rfl (ok_move rfl) ?_
    refine RunK.guarded rfl rfl rfl rfl (ok_move rfl) ?_
    refine RunK.guarded rfl rfl rfl rfl (ok_buildT [120] Tryd.underlying22 info5 rfl (by decide) (by decide) rfl ⟨rfl, rfl, trivial⟩) ?_
    refine RunK.nil ?_
    refine ⟨_, Eff.guarded rfl rfl (eff_convN (n := 69) Tryd.underlying22 Tryd.underlying5 rfl (by decide) (fun g hg => (LeftM.cons (t := 1) rfl (.of (Surv.old (by omega))) (LeftM.cons (t := 3) rfl (.of (Surv.old (by omega))) (LeftM.cons (t := 4) rfl (.of (Surv.v _)) (LeftM.cons (t := 5) rfl (.of (Surv.old (by omega))) (LeftM.cons (t := 6) rfl (.of (Surv.v _)) (LeftM.cons (t := 37) rfl (.of (Surv.old (by omega))) (LeftM.cons (t := 38) rfl (.of (Surv.v _)) (LeftM.cons (t := 39) rfl (.of (Surv.old (by omega))) (LeftM.cons (t := 40) rfl (.stb) (LeftM.cons (t := 41) rfl (.stb) (LeftM.cons (t := 43) rfl (.of (Surv.v _)) (LeftM.cons (t := 44) rfl (.of (Surv.v _)) (LeftM.cons (t := 45) rfl (.of (Surv.old (by omega))) (LeftM.cons (t := 46) rfl (.of (Surv.v _)) (LeftM.cons (t := 47) rfl (.of (Surv.v _)) (LeftM.cons (t := 48) rfl (.of (Surv.v _)) (LeftM.cons (t := 49) rfl (.of (Surv.v _)) (LeftM.cons (t := 50) rfl (.of (Surv.old (by omega))) (LeftM.cons (t := 51) rfl (.of (Surv.v _)) (LeftM.cons (t := 52) rfl (.of (Surv.old (by omega))) (LeftM.cons (t := 53) rfl (.stb) (LeftM.cons (t := 1900000) rfl (.of (Surv.tab (by omega))) (LeftM.cons (t := 1900001) rfl (.of (Surv.tab (by omega))) LeftM.nil))))))))))))))))))))))))), ?_⟩
    refine RunTK.last ?_
    refine RunK.guarded rfl rfl rfl rfl (ok_callB (ref4Expand_fn (rise 1 32) [120] 8159 (by rw [rise_length]; decide) (by decide) (by decide)) (fun _ _ h => own_mono h) (Args.cons rfl ((Le.old _ _).trans (own_cat rfl (rise_length _ _).symm)) (Args.cons rfl newT_byt (Args.cons rfl (Le.refl _) Args.nil)))) ?_
    refine RunK.guarded rfl rfl rfl rfl (ok_call (same4_fn (hkdf (rise 1 32) [120] 8159) 0) (Args.cons rfl ((Le.old _ _).trans (Le.eq (by rw [hkdf_length]))) (Args.cons rfl (Le.refl _) (Args.cons rfl (own_cat rfl (hkdf_length _).symm) (Args.cons rfl (Le.refl _) Args.nil))))) ?_
    refine RunK.step rfl rfl (ok_pick rfl rfl) ?_; refine RunK.as (.bool true) (by rfl) ?_
    refine RunK.step rfl rfl (ok_move rfl) ?_
    refine RunK.guarded rfl rfl rfl rfl (ok_litP [] Tryd.underlying36 info5 zero36 (by decide) trivial rfl) ?_; refine RunK.as (aggV ((List.replicate 32 0 : List UInt8).map byteV)) (by rfl) ?_
    refine RunK.guarded rfl rfl rfl rfl (ok_callM (DerivesVolume_fn (List.replicate 32 0) (by simp)) (Sub.cons rfl (Sub.cons rfl Sub.nil)) tabs_v (Args.cons rfl (Le.refl _) Args.nil)) ?_
    refine RunK.step rfl rfl (ok_pick rfl rfl) ?_; refine RunK.as (.bool true) (by rfl) ?_
    refine RunK.step rfl rfl (ok_move rfl) ?_
    refine RunK.guarded rfl rfl rfl rfl (ok_litP [_] Tryd.underlying36 info5 zero36 (by decide) ⟨rfl, rfl, trivial⟩ rfl) ?_; refine RunK.as (aggV ((1 :: List.replicate 31 0 : List UInt8).map byteV)) (by rfl) ?_
    refine RunK.guarded rfl rfl rfl rfl (ok_callM (DerivesVolume_fn (1 :: List.replicate 31 0) (by simp)) (Sub.cons rfl (Sub.cons rfl Sub.nil)) tabs_v (Args.cons rfl (Le.refl _) Args.nil)) ?_
    refine RunK.step rfl rfl (ok_pick rfl rfl) ?_; refine RunK.as (.bool true) (by rfl) ?_
    refine RunK.step rfl rfl (ok_move rfl) ?_
    refine RunK.guarded rfl rfl rfl rfl (ok_callM lives4_fn (Sub.cons rfl (Sub.cons rfl Sub.nil)) tabs_v Args.nil) ?_
    refine RunK.step rfl rfl (ok_pick rfl rfl) ?_; refine RunK.as (.bool true) (by rfl) ?_
    refine RunK.step rfl rfl (ok_assign rfl) ?_
    refine RunK.nil ?_
    refine A.sub (Sub.cons (t := 0) rfl (Sub.cons (t := 1900000) rfl (Sub.cons (t := 1900001) rfl Sub.nil))) ?_
    refine A.subL (SubL.cons (t := 0) rfl (Le.refl _) (SubL.cons (t := 1900000) rfl (Le.refl _) (SubL.cons (t := 1900001) rfl (Le.refl _) SubL.nil))) ?_
    refine A.ret ?_
    exact End.ret1 rfl rfl (by first | exact Le.refl _ | exact Le.old _ _)
end Go.Proofs.YtidlikaiileggaaDoor
