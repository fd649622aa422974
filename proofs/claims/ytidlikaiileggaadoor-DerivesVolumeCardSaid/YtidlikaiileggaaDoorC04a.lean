/-
  The definition's package of layer 4, by facts: Expand.
-/
import Derived.Test.YtidlikaiileggaaDoorC03a
import Derived.Test.YtidlikaiileggaaDoorHkdf
import Derived.Test.YtidlikaiileggaaDoorMark
import Derived.Test.YtidlikaiileggaaDoorAny
namespace Go.Proofs.YtidlikaiileggaaDoor
open Go Go.RowKit
set_option linter.unusedVariables false

set_option maxHeartbeats 1000000 in
theorem ref4Expand_fn (prk info : List UInt8) (n : Nat) (hp : prk.length ≤ 1000) (hi : info.length ≤ 1000) (hn : n ≤ 8160) : FnB Tryd.prog 13 [byt prk, byt info, .v (.int .i64 ((n : Nat) : Int))] (fun B => own B 5 n ((hkdf prk info n).map byteV)) := by
  refine FnB.of Tryd.func13 rfl (by kernel_rfl) Tryd.ntmps13 (by simp) (fun w => [(0, old w.heap.size (byt prk)), (1, old w.heap.size (byt info)), (2, .v (.int .i64 ((n : Nat) : Int)))]) (fun w => (Start.old rfl (Start.old rfl (Start.v rfl Start.nil)))) fun w₀ => ?_
  refine A.regs (by kernel_rfl) (by kernel_rfl) (.inl rfl) ?_
  refine RunTK.last ?_
  refine RunK.step rfl rfl (ok_assign rfl) ?_
  refine RunK.nil ?_
  refine A.sub (Sub.cons (t := 0) rfl (Sub.cons (t := 1) rfl (Sub.cons (t := 2) rfl Sub.nil))) ?_
  refine A.regs (by kernel_rfl) (by kernel_rfl) (.inl rfl) ?_
  refine RunTK.last ?_
  refine RunK.step rfl rfl (ok_assign rfl) ?_
  refine RunK.step rfl rfl (ok_assign rfl) ?_
  refine RunK.nil ?_
  refine A.sub (Sub.cons (t := 0) rfl (Sub.cons (t := 1) rfl (Sub.cons (t := 2) rfl (Sub.cons (t := 7) rfl (Sub.cons (t := 8) rfl Sub.nil))))) ?_
  refine A.nilV (k := 1000207) w₀.heap.size 5 ?_
  refine A.nilV (k := 1000208) w₀.heap.size 5 ?_
  refine A.seq ?_
  refine A.regs (by kernel_rfl) (by kernel_rfl) (.inl rfl) ?_
  refine RunTK.last ?_
  refine RunK.step rfl rfl (ok_assign rfl) ?_
  refine RunK.nil ?_
  refine A.sub (Sub.cons (t := 0) rfl (Sub.cons (t := 1) rfl (Sub.cons (t := 2) rfl (Sub.cons (t := 7) rfl (Sub.cons (t := 8) rfl (Sub.cons (t := 9) rfl (Sub.cons (t := 1000207) rfl (Sub.cons (t := 1000208) rfl Sub.nil)))))))) ?_
  refine A.block ?_
  refine A.loop (ι := (Nat × Value × Value)) (fun s => 32 * s.1 ≤ n + 31 ∧ Disj s.2.1 s.2.2) (fun s => [(0, old w₀.heap.size (byt prk)), (1, old w₀.heap.size (byt info)), (2, .v (.int .i64 ((n : Nat) : Int))), (7, .v s.2.1), (8, .v s.2.2), (9, .v (.int .i64 ((s.1 + 1 : Nat) : Int))), (1000207, ownM w₀.heap.size s.2.1 5 (32 * s.1) (((hkO prk info s.1)).map byteV)), (1000208, ownM w₀.heap.size s.2.2 5 ((hkT prk info s.1).length) (((hkT prk info s.1)).map byteV))]) (fun s => n + 32 - 32 * s.1) (0, .slice none 0 0, .slice none 0 0) ?_ ?_ ?_
  · exact ⟨by omega, Disj.nil _⟩
  · exact (Sub.cons (t := 0) rfl (Sub.cons (t := 1) rfl (Sub.cons (t := 2) rfl (Sub.cons (t := 7) rfl (Sub.cons (t := 8) rfl (Sub.cons (t := 9) rfl (Sub.cons (t := 1000207) rfl (Sub.cons (t := 1000208) rfl Sub.nil))))))))
  intro s hs
  obtain ⟨v7, hv7⟩ : ∃ v, s.2.1 = v := ⟨_, rfl⟩
  obtain ⟨v8, hv8⟩ : ∃ v, s.2.2 = v := ⟨_, rfl⟩
  rw [hv7, hv8] at hs
  obtain ⟨hs1, hd_v7_v8⟩ := hs
  have hd_v8_v7 := hd_v7_v8.symm
  rw [hv7, hv8]
  refine A.seq ?_
  refine A.regs (by kernel_rfl) (by kernel_rfl) (.inl rfl) ?_
  refine RunTK.last ?_
  refine RunK.step rfl rfl (ok_moveV (k := 1000207) (by decide) rfl rfl) ?_
  refine RunK.step rfl rfl (ok_lenB (l := (hkO prk info s.1)) Tryd.underlying22 rfl (own_cat rfl (hkO_length _).symm)) ?_; refine RunK.as (.int .i64 ((32 * s.1 : Nat) : Int)) (by rw [hkO_length]) ?_
  refine RunK.step rfl rfl (ok_move rfl) ?_
  refine RunK.step rfl rfl (ok_bin rfl rfl rfl) ?_
  refine RunK.nil ?_
  refine A.sub (Sub.cons (t := 0) rfl (Sub.cons (t := 1) rfl (Sub.cons (t := 2) rfl (Sub.cons (t := 7) rfl (Sub.cons (t := 8) rfl (Sub.cons (t := 9) rfl (Sub.cons (t := 14) rfl (Sub.cons (t := 1000207) rfl (Sub.cons (t := 1000208) rfl Sub.nil))))))))) ?_
  refine A.cond rfl (fun hc14 => ?_) (fun hc14 => ?_)
  · have hlt : 32 * s.1 < n := by simp at hc14; omega
    refine A.skip ?_
    refine End.normal_then (End.code ?_)
    refine A.seq ?_
    refine A.block ?_
    refine A.regsG _ (fun B => (OldOf.p (t := 0) rfl (OldOf.p (t := 1) rfl (OldOf.v (t := 2) rfl (OldOf.v (t := 7) rfl (OldOf.v (t := 8) rfl (OldOf.v (t := 9) rfl (OldOf.v (t := 14) rfl (OldOf.p (t := 1000207) rfl (OldOf.p (t := 1000208) rfl OldOf.nil)))))))))) (by kernel_rfl) (by kernel_rfl) (.inl rfl) (fun B hB => ?_)
    refine RunTK.eff 3 (by decide) rfl (.inl rfl) ?_
    refine RunK.step rfl rfl (ok_move rfl) ?_
    refine RunK.step rfl rfl (ok_build0own Tryd.underlying22 info5) ?_
    refine RunK.step rfl rfl ((OpOk.subL (E₁ := [(8, .v v8), (1000208, ownM w₀.heap.size v8 5 (hkT prk info s.1).length ((hkT prk info s.1).map byteV))]) (SubL.cons rfl (Le.refl _) (SubL.cons rfl (Le.old _ _) SubL.nil)) (ok_moveV (k := 1000208) (by decide) rfl rfl)).le (d' := byt (hkT prk info s.1)) (own_cat rfl rfl)) ?_
    refine RunK.nil ?_
    refine ⟨_, eff_appendS (vs := (hkT prk info s.1).map byteV) Tryd.underlying22 info5 (by decide) rfl rfl rfl (Le.eq (byt_vals _)) (by simp [byteV, Value.oneCell']) (by have := hkT_le (prk := prk) (info := info) s.1; simp; omega) (by decide) (fun g hg => (LeftS.cons (t := 0) rfl (Surv.old (by omega)) (LeftS.cons (t := 1) rfl (Surv.old (by omega)) (LeftS.cons (t := 2) rfl (Surv.v _) (LeftS.cons (t := 7) rfl (Surv.v _) (LeftS.cons (t := 8) rfl (Surv.v _) (LeftS.cons (t := 9) rfl (Surv.v _) (LeftS.cons (t := 14) rfl (Surv.v _) (LeftS.cons (t := 17) rfl (Surv.old (by omega)) (LeftS.cons (t := 1000207) rfl (Surv.old (by omega)) (LeftS.cons (t := 1000208) rfl (Surv.old (by omega)) LeftS.nil))))))))))), ?_⟩
    refine RunTK.eff 5 (by decide) rfl (.inl rfl) ?_
    refine RunK.step rfl rfl (ok_move rfl) ?_
    refine RunK.nil ?_
    refine ⟨_, eff_appendS (vs := info.map byteV) Tryd.underlying22 info5 (by decide) rfl rfl rfl ((Le.old _ _).trans ((Le.old _ _).trans (Le.eq (byt_vals info)))) (by simp [byteV, Value.oneCell']) (by have := hkT_le (prk := prk) (info := info) s.1; simp; omega) (by decide) (fun g hg => (LeftS.cons (t := 0) rfl (Surv.old (by omega)) (LeftS.cons (t := 1) rfl (Surv.old (by omega)) (LeftS.cons (t := 2) rfl (Surv.v _) (LeftS.cons (t := 7) rfl (Surv.v _) (LeftS.cons (t := 8) rfl (Surv.v _) (LeftS.cons (t := 9) rfl (Surv.v _) (LeftS.cons (t := 14) rfl (Surv.v _) (LeftS.cons (t := 17) rfl (Surv.old (by omega)) (LeftS.cons (t := 21) rfl (Surv.old (by omega)) (LeftS.cons (t := 1000207) rfl (Surv.old (by omega)) (LeftS.cons (t := 1000208) rfl (Surv.old (by omega)) LeftS.nil)))))))))))), ?_⟩
    refine RunTK.eff 9 (by decide) rfl (.inl rfl) ?_
    refine RunK.step rfl rfl (ok_move rfl) ?_
    refine RunK.step rfl rfl (ok_conv Tryd.underlying3 Tryd.underlying5 rfl) ?_; refine RunK.as (byteV (UInt8.ofNat (s.1 + 1))) (by rw [wrap_u8_nat]; rfl) ?_
    refine RunK.step rfl rfl (ok_build [byteD (UInt8.ofNat (s.1 + 1))] Tryd.underlying22 info5 rfl (by decide) (by decide) rfl ⟨rfl, rfl, trivial⟩ (fun d hd w x h => by simp only [List.mem_cons, List.not_mem_nil, or_false] at hd; rcases hd with rfl; exact v_one rfl h)) ?_
    refine RunK.nil ?_
    refine ⟨_, eff_appendS (vs := [byteV (UInt8.ofNat (s.1 + 1))]) Tryd.underlying22 info5 (by decide) rfl rfl rfl (le_lst _ _) (by simp [byteV, Value.oneCell']) (by have := hkT_le (prk := prk) (info := info) s.1; simp; omega) (by decide) (fun g hg => (LeftS.cons (t := 0) rfl (Surv.old (by omega)) (LeftS.cons (t := 1) rfl (Surv.old (by omega)) (LeftS.cons (t := 2) rfl (Surv.v _) (LeftS.cons (t := 7) rfl (Surv.v _) (LeftS.cons (t := 8) rfl (Surv.v _) (LeftS.cons (t := 9) rfl (Surv.v _) (LeftS.cons (t := 14) rfl (Surv.v _) (LeftS.cons (t := 17) rfl (Surv.old (by omega)) (LeftS.cons (t := 21) rfl (Surv.old (by omega)) (LeftS.cons (t := 23) rfl (Surv.v _) (LeftS.cons (t := 24) rfl (Surv.v _) (LeftS.cons (t := 1000207) rfl (Surv.old (by omega)) (LeftS.cons (t := 1000208) rfl (Surv.old (by omega)) LeftS.nil)))))))))))))), ?_⟩
    refine RunTK.new 11 (by decide) rfl (.inl rfl) ?_
    refine RunK.step rfl rfl (ok_call (ref3Sum_fn prk ((hkT prk info s.1) ++ info ++ [UInt8.ofNat (s.1 + 1)]) (by omega) (by have := hkT_le (prk := prk) (info := info) s.1; simp only [List.length_append, List.length_cons, List.length_nil]; omega)) (Args.cons rfl ((Le.old _ _).trans (Le.old _ _)) (Args.cons rfl (own_cat (by simp) (by simp; omega)) Args.nil))) ?_
    refine RunK.nil ?_
    refine ⟨_, _, eff_alloc (n := 37) (d := 10) (k := 1000010) zero25 (by decide), fun b10 hb10 => ?_⟩
    have hBb10 := hb10.1
    refine RunTK.eff 12 (by decide) rfl (.inl rfl) ?_
    refine RunK.nil ?_
    refine ⟨_, eff_storeA (n := 37) (s := 1000010) (size25.of (by rw [List.length_map, hmac_length])) rfl rfl (all_bytes _) hBb10 rfl (by rw [List.length_map, hmac_length, List.length_replicate]) (LeftS.cons (t := 0) rfl (Surv.old (by omega)) (LeftS.cons (t := 1) rfl (Surv.old (by omega)) (LeftS.cons (t := 2) rfl (Surv.v _) (LeftS.cons (t := 7) rfl (Surv.v _) (LeftS.cons (t := 8) rfl (Surv.v _) (LeftS.cons (t := 9) rfl (Surv.v _) (LeftS.cons (t := 10) rfl (Surv.v _) (LeftS.cons (t := 14) rfl (Surv.v _) (LeftS.cons (t := 17) rfl (Surv.old (by omega)) (LeftS.cons (t := 21) rfl (Surv.old (by omega)) (LeftS.cons (t := 23) rfl (Surv.v _) (LeftS.cons (t := 24) rfl (Surv.v _) (LeftS.cons (t := 26) rfl (Surv.own (by decide)) (LeftS.cons (t := 27) rfl (Surv.v _) (LeftS.cons (t := 1000207) rfl (Surv.old (by omega)) (LeftS.cons (t := 1000208) rfl (Surv.old (by omega)) LeftS.nil)))))))))))))))), ?_⟩
    refine RunTK.last ?_
    refine RunK.nil ?_
    refine A.sub (Sub.cons (t := 0) rfl (Sub.cons (t := 1) rfl (Sub.cons (t := 2) rfl (Sub.cons (t := 7) rfl (Sub.cons (t := 9) rfl (Sub.cons (t := 10) rfl (Sub.cons (t := 1000010) rfl (Sub.cons (t := 1000207) rfl (Sub.cons (t := 1000208) rfl Sub.nil))))))))) ?_
    refine A.subL (SubL.cons (t := 0) rfl (Le.old _ _) (SubL.cons (t := 1) rfl (Le.old _ _) (SubL.cons (t := 2) rfl (Le.refl _) (SubL.cons (t := 7) rfl (Le.refl _) (SubL.cons (t := 9) rfl (Le.refl _) (SubL.cons (t := 10) rfl (Le.refl _) (SubL.cons (t := 1000010) rfl (Le.refl _) (SubL.cons (t := 1000207) rfl (Le.old _ _) (SubL.cons (t := 1000208) rfl (Le.old _ _) SubL.nil))))))))) ?_
    refine A.regsG _ (fun B => (OldOf.p (t := 0) rfl (OldOf.p (t := 1) rfl (OldOf.v (t := 2) rfl (OldOf.v (t := 7) rfl (OldOf.v (t := 9) rfl (OldOf.v (t := 10) rfl (OldOf.p (t := 1000010) rfl (OldOf.p (t := 1000207) rfl (OldOf.p (t := 1000208) rfl OldOf.nil)))))))))) (by kernel_rfl) (by kernel_rfl) (.inl rfl) (fun B hB => ?_)
    refine RunTK.eff 2 (by decide) rfl (.inl rfl) ?_
    refine RunK.step rfl rfl (ok_build0own Tryd.underlying22 info5) ?_
    refine RunK.step rfl rfl ((OpOk.subL (E₁ := [(10, .v (.pointer (some ⟨b10, 0, none⟩))), (1000010, blk b10 25 ((hmac prk ((hkT prk info s.1) ++ info ++ [UInt8.ofNat (s.1 + 1)])).map byteV))]) (SubL.cons rfl (Le.refl _) (SubL.cons rfl (Le.old _ _) SubL.nil)) (ok_sliceA (s := 1000010) 0 32 (by decide) Tryd.underlying25 info5 rfl rfl (.inr ⟨rfl, rfl⟩) (.inr ⟨rfl, rfl⟩) (by omega) (by omega) (by rw [List.length_map, hmac_length]) (by decide))).le (d' := byt (hkT prk info (s.1 + 1))) (Le.eq (by rw [byt_vals]; congr 2 <;> rw [List.drop_zero, List.take_of_length_le (by rw [List.length_map, hmac_length]; exact Nat.le_refl _)] <;> rfl))) ?_
    refine RunK.nil ?_
    refine ⟨_, eff_appendS (vs := (hkT prk info (s.1 + 1)).map byteV) Tryd.underlying22 info5 (by decide) rfl rfl rfl (Le.eq (byt_vals _)) (by simp [byteV, Value.oneCell']) (by simp only [List.length_map, hkT_length]; omega) (by decide) (fun g hg => (LeftS.cons (t := 0) rfl (Surv.old (by omega)) (LeftS.cons (t := 1) rfl (Surv.old (by omega)) (LeftS.cons (t := 2) rfl (Surv.v _) (LeftS.cons (t := 7) rfl (Surv.v _) (LeftS.cons (t := 9) rfl (Surv.v _) (LeftS.cons (t := 10) rfl (Surv.v _) (LeftS.cons (t := 1000010) rfl (Surv.old (by omega)) (LeftS.cons (t := 1000207) rfl (Surv.old (by omega)) (LeftS.cons (t := 1000208) rfl (Surv.old (by omega)) LeftS.nil)))))))))), ?_⟩
    refine RunTK.last ?_
    refine RunK.step rfl rfl (ok_assign rfl) ?_
    refine RunK.nil ?_
    refine A.sub (Sub.cons (t := 0) rfl (Sub.cons (t := 1) rfl (Sub.cons (t := 2) rfl (Sub.cons (t := 7) rfl (Sub.cons (t := 8) rfl (Sub.cons (t := 9) rfl (Sub.cons (t := 1000010) rfl (Sub.cons (t := 1000207) rfl (Sub.cons (t := 1000208) rfl Sub.nil))))))))) ?_
    refine A.openVD (t := 8) (k := 1000208) (j := 1000207) rfl rfl fun v8a hd_v8a_v7 => ?_
    have hd_v7_v8a := hd_v8a_v7.symm
    refine A.subL (SubL.cons (t := 0) rfl (Le.old _ _) (SubL.cons (t := 1) rfl (Le.old _ _) (SubL.cons (t := 2) rfl (Le.refl _) (SubL.cons (t := 7) rfl (Le.refl _) (SubL.cons (t := 8) rfl (Le.refl _) (SubL.cons (t := 9) rfl (Le.refl _) (SubL.cons (t := 1000010) rfl (Le.old _ _) (SubL.cons (t := 1000207) rfl (Le.old _ _) (SubL.cons (t := 1000208) rfl (ownM_mono hB) SubL.nil))))))))) ?_
    refine A.reg (by kernel_rfl) (by kernel_rfl) (.inl rfl) ?_
    refine RunTK.newv 2 (by decide) rfl (.inl rfl) ?_
    refine RunK.step rfl rfl (ok_move rfl) ?_
    refine RunK.step rfl rfl ((ok_moveV (k := 1000208) (by decide) rfl rfl).le (d' := byt (hkT prk info (s.1 + 1))) (own_cat (by simp) (by simp))) ?_
    refine RunK.nil ?_
    refine ⟨_, _, eff_appendV (n := 37) (k := 1000207) (vs := (hkT prk info (s.1 + 1)).map byteV) Tryd.underlying22 info5 (by decide) rfl rfl rfl rfl (Le.eq (byt_vals _)) (by simp [byteV, Value.oneCell']) (by simp only [List.length_map, hkT_length]; omega) (by decide) (fun g hB hg => (LeftS.cons (t := 0) rfl (Surv.old (by omega)) (LeftS.cons (t := 1) rfl (Surv.old (by omega)) (LeftS.cons (t := 2) rfl (Surv.v _) (LeftS.cons (t := 7) rfl (Surv.v _) (LeftS.cons (t := 8) rfl (Surv.v _) (LeftS.cons (t := 9) rfl (Surv.v _) (LeftS.cons (t := 31) rfl (Surv.v _) (LeftS.cons (t := 1000010) rfl (Surv.blkT (by decide)) (LeftS.cons (t := 1000208) rfl (Surv.ownM (by rcases hg with hg | hg; exact hd_v7_v8a g hg; exact hg.2.2 1000208 _ _ _ _ _ rfl)) LeftS.nil)))))))))), fun v7a hv7a => ?_⟩
    have hd_v7a_v8a := Disj.step hv7a hd_v7_v8a (s := 1000208) rfl
    have hd_v8a_v7a := hd_v7a_v8a.symm
    refine RunTK.last ?_
    refine RunK.step rfl rfl (ok_assign rfl) ?_
    refine RunK.nil ?_
    refine End.sub (Sub.cons (t := 0) rfl (Sub.cons (t := 1) rfl (Sub.cons (t := 2) rfl (Sub.cons (t := 7) rfl (Sub.cons (t := 8) rfl (Sub.cons (t := 9) rfl (Sub.cons (t := 1000010) rfl (Sub.cons (t := 1000207) rfl (Sub.cons (t := 1000208) rfl Sub.nil))))))))) ?_
    refine End.normal_block ?_
    refine End.normal_then (End.code ?_)
    refine A.reg (by kernel_rfl) (by kernel_rfl) (.inl rfl) ?_
    refine RunTK.last ?_
    refine RunK.step rfl rfl (ok_move rfl) ?_
    refine RunK.step rfl rfl (ok_bin rfl rfl rfl) ?_; refine RunK.as (.int .i64 ((s.1 + 1 + 1 : Nat) : Int)) (by rw [wrap_i64 (by omega) (by omega)]; first | rfl | (congr 1; omega)) ?_
    refine RunK.step rfl rfl (ok_assign rfl) ?_
    refine RunK.nil ?_
    refine End.sub (Sub.cons (t := 0) rfl (Sub.cons (t := 1) rfl (Sub.cons (t := 2) rfl (Sub.cons (t := 7) rfl (Sub.cons (t := 8) rfl (Sub.cons (t := 9) rfl (Sub.cons (t := 1000010) rfl (Sub.cons (t := 1000207) rfl (Sub.cons (t := 1000208) rfl Sub.nil))))))))) ?_
    refine End.normal_then ?_
    refine End.again (s.1 + 1, v7a, v8a) ?_ ?_ ?_
    · exact ⟨by show 32 * (s.1 + 1) ≤ _; omega, hd_v7a_v8a⟩
    · show _ - _ < _ - _; omega
    · exact (Sub.cons (t := 0) rfl (Sub.cons (t := 1) rfl (Sub.cons (t := 2) rfl (Sub.cons (t := 7) rfl (Sub.cons (t := 8) rfl (Sub.cons (t := 9) rfl (Sub.eq (t := 1000207) _ rfl (by simp only [hkT_length, List.length_map, hkO, List.map_append]; rfl) (Sub.eq (t := 1000208) _ rfl (by simp) Sub.nil))))))))
  · have hge : n ≤ 32 * s.1 := by simp at hc14; omega
    refine A.exit ?_
    refine End.exit_then ?_
    refine End.exit_then ?_
    refine End.exit_here ?_
    refine End.normal_then (End.code ?_)
    refine A.regs (by kernel_rfl) (by kernel_rfl) (.inl rfl) ?_
    refine RunTK.last ?_
    refine RunK.step rfl rfl (ok_moveV (k := 1000207) (by decide) rfl rfl) ?_
    refine RunK.step rfl rfl (ok_move rfl) ?_
    refine RunK.step rfl rfl ((ok_sliceOwn Tryd.underlying22 info5 rfl rfl (by omega)).le (d' := own w₀.heap.size 5 n ((hkdf prk info n).map byteV)) (Le.eq (by rw [← List.map_take, hkO_hkdf (by omega)]))) ?_
    refine RunK.step rfl rfl (ok_assign rfl) ?_
    refine RunK.nil ?_
    refine A.sub (Sub.cons (t := 6) rfl (Sub.cons (t := 1000207) rfl (Sub.cons (t := 1000208) rfl Sub.nil))) ?_
    refine A.ret ?_
    exact End.ret1 rfl rfl (by first | exact Le.refl _ | exact Le.old _ _)
theorem zero37 : ZeroIs Tryd.prog 37 (List.replicate 16 (.int .u8 0)) := by unfold ZeroIs; kernel_rfl
theorem size37 : SizeIs Tryd.prog 37 16 := by unfold SizeIs; kernel_rfl
theorem zero36 : ZeroIs Tryd.prog 36 (List.replicate 32 (.int .u8 0)) := by unfold ZeroIs; kernel_rfl
theorem size36 : SizeIs Tryd.prog 36 32 := by unfold SizeIs; kernel_rfl
theorem map_getD8 {l : List UInt8} {i : Nat} (h : i < l.length) : (l.map byteD)[i]? = some (byteD (l.getD i 0)) := by
  rw [List.getElem?_map, List.getElem?_eq_getElem h, List.getD_eq_getElem?_getD, List.getElem?_eq_getElem h]; rfl
theorem getD_get {l : List UInt8} {i : Nat} (h : i < l.length) : l[i]? = some (l.getD i 0) := by
  rw [List.getElem?_eq_getElem h, List.getD_eq_getElem?_getD, List.getElem?_eq_getElem h]; rfl
set_option maxHeartbeats 1000000 in
theorem ref4Keys_fn (mk : List UInt8) (hmk : mk.length = 32) : Fn Tryd.prog 15 [.v (aggV (mk.map byteV))] (tup [.v (aggV ((hkdf (hmac [99, 97, 105, 115, 115, 111, 110] mk) [101, 110, 99, 114, 121, 112, 116] 16).map byteV)), .v (aggV ((hkdf (hmac [99, 97, 105, 115, 115, 111, 110] mk) [109, 97, 99] 32).map byteV))]) := by
  refine Fn.of Tryd.func15 rfl (by kernel_rfl) Tryd.ntmps15 (by simp) (fun w => [(0, .v (aggV (mk.map byteV)))]) (fun w => (Start.v rfl Start.nil)) fun w₀ => ?_
  refine A.regs (by kernel_rfl) (by kernel_rfl) (.inl rfl) ?_
  refine RunTK.new 0 (by decide) rfl (.inl rfl) ?_
  refine RunK.nil ?_
  refine ⟨_, _, eff_box (n := 45) (d := 1) (k := 1000001) rfl (by decide), fun b1 hb1 => ?_⟩
  have hBb1 := hb1.1
  refine RunTK.new 1 (by decide) rfl (.inl rfl) ?_
  refine RunK.nil ?_
  refine ⟨_, _, eff_alloc (n := 45) (d := 2) (k := 1000002) zero37 (by decide), fun b2 hb2 => ?_⟩
  have hBb2 := hb2.1
  have hlt_b1_b2 : b1 < b2 := hb2.2 1000001 _ _ _ rfl
  refine RunTK.new 2 (by decide) rfl (.inl rfl) ?_
  refine RunK.nil ?_
  refine ⟨_, _, eff_alloc (n := 45) (d := 3) (k := 1000003) zero36 (by decide), fun b3 hb3 => ?_⟩
  have hBb3 := hb3.1
  have hlt_b1_b3 : b1 < b3 := hb3.2 1000001 _ _ _ rfl
  have hlt_b2_b3 : b2 < b3 := hb3.2 1000002 _ _ _ rfl
  refine RunTK.last ?_
  refine RunK.nil ?_
  refine A.sub (Sub.cons (t := 1) rfl (Sub.cons (t := 2) rfl (Sub.cons (t := 3) rfl (Sub.cons (t := 1000001) rfl (Sub.cons (t := 1000002) rfl (Sub.cons (t := 1000003) rfl Sub.nil)))))) ?_
  refine A.regs (by kernel_rfl) (by kernel_rfl) (.inl rfl) ?_
  refine RunTK.eff 1 (by decide) rfl (.inl rfl) ?_
  refine RunK.step rfl rfl (ok_buildT [99, 97, 105, 115, 115, 111, 110] Tryd.underlying22 info5 rfl (by decide) (by decide) rfl ⟨rfl, rfl, rfl, rfl, rfl, rfl, rfl, rfl, rfl, rfl, rfl, rfl, rfl, rfl, trivial⟩) ?_
  refine RunK.nil ?_
  refine ⟨_, eff_convN (n := 45) Tryd.underlying22 Tryd.underlying5 rfl (by decide) (fun g hg => (LeftM.cons (t := 1) rfl (.of (Surv.v _)) (LeftM.cons (t := 2) rfl (.of (Surv.v _)) (LeftM.cons (t := 3) rfl (.of (Surv.v _)) (LeftM.cons (t := 11) rfl (.stb) (LeftM.cons (t := 1000001) rfl (.of (Surv.blkT (by decide))) (LeftM.cons (t := 1000002) rfl (.of (Surv.blkT (by decide))) (LeftM.cons (t := 1000003) rfl (.of (Surv.blkT (by decide))) LeftM.nil)))))))), ?_⟩
  refine RunTK.new 4 (by decide) rfl (.inl rfl) ?_
  refine RunK.step rfl rfl ((ok_sliceA (s := 1000001) 0 32 (by decide) Tryd.underlying36 info5 rfl rfl (.inr ⟨rfl, rfl⟩) (.inr ⟨rfl, rfl⟩) (by omega) (by omega) (by rw [List.length_map, hmk]) (by decide)).le (d' := byt mk) (Le.eq (by rw [byt_vals]; congr 2 <;> rw [List.drop_zero, List.take_of_length_le (by rw [List.length_map, hmk]; exact Nat.le_refl _)]))) ?_
  refine RunK.step rfl rfl (ok_call (ref3Sum_fn [99, 97, 105, 115, 115, 111, 110] mk (by simp) (by omega)) (Args.cons rfl newT_byt (Args.cons rfl (Le.refl _) Args.nil))) ?_
  refine RunK.nil ?_
  refine ⟨_, _, eff_alloc (n := 45) (d := 4) (k := 1000004) zero25 (by decide), fun b4 hb4 => ?_⟩
  have hBb4 := hb4.1
  have hlt_b1_b4 : b1 < b4 := hb4.2 1000001 _ _ _ rfl
  have hlt_b2_b4 : b2 < b4 := hb4.2 1000002 _ _ _ rfl
  have hlt_b3_b4 : b3 < b4 := hb4.2 1000003 _ _ _ rfl
  refine RunTK.eff 5 (by decide) rfl (.inl rfl) ?_
  refine RunK.nil ?_
  refine ⟨_, eff_storeA (n := 45) (s := 1000004) (size25.of (by rw [List.length_map, hmac_length])) rfl rfl (all_bytes _) hBb4 rfl (by rw [List.length_map, hmac_length, List.length_replicate]) (LeftS.cons (t := 1) rfl (Surv.v _) (LeftS.cons (t := 2) rfl (Surv.v _) (LeftS.cons (t := 3) rfl (Surv.v _) (LeftS.cons (t := 4) rfl (Surv.v _) (LeftS.cons (t := 11) rfl (Surv.newT (by decide)) (LeftS.cons (t := 12) rfl (Surv.newT (by decide)) (LeftS.cons (t := 14) rfl (Surv.v _) (LeftS.cons (t := 1000001) rfl (Surv.blkT (by decide)) (LeftS.cons (t := 1000002) rfl (Surv.blkT (by decide)) (LeftS.cons (t := 1000003) rfl (Surv.blkT (by decide)) LeftS.nil)))))))))), ?_⟩
  refine RunTK.last ?_
  refine RunK.nil ?_
  refine A.sub (Sub.cons (t := 2) rfl (Sub.cons (t := 3) rfl (Sub.cons (t := 4) rfl (Sub.cons (t := 1000001) rfl (Sub.cons (t := 1000002) rfl (Sub.cons (t := 1000003) rfl (Sub.cons (t := 1000004) rfl Sub.nil))))))) ?_
  refine A.regs (by kernel_rfl) (by kernel_rfl) (.inl rfl) ?_
  refine RunTK.new 0 (by decide) rfl (.inl rfl) ?_
  refine RunK.nil ?_
  refine ⟨_, _, eff_alloc (n := 45) (d := 5) (k := 1000005) zero37 (by decide), fun b5 hb5 => ?_⟩
  have hBb5 := hb5.1
  have hlt_b1_b5 : b1 < b5 := hb5.2 1000001 _ _ _ rfl
  have hlt_b2_b5 : b2 < b5 := hb5.2 1000002 _ _ _ rfl
  have hlt_b3_b5 : b3 < b5 := hb5.2 1000003 _ _ _ rfl
  have hlt_b4_b5 : b4 < b5 := hb5.2 1000004 _ _ _ rfl
  refine RunTK.last ?_
  refine RunK.nil ?_
  refine A.sub (Sub.cons (t := 2) rfl (Sub.cons (t := 3) rfl (Sub.cons (t := 4) rfl (Sub.cons (t := 5) rfl (Sub.cons (t := 1000001) rfl (Sub.cons (t := 1000002) rfl (Sub.cons (t := 1000003) rfl (Sub.cons (t := 1000004) rfl (Sub.cons (t := 1000005) rfl Sub.nil))))))))) ?_
  refine A.regs (by kernel_rfl) (by kernel_rfl) (.inl rfl) ?_
  refine RunTK.new 0 (by decide) rfl (.inl rfl) ?_
  refine RunK.nil ?_
  refine ⟨_, _, eff_alloc (n := 45) (d := 6) (k := 1000006) zero36 (by decide), fun b6 hb6 => ?_⟩
  have hBb6 := hb6.1
  have hlt_b1_b6 : b1 < b6 := hb6.2 1000001 _ _ _ rfl
  have hlt_b2_b6 : b2 < b6 := hb6.2 1000002 _ _ _ rfl
  have hlt_b3_b6 : b3 < b6 := hb6.2 1000003 _ _ _ rfl
  have hlt_b4_b6 : b4 < b6 := hb6.2 1000004 _ _ _ rfl
  have hlt_b5_b6 : b5 < b6 := hb6.2 1000005 _ _ _ rfl
  refine RunTK.last ?_
  refine RunK.nil ?_
  refine A.sub (Sub.cons (t := 2) rfl (Sub.cons (t := 3) rfl (Sub.cons (t := 4) rfl (Sub.cons (t := 5) rfl (Sub.cons (t := 6) rfl (Sub.cons (t := 1000001) rfl (Sub.cons (t := 1000002) rfl (Sub.cons (t := 1000003) rfl (Sub.cons (t := 1000004) rfl (Sub.cons (t := 1000005) rfl (Sub.cons (t := 1000006) rfl Sub.nil))))))))))) ?_
  refine A.regsG _ (fun B => (OldOf.v (t := 2) rfl (OldOf.v (t := 3) rfl (OldOf.v (t := 4) rfl (OldOf.v (t := 5) rfl (OldOf.v (t := 6) rfl (OldOf.p (t := 1000001) rfl (OldOf.p (t := 1000002) rfl (OldOf.p (t := 1000003) rfl (OldOf.p (t := 1000004) rfl (OldOf.p (t := 1000005) rfl (OldOf.p (t := 1000006) rfl OldOf.nil)))))))))))) (by kernel_rfl) (by kernel_rfl) (.inl rfl) (fun B hB => ?_)
  refine RunTK.eff 2 (by decide) rfl (.inl rfl) ?_
  refine RunK.step rfl rfl ((OpOk.subL (E₁ := [(4, .v (.pointer (some ⟨b4, 0, none⟩))), (1000004, blk b4 25 ((hmac [99, 97, 105, 115, 115, 111, 110] mk).map byteV))]) (SubL.cons rfl (Le.refl _) (SubL.cons rfl (Le.old _ _) SubL.nil)) (ok_sliceA (s := 1000004) 0 32 (by decide) Tryd.underlying25 info5 rfl rfl (.inr ⟨rfl, rfl⟩) (.inr ⟨rfl, rfl⟩) (by omega) (by omega) (by rw [List.length_map, hmac_length]) (by decide))).le (d' := byt (hmac [99, 97, 105, 115, 115, 111, 110] mk)) (Le.eq (by rw [byt_vals]; congr 2 <;> rw [List.drop_zero, List.take_of_length_le (by rw [List.length_map, hmac_length]; exact Nat.le_refl _)]))) ?_
  refine RunK.step rfl rfl (ok_buildT [101, 110, 99, 114, 121, 112, 116] Tryd.underlying22 info5 rfl (by decide) (by decide) rfl ⟨rfl, rfl, rfl, rfl, rfl, rfl, rfl, rfl, rfl, rfl, rfl, rfl, rfl, rfl, trivial⟩) ?_
  refine RunK.nil ?_
  refine ⟨_, eff_convN (n := 45) Tryd.underlying22 Tryd.underlying5 rfl (by decide) (fun g hg => (LeftM.cons (t := 2) rfl (.of (Surv.v _)) (LeftM.cons (t := 3) rfl (.of (Surv.v _)) (LeftM.cons (t := 4) rfl (.of (Surv.v _)) (LeftM.cons (t := 5) rfl (.of (Surv.v _)) (LeftM.cons (t := 6) rfl (.of (Surv.v _)) (LeftM.cons (t := 15) rfl (.stb) (LeftM.cons (t := 16) rfl (.stb) (LeftM.cons (t := 1000001) rfl (.of (Surv.old (by omega))) (LeftM.cons (t := 1000002) rfl (.of (Surv.old (by omega))) (LeftM.cons (t := 1000003) rfl (.of (Surv.old (by omega))) (LeftM.cons (t := 1000004) rfl (.of (Surv.old (by omega))) (LeftM.cons (t := 1000005) rfl (.of (Surv.old (by omega))) (LeftM.cons (t := 1000006) rfl (.of (Surv.old (by omega))) LeftM.nil)))))))))))))), ?_⟩
  refine RunTK.last ?_
  refine RunK.step rfl rfl ((ok_callB (ref4Expand_fn (hmac [99, 97, 105, 115, 115, 111, 110] mk) [101, 110, 99, 114, 121, 112, 116] 16 (by rw [hmac_length]; decide) (by simp) (by decide)) (fun _ _ h => own_mono h) (Args.cons rfl (Le.refl _) (Args.cons rfl newT_byt (Args.cons rfl (Le.refl _) Args.nil)))).le (own_mono hB)) ?_
  refine RunK.step rfl rfl (ok_assign rfl) ?_
  refine RunK.nil ?_
  refine A.sub (Sub.cons (t := 2) rfl (Sub.cons (t := 3) rfl (Sub.cons (t := 4) rfl (Sub.cons (t := 5) rfl (Sub.cons (t := 6) rfl (Sub.cons (t := 7) rfl (Sub.cons (t := 1000001) rfl (Sub.cons (t := 1000002) rfl (Sub.cons (t := 1000003) rfl (Sub.cons (t := 1000004) rfl (Sub.cons (t := 1000005) rfl (Sub.cons (t := 1000006) rfl Sub.nil)))))))))))) ?_
  refine A.subL (SubL.cons (t := 2) rfl (Le.refl _) (SubL.cons (t := 3) rfl (Le.refl _) (SubL.cons (t := 4) rfl (Le.refl _) (SubL.cons (t := 5) rfl (Le.refl _) (SubL.cons (t := 6) rfl (Le.refl _) (SubL.cons (t := 7) rfl (Le.refl _) (SubL.cons (t := 1000001) rfl (Le.old _ _) (SubL.cons (t := 1000002) rfl (Le.old _ _) (SubL.cons (t := 1000003) rfl (Le.old _ _) (SubL.cons (t := 1000004) rfl (Le.old _ _) (SubL.cons (t := 1000005) rfl (Le.old _ _) (SubL.cons (t := 1000006) rfl (Le.old _ _) SubL.nil)))))))))))) ?_
  refine A.regsG _ (fun B => (OldOf.v (t := 2) rfl (OldOf.v (t := 3) rfl (OldOf.v (t := 4) rfl (OldOf.v (t := 5) rfl (OldOf.v (t := 6) rfl (OldOf.p (t := 7) rfl (OldOf.p (t := 1000001) rfl (OldOf.p (t := 1000002) rfl (OldOf.p (t := 1000003) rfl (OldOf.p (t := 1000004) rfl (OldOf.p (t := 1000005) rfl (OldOf.p (t := 1000006) rfl OldOf.nil))))))))))))) (by kernel_rfl) (by kernel_rfl) (.inl rfl) (fun B hB => ?_)
  refine RunTK.eff 2 (by decide) rfl (.inl rfl) ?_
  refine RunK.step rfl rfl ((OpOk.subL (E₁ := [(4, .v (.pointer (some ⟨b4, 0, none⟩))), (1000004, blk b4 25 ((hmac [99, 97, 105, 115, 115, 111, 110] mk).map byteV))]) (SubL.cons rfl (Le.refl _) (SubL.cons rfl (Le.old _ _) SubL.nil)) (ok_sliceA (s := 1000004) 0 32 (by decide) Tryd.underlying25 info5 rfl rfl (.inr ⟨rfl, rfl⟩) (.inr ⟨rfl, rfl⟩) (by omega) (by omega) (by rw [List.length_map, hmac_length]) (by decide))).le (d' := byt (hmac [99, 97, 105, 115, 115, 111, 110] mk)) (Le.eq (by rw [byt_vals]; congr 2 <;> rw [List.drop_zero, List.take_of_length_le (by rw [List.length_map, hmac_length]; exact Nat.le_refl _)]))) ?_
  refine RunK.step rfl rfl (ok_buildT [109, 97, 99] Tryd.underlying22 info5 rfl (by decide) (by decide) rfl ⟨rfl, rfl, rfl, rfl, rfl, rfl, trivial⟩) ?_
  refine RunK.nil ?_
  refine ⟨_, eff_convN (n := 45) Tryd.underlying22 Tryd.underlying5 rfl (by decide) (fun g hg => (LeftM.cons (t := 2) rfl (.of (Surv.v _)) (LeftM.cons (t := 3) rfl (.of (Surv.v _)) (LeftM.cons (t := 4) rfl (.of (Surv.v _)) (LeftM.cons (t := 5) rfl (.of (Surv.v _)) (LeftM.cons (t := 6) rfl (.of (Surv.v _)) (LeftM.cons (t := 7) rfl (.of (Surv.old (by omega))) (LeftM.cons (t := 19) rfl (.stb) (LeftM.cons (t := 20) rfl (.stb) (LeftM.cons (t := 1000001) rfl (.of (Surv.old (by omega))) (LeftM.cons (t := 1000002) rfl (.of (Surv.old (by omega))) (LeftM.cons (t := 1000003) rfl (.of (Surv.old (by omega))) (LeftM.cons (t := 1000004) rfl (.of (Surv.old (by omega))) (LeftM.cons (t := 1000005) rfl (.of (Surv.old (by omega))) (LeftM.cons (t := 1000006) rfl (.of (Surv.old (by omega))) LeftM.nil))))))))))))))), ?_⟩
  refine RunTK.last ?_
  refine RunK.step rfl rfl ((ok_callB (ref4Expand_fn (hmac [99, 97, 105, 115, 115, 111, 110] mk) [109, 97, 99] 32 (by rw [hmac_length]; decide) (by simp) (by decide)) (fun _ _ h => own_mono h) (Args.cons rfl (Le.refl _) (Args.cons rfl newT_byt (Args.cons rfl (Le.refl _) Args.nil)))).le (own_mono hB)) ?_
  refine RunK.step rfl rfl (ok_assign rfl) ?_
  refine RunK.nil ?_
  refine A.sub (Sub.cons (t := 2) rfl (Sub.cons (t := 3) rfl (Sub.cons (t := 5) rfl (Sub.cons (t := 6) rfl (Sub.cons (t := 7) rfl (Sub.cons (t := 8) rfl (Sub.cons (t := 1000001) rfl (Sub.cons (t := 1000002) rfl (Sub.cons (t := 1000003) rfl (Sub.cons (t := 1000004) rfl (Sub.cons (t := 1000005) rfl (Sub.cons (t := 1000006) rfl Sub.nil)))))))))))) ?_
  refine A.subL (SubL.cons (t := 2) rfl (Le.refl _) (SubL.cons (t := 3) rfl (Le.refl _) (SubL.cons (t := 5) rfl (Le.refl _) (SubL.cons (t := 6) rfl (Le.refl _) (SubL.cons (t := 7) rfl (Le.old _ _) (SubL.cons (t := 8) rfl (Le.refl _) (SubL.cons (t := 1000001) rfl (Le.old _ _) (SubL.cons (t := 1000002) rfl (Le.old _ _) (SubL.cons (t := 1000003) rfl (Le.old _ _) (SubL.cons (t := 1000004) rfl (Le.old _ _) (SubL.cons (t := 1000005) rfl (Le.old _ _) (SubL.cons (t := 1000006) rfl (Le.old _ _) SubL.nil)))))))))))) ?_
  refine A.seq ?_
  refine A.regs (by kernel_rfl) (by kernel_rfl) (.inl rfl) ?_
  refine RunTK.last ?_
  refine RunK.step rfl rfl (ok_assign rfl) ?_
  refine RunK.nil ?_
  refine A.sub (Sub.cons (t := 2) rfl (Sub.cons (t := 3) rfl (Sub.cons (t := 5) rfl (Sub.cons (t := 6) rfl (Sub.cons (t := 7) rfl (Sub.cons (t := 8) rfl (Sub.cons (t := 9) rfl (Sub.cons (t := 1000001) rfl (Sub.cons (t := 1000002) rfl (Sub.cons (t := 1000003) rfl (Sub.cons (t := 1000004) rfl (Sub.cons (t := 1000005) rfl (Sub.cons (t := 1000006) rfl Sub.nil))))))))))))) ?_
  refine A.block ?_
  refine A.loop (ι := Nat) (fun i => i ≤ 16) (fun i => [(2, .v (.pointer (some ⟨b2, 0, none⟩))), (3, .v (.pointer (some ⟨b3, 0, none⟩))), (5, .v (.pointer (some ⟨b5, 0, none⟩))), (6, .v (.pointer (some ⟨b6, 0, none⟩))), (7, own w₀.heap.size 5 16 ((hkdf (hmac [99, 97, 105, 115, 115, 111, 110] mk) [101, 110, 99, 114, 121, 112, 116] 16).map byteV)), (8, own w₀.heap.size 5 32 ((hkdf (hmac [99, 97, 105, 115, 115, 111, 110] mk) [109, 97, 99] 32).map byteV)), (9, .v (.int .i64 ((i : Nat) : Int))), (1000002, blk b2 37 (List.replicate 16 (.int .u8 0))), (1000003, blk b3 36 (List.replicate 32 (.int .u8 0))), (1000005, blk b5 37 ((((hkdf (hmac [99, 97, 105, 115, 115, 111, 110] mk) [101, 110, 99, 114, 121, 112, 116] 16)).take i).map byteV ++ List.replicate ((hkdf (hmac [99, 97, 105, 115, 115, 111, 110] mk) [101, 110, 99, 114, 121, 112, 116] 16).length - i) (.int .u8 0))), (1000006, blk b6 36 (List.replicate 32 (.int .u8 0)))]) (fun i => 16 - i) 0 ?_ ?_ ?_
  · exact Nat.zero_le _
  · exact (Sub.cons (t := 2) rfl (Sub.cons (t := 3) rfl (Sub.cons (t := 5) rfl (Sub.cons (t := 6) rfl (Sub.cons (t := 7) rfl (Sub.cons (t := 8) rfl (Sub.cons (t := 9) rfl (Sub.cons (t := 1000002) rfl (Sub.cons (t := 1000003) rfl (Sub.eq (t := 1000005) _ rfl (by simp [hkdf_length]) (Sub.cons (t := 1000006) rfl Sub.nil)))))))))))
  intro i hi
  refine A.seq ?_
  refine A.regs (by kernel_rfl) (by kernel_rfl) (.inl rfl) ?_
  refine RunTK.last ?_
  refine RunK.step rfl rfl (ok_move rfl) ?_
  refine RunK.step rfl rfl (ok_bin rfl rfl rfl) ?_
  refine RunK.nil ?_
  refine A.sub (Sub.cons (t := 2) rfl (Sub.cons (t := 3) rfl (Sub.cons (t := 5) rfl (Sub.cons (t := 6) rfl (Sub.cons (t := 7) rfl (Sub.cons (t := 8) rfl (Sub.cons (t := 9) rfl (Sub.cons (t := 24) rfl (Sub.cons (t := 1000002) rfl (Sub.cons (t := 1000003) rfl (Sub.cons (t := 1000005) rfl (Sub.cons (t := 1000006) rfl Sub.nil)))))))))))) ?_
  refine A.cond rfl (fun hc24 => ?_) (fun hc24 => ?_)
  · have hlt : i < 16 := by simp at hc24; omega
    refine A.skip ?_
    refine End.normal_then (End.code ?_)
    refine A.seq ?_
    refine A.block ?_
    refine A.reg (by kernel_rfl) (by kernel_rfl) (.inl rfl) ?_
    refine RunTK.eff 6 (by decide) rfl (.inl rfl) ?_
    refine RunK.step rfl rfl (ok_move rfl) ?_
    refine RunK.step rfl rfl (ok_move rfl) ?_
    refine RunK.step rfl rfl (ok_move rfl) ?_
    refine RunK.step rfl rfl (ok_index (d := byteD ((hkdf (hmac [99, 97, 105, 115, 115, 111, 110] mk) [101, 110, 99, 114, 121, 112, 116] 16).getD i 0)) Tryd.underlying22 info5 rfl (own_cat rfl (hkdf_length _).symm) rfl (by omega) (by rw [Int.toNat_natCast, map_getD8 (by rw [hkdf_length]; exact hlt)])) ?_
    refine RunK.step rfl rfl (ok_load Tryd.underlying5 rfl rfl) ?_
    refine RunK.step rfl rfl (ok_index0 _ Tryd.underlying37 info5 rfl rfl (rfl) (by omega)) ?_
    refine RunK.nil ?_
    refine ⟨_, eff_storeS (n := 45) (s := 1000005) info5 rfl rfl rfl hBb5 rfl (by simp [hkdf_length]; omega) (LeftS.cons (t := 2) rfl (Surv.v _) (LeftS.cons (t := 3) rfl (Surv.v _) (LeftS.cons (t := 5) rfl (Surv.v _) (LeftS.cons (t := 6) rfl (Surv.v _) (LeftS.cons (t := 7) rfl (Surv.own (by decide)) (LeftS.cons (t := 8) rfl (Surv.own (by decide)) (LeftS.cons (t := 9) rfl (Surv.v _) (LeftS.cons (t := 24) rfl (Surv.v _) (LeftS.cons (t := 27) rfl (Surv.v _) (LeftS.cons (t := 28) rfl (Surv.own (by decide)) (LeftS.cons (t := 29) rfl (Surv.v _) (LeftS.cons (t := 31) rfl (Surv.v _) (LeftS.cons (t := 32) rfl (Surv.v _) (LeftS.cons (t := 1000002) rfl (Surv.blk (by omega)) (LeftS.cons (t := 1000003) rfl (Surv.blkT (by decide)) (LeftS.cons (t := 1000006) rfl (Surv.blkT (by decide)) LeftS.nil)))))))))))))))), ?_⟩
    refine RunTK.last ?_
    refine RunK.nil ?_
    refine End.sub (Sub.cons (t := 2) rfl (Sub.cons (t := 3) rfl (Sub.cons (t := 5) rfl (Sub.cons (t := 6) rfl (Sub.cons (t := 7) rfl (Sub.cons (t := 8) rfl (Sub.cons (t := 9) rfl (Sub.cons (t := 1000002) rfl (Sub.cons (t := 1000003) rfl (Sub.eq (t := 1000005) _ rfl (show blk b5 37 _ = blk b5 37 ((((hkdf (hmac [99, 97, 105, 115, 115, 111, 110] mk) [101, 110, 99, 114, 121, 112, 116] 16)).take (i + 1)).map byteV ++ List.replicate ((hkdf (hmac [99, 97, 105, 115, 115, 111, 110] mk) [101, 110, 99, 114, 121, 112, 116] 16).length - (i + 1)) (.int .u8 0)) from congrArg _ (by rw [fill_step (getD_get (l := (hkdf (hmac [99, 97, 105, 115, 115, 111, 110] mk) [101, 110, 99, 114, 121, 112, 116] 16)) (by rw [hkdf_length]; exact hlt))])) (Sub.cons (t := 1000006) rfl Sub.nil))))))))))) ?_
    refine End.normal_block ?_
    refine End.normal_then (End.code ?_)
    refine A.reg (by kernel_rfl) (by kernel_rfl) (.inl rfl) ?_
    refine RunTK.last ?_
    refine RunK.step rfl rfl (ok_move rfl) ?_
    refine RunK.step rfl rfl (ok_bin rfl rfl rfl) ?_; refine RunK.as (.int .i64 ((i + 1 : Nat) : Int)) (by rw [wrap_i64 (by omega) (by omega)]; first | rfl | (congr 1; omega)) ?_
    refine RunK.step rfl rfl (ok_assign rfl) ?_
    refine RunK.nil ?_
    refine End.sub (Sub.cons (t := 2) rfl (Sub.cons (t := 3) rfl (Sub.cons (t := 5) rfl (Sub.cons (t := 6) rfl (Sub.cons (t := 7) rfl (Sub.cons (t := 8) rfl (Sub.cons (t := 9) rfl (Sub.cons (t := 1000002) rfl (Sub.cons (t := 1000003) rfl (Sub.cons (t := 1000005) rfl (Sub.cons (t := 1000006) rfl Sub.nil))))))))))) ?_
    refine End.normal_then ?_
    refine End.again (i + 1) ?_ ?_ ?_
    · show _ ≤ _; omega
    · show _ - _ < _ - _; omega
    · exact (Sub.cons (t := 2) rfl (Sub.cons (t := 3) rfl (Sub.cons (t := 5) rfl (Sub.cons (t := 6) rfl (Sub.cons (t := 7) rfl (Sub.cons (t := 8) rfl (Sub.cons (t := 9) rfl (Sub.cons (t := 1000002) rfl (Sub.cons (t := 1000003) rfl (Sub.cons (t := 1000005) rfl (Sub.cons (t := 1000006) rfl Sub.nil)))))))))))
  · obtain rfl : i = 16 := by simp at hc24; omega
    refine A.exit ?_
    refine End.exit_then ?_
    refine End.exit_then ?_
    refine End.exit_here ?_
    refine End.normal_then (End.code ?_)
    refine A.seq ?_
    refine A.regs (by kernel_rfl) (by kernel_rfl) (.inl rfl) ?_
    refine RunTK.last ?_
    refine RunK.step rfl rfl (ok_assign rfl) ?_
    refine RunK.nil ?_
    refine A.sub (Sub.cons (t := 2) rfl (Sub.cons (t := 3) rfl (Sub.cons (t := 5) rfl (Sub.cons (t := 6) rfl (Sub.cons (t := 8) rfl (Sub.cons (t := 10) rfl (Sub.cons (t := 1000002) rfl (Sub.cons (t := 1000003) rfl (Sub.cons (t := 1000005) rfl (Sub.cons (t := 1000006) rfl Sub.nil)))))))))) ?_
    refine A.block ?_
    refine A.loop (ι := Nat) (fun i => i ≤ 32) (fun i => [(2, .v (.pointer (some ⟨b2, 0, none⟩))), (3, .v (.pointer (some ⟨b3, 0, none⟩))), (5, .v (.pointer (some ⟨b5, 0, none⟩))), (6, .v (.pointer (some ⟨b6, 0, none⟩))), (8, own w₀.heap.size 5 32 ((hkdf (hmac [99, 97, 105, 115, 115, 111, 110] mk) [109, 97, 99] 32).map byteV)), (10, .v (.int .i64 ((i : Nat) : Int))), (1000002, blk b2 37 (List.replicate 16 (.int .u8 0))), (1000003, blk b3 36 (List.replicate 32 (.int .u8 0))), (1000005, blk b5 37 ((hkdf (hmac [99, 97, 105, 115, 115, 111, 110] mk) [101, 110, 99, 114, 121, 112, 116] 16).map byteV)), (1000006, blk b6 36 ((((hkdf (hmac [99, 97, 105, 115, 115, 111, 110] mk) [109, 97, 99] 32)).take i).map byteV ++ List.replicate ((hkdf (hmac [99, 97, 105, 115, 115, 111, 110] mk) [109, 97, 99] 32).length - i) (.int .u8 0)))]) (fun i => 32 - i) 0 ?_ ?_ ?_
    · exact Nat.zero_le _
    · exact (Sub.cons (t := 2) rfl (Sub.cons (t := 3) rfl (Sub.cons (t := 5) rfl (Sub.cons (t := 6) rfl (Sub.cons (t := 8) rfl (Sub.cons (t := 10) rfl (Sub.cons (t := 1000002) rfl (Sub.cons (t := 1000003) rfl (Sub.eq (t := 1000005) _ rfl (by simp [hkdf_length, List.take_of_length_le]) (Sub.eq (t := 1000006) _ rfl (by simp [hkdf_length]) Sub.nil))))))))))
    intro i hi
    refine A.seq ?_
    refine A.regs (by kernel_rfl) (by kernel_rfl) (.inl rfl) ?_
    refine RunTK.last ?_
    refine RunK.step rfl rfl (ok_move rfl) ?_
    refine RunK.step rfl rfl (ok_bin rfl rfl rfl) ?_
    refine RunK.nil ?_
    refine A.sub (Sub.cons (t := 2) rfl (Sub.cons (t := 3) rfl (Sub.cons (t := 5) rfl (Sub.cons (t := 6) rfl (Sub.cons (t := 8) rfl (Sub.cons (t := 10) rfl (Sub.cons (t := 34) rfl (Sub.cons (t := 1000002) rfl (Sub.cons (t := 1000003) rfl (Sub.cons (t := 1000005) rfl (Sub.cons (t := 1000006) rfl Sub.nil))))))))))) ?_
    refine A.cond rfl (fun hc34 => ?_) (fun hc34 => ?_)
    · have hlt : i < 32 := by simp at hc34; omega
      refine A.skip ?_
      refine End.normal_then (End.code ?_)
      refine A.seq ?_
      refine A.block ?_
      refine A.reg (by kernel_rfl) (by kernel_rfl) (.inl rfl) ?_
      refine RunTK.eff 6 (by decide) rfl (.inl rfl) ?_
      refine RunK.step rfl rfl (ok_move rfl) ?_
      refine RunK.step rfl rfl (ok_move rfl) ?_
      refine RunK.step rfl rfl (ok_move rfl) ?_
      refine RunK.step rfl rfl (ok_index (d := byteD ((hkdf (hmac [99, 97, 105, 115, 115, 111, 110] mk) [109, 97, 99] 32).getD i 0)) Tryd.underlying22 info5 rfl (own_cat rfl (hkdf_length _).symm) rfl (by omega) (by rw [Int.toNat_natCast, map_getD8 (by rw [hkdf_length]; exact hlt)])) ?_
      refine RunK.step rfl rfl (ok_load Tryd.underlying5 rfl rfl) ?_
      refine RunK.step rfl rfl (ok_index0 _ Tryd.underlying36 info5 rfl rfl (rfl) (by omega)) ?_
      refine RunK.nil ?_
      refine ⟨_, eff_storeS (n := 45) (s := 1000006) info5 rfl rfl rfl hBb6 rfl (by simp [hkdf_length]; omega) (LeftS.cons (t := 2) rfl (Surv.v _) (LeftS.cons (t := 3) rfl (Surv.v _) (LeftS.cons (t := 5) rfl (Surv.v _) (LeftS.cons (t := 6) rfl (Surv.v _) (LeftS.cons (t := 8) rfl (Surv.own (by decide)) (LeftS.cons (t := 10) rfl (Surv.v _) (LeftS.cons (t := 34) rfl (Surv.v _) (LeftS.cons (t := 37) rfl (Surv.v _) (LeftS.cons (t := 38) rfl (Surv.own (by decide)) (LeftS.cons (t := 39) rfl (Surv.v _) (LeftS.cons (t := 41) rfl (Surv.v _) (LeftS.cons (t := 42) rfl (Surv.v _) (LeftS.cons (t := 1000002) rfl (Surv.blkT (by decide)) (LeftS.cons (t := 1000003) rfl (Surv.blk (by omega)) (LeftS.cons (t := 1000005) rfl (Surv.blkT (by decide)) LeftS.nil))))))))))))))), ?_⟩
      refine RunTK.last ?_
      refine RunK.nil ?_
      refine End.sub (Sub.cons (t := 2) rfl (Sub.cons (t := 3) rfl (Sub.cons (t := 5) rfl (Sub.cons (t := 6) rfl (Sub.cons (t := 8) rfl (Sub.cons (t := 10) rfl (Sub.cons (t := 1000002) rfl (Sub.cons (t := 1000003) rfl (Sub.cons (t := 1000005) rfl (Sub.eq (t := 1000006) _ rfl (show blk b6 36 _ = blk b6 36 ((((hkdf (hmac [99, 97, 105, 115, 115, 111, 110] mk) [109, 97, 99] 32)).take (i + 1)).map byteV ++ List.replicate ((hkdf (hmac [99, 97, 105, 115, 115, 111, 110] mk) [109, 97, 99] 32).length - (i + 1)) (.int .u8 0)) from congrArg _ (by rw [fill_step (getD_get (l := (hkdf (hmac [99, 97, 105, 115, 115, 111, 110] mk) [109, 97, 99] 32)) (by rw [hkdf_length]; exact hlt))])) Sub.nil)))))))))) ?_
      refine End.normal_block ?_
      refine End.normal_then (End.code ?_)
      refine A.reg (by kernel_rfl) (by kernel_rfl) (.inl rfl) ?_
      refine RunTK.last ?_
      refine RunK.step rfl rfl (ok_move rfl) ?_
      refine RunK.step rfl rfl (ok_bin rfl rfl rfl) ?_; refine RunK.as (.int .i64 ((i + 1 : Nat) : Int)) (by rw [wrap_i64 (by omega) (by omega)]; first | rfl | (congr 1; omega)) ?_
      refine RunK.step rfl rfl (ok_assign rfl) ?_
      refine RunK.nil ?_
      refine End.sub (Sub.cons (t := 2) rfl (Sub.cons (t := 3) rfl (Sub.cons (t := 5) rfl (Sub.cons (t := 6) rfl (Sub.cons (t := 8) rfl (Sub.cons (t := 10) rfl (Sub.cons (t := 1000002) rfl (Sub.cons (t := 1000003) rfl (Sub.cons (t := 1000005) rfl (Sub.cons (t := 1000006) rfl Sub.nil)))))))))) ?_
      refine End.normal_then ?_
      refine End.again (i + 1) ?_ ?_ ?_
      · show _ ≤ _; omega
      · show _ - _ < _ - _; omega
      · exact (Sub.cons (t := 2) rfl (Sub.cons (t := 3) rfl (Sub.cons (t := 5) rfl (Sub.cons (t := 6) rfl (Sub.cons (t := 8) rfl (Sub.cons (t := 10) rfl (Sub.cons (t := 1000002) rfl (Sub.cons (t := 1000003) rfl (Sub.cons (t := 1000005) rfl (Sub.cons (t := 1000006) rfl Sub.nil))))))))))
    · obtain rfl : i = 32 := by simp at hc34; omega
      rw [show ((((hkdf (hmac [99, 97, 105, 115, 115, 111, 110] mk) [109, 97, 99] 32)).take 32).map byteV ++ List.replicate ((hkdf (hmac [99, 97, 105, 115, 115, 111, 110] mk) [109, 97, 99] 32).length - 32) (.int .u8 0)) = (hkdf (hmac [99, 97, 105, 115, 115, 111, 110] mk) [109, 97, 99] 32).map byteV from by simp [hkdf_length, List.take_of_length_le]]
      refine A.exit ?_
      refine End.exit_then ?_
      refine End.exit_then ?_
      refine End.exit_here ?_
      refine End.normal_then (End.code ?_)
      refine A.regsE (by kernel_rfl) ?_
      refine AnyT.step 0 [1] (by kernel_rfl) ?_
      refine NextT.pure (by kernel_rfl) rfl rfl rfl (ok_loadA (s := 1000005) (by decide) Tryd.underlying37 rfl (size37.of (by rw [List.length_map, hkdf_length])) rfl rfl) ?_ ?_
      · refine AnyT.step 1 [2] (by kernel_rfl) ?_
        refine NextT.pure (by kernel_rfl) rfl rfl rfl (ok_loadA (s := 1000006) (by decide) Tryd.underlying36 rfl (size36.of (by rw [List.length_map, hkdf_length])) rfl rfl) ?_ ?_
        · refine AnyT.step 2 [] (by kernel_rfl) ?_
          refine NextT.eff rfl (eff_storeA (n := 45) (s := 1000002) (size37.of (by rw [List.length_map, hkdf_length])) rfl rfl (all_bytes _) hBb2 rfl (by rw [List.length_map, hkdf_length, List.length_replicate]) (LeftS.cons (t := 2) rfl (Surv.v _) (LeftS.cons (t := 3) rfl (Surv.v _) (LeftS.cons (t := 5) rfl (Surv.v _) (LeftS.cons (t := 6) rfl (Surv.v _) (LeftS.cons (t := 8) rfl (Surv.own (by decide)) (LeftS.cons (t := 10) rfl (Surv.v _) (LeftS.cons (t := 34) rfl (Surv.v _) (LeftS.cons (t := 43) rfl (Surv.v _) (LeftS.cons (t := 44) rfl (Surv.v _) (LeftS.cons (t := 1000003) rfl (Surv.blkT (by decide)) (LeftS.cons (t := 1000005) rfl (Surv.blk (by omega)) (LeftS.cons (t := 1000006) rfl (Surv.blkT (by decide)) LeftS.nil))))))))))))) ?_ ?_
          · refine AnyT.step 3 [] (by kernel_rfl) ?_
            refine NextT.eff rfl (eff_storeA (n := 45) (s := 1000003) (size36.of (by rw [List.length_map, hkdf_length])) rfl rfl (all_bytes _) hBb3 rfl (by rw [List.length_map, hkdf_length, List.length_replicate]) (LeftS.cons (t := 2) rfl (Surv.v _) (LeftS.cons (t := 3) rfl (Surv.v _) (LeftS.cons (t := 5) rfl (Surv.v _) (LeftS.cons (t := 6) rfl (Surv.v _) (LeftS.cons (t := 8) rfl (Surv.own (by decide)) (LeftS.cons (t := 10) rfl (Surv.v _) (LeftS.cons (t := 34) rfl (Surv.v _) (LeftS.cons (t := 43) rfl (Surv.v _) (LeftS.cons (t := 44) rfl (Surv.v _) (LeftS.cons (t := 1000002) rfl (Surv.blkT (by decide)) (LeftS.cons (t := 1000005) rfl (Surv.blkT (by decide)) (LeftS.cons (t := 1000006) rfl (Surv.blk (by omega)) LeftS.nil))))))))))))) ?_ ?_
            · refine AnyT.last (by kernel_rfl) ?_
              refine A.sub (Sub.cons (t := 2) rfl (Sub.cons (t := 3) rfl (Sub.cons (t := 1000002) rfl (Sub.cons (t := 1000003) rfl (Sub.cons (t := 1000005) rfl (Sub.cons (t := 1000006) rfl Sub.nil)))))) ?_
              refine A.ret ?_
              exact End.cell2 (s := 1000002) (s' := 1000003) rfl Tryd.underlying37 rfl (size37.of (by rw [List.length_map, hkdf_length])) rfl rfl (Le.refl _) Tryd.underlying36 rfl (size36.of (by rw [List.length_map, hkdf_length])) rfl rfl (Le.refl _)
            exact trivial
          exact trivial
        refine NextT.eff rfl (eff_storeA (n := 45) (s := 1000002) (size37.of (by rw [List.length_map, hkdf_length])) rfl rfl (all_bytes _) hBb2 rfl (by rw [List.length_map, hkdf_length, List.length_replicate]) (LeftS.cons (t := 2) rfl (Surv.v _) (LeftS.cons (t := 3) rfl (Surv.v _) (LeftS.cons (t := 5) rfl (Surv.v _) (LeftS.cons (t := 6) rfl (Surv.v _) (LeftS.cons (t := 8) rfl (Surv.own (by decide)) (LeftS.cons (t := 10) rfl (Surv.v _) (LeftS.cons (t := 34) rfl (Surv.v _) (LeftS.cons (t := 43) rfl (Surv.v _) (LeftS.cons (t := 1000003) rfl (Surv.blkT (by decide)) (LeftS.cons (t := 1000005) rfl (Surv.blk (by omega)) (LeftS.cons (t := 1000006) rfl (Surv.blkT (by decide)) LeftS.nil)))))))))))) ?_ ?_
        · refine AnyT.step 1 [] (by kernel_rfl) ?_
          refine NextT.pure (by kernel_rfl) rfl rfl rfl (ok_loadA (s := 1000006) (by decide) Tryd.underlying36 rfl (size36.of (by rw [List.length_map, hkdf_length])) rfl rfl) ?_ ?_
          · refine AnyT.step 3 [] (by kernel_rfl) ?_
            refine NextT.eff rfl (eff_storeA (n := 45) (s := 1000003) (size36.of (by rw [List.length_map, hkdf_length])) rfl rfl (all_bytes _) hBb3 rfl (by rw [List.length_map, hkdf_length, List.length_replicate]) (LeftS.cons (t := 2) rfl (Surv.v _) (LeftS.cons (t := 3) rfl (Surv.v _) (LeftS.cons (t := 5) rfl (Surv.v _) (LeftS.cons (t := 6) rfl (Surv.v _) (LeftS.cons (t := 8) rfl (Surv.own (by decide)) (LeftS.cons (t := 10) rfl (Surv.v _) (LeftS.cons (t := 34) rfl (Surv.v _) (LeftS.cons (t := 43) rfl (Surv.v _) (LeftS.cons (t := 44) rfl (Surv.v _) (LeftS.cons (t := 1000002) rfl (Surv.blkT (by decide)) (LeftS.cons (t := 1000005) rfl (Surv.blkT (by decide)) (LeftS.cons (t := 1000006) rfl (Surv.blk (by omega)) LeftS.nil))))))))))))) ?_ ?_
            · refine AnyT.last (by kernel_rfl) ?_
              refine A.sub (Sub.cons (t := 2) rfl (Sub.cons (t := 3) rfl (Sub.cons (t := 1000002) rfl (Sub.cons (t := 1000003) rfl (Sub.cons (t := 1000005) rfl (Sub.cons (t := 1000006) rfl Sub.nil)))))) ?_
              refine A.ret ?_
              exact End.cell2 (s := 1000002) (s' := 1000003) rfl Tryd.underlying37 rfl (size37.of (by rw [List.length_map, hkdf_length])) rfl rfl (Le.refl _) Tryd.underlying36 rfl (size36.of (by rw [List.length_map, hkdf_length])) rfl rfl (Le.refl _)
            exact trivial
          exact trivial
        exact trivial
      refine NextT.pure (by kernel_rfl) rfl rfl rfl (ok_loadA (s := 1000006) (by decide) Tryd.underlying36 rfl (size36.of (by rw [List.length_map, hkdf_length])) rfl rfl) ?_ ?_
      · refine AnyT.step 0 [] (by kernel_rfl) ?_
        refine NextT.pure (by kernel_rfl) rfl rfl rfl (ok_loadA (s := 1000005) (by decide) Tryd.underlying37 rfl (size37.of (by rw [List.length_map, hkdf_length])) rfl rfl) ?_ ?_
        · refine AnyT.step 2 [] (by kernel_rfl) ?_
          refine NextT.eff rfl (eff_storeA (n := 45) (s := 1000002) (size37.of (by rw [List.length_map, hkdf_length])) rfl rfl (all_bytes _) hBb2 rfl (by rw [List.length_map, hkdf_length, List.length_replicate]) (LeftS.cons (t := 2) rfl (Surv.v _) (LeftS.cons (t := 3) rfl (Surv.v _) (LeftS.cons (t := 5) rfl (Surv.v _) (LeftS.cons (t := 6) rfl (Surv.v _) (LeftS.cons (t := 8) rfl (Surv.own (by decide)) (LeftS.cons (t := 10) rfl (Surv.v _) (LeftS.cons (t := 34) rfl (Surv.v _) (LeftS.cons (t := 43) rfl (Surv.v _) (LeftS.cons (t := 44) rfl (Surv.v _) (LeftS.cons (t := 1000003) rfl (Surv.blkT (by decide)) (LeftS.cons (t := 1000005) rfl (Surv.blk (by omega)) (LeftS.cons (t := 1000006) rfl (Surv.blkT (by decide)) LeftS.nil))))))))))))) ?_ ?_
          · refine AnyT.step 3 [] (by kernel_rfl) ?_
            refine NextT.eff rfl (eff_storeA (n := 45) (s := 1000003) (size36.of (by rw [List.length_map, hkdf_length])) rfl rfl (all_bytes _) hBb3 rfl (by rw [List.length_map, hkdf_length, List.length_replicate]) (LeftS.cons (t := 2) rfl (Surv.v _) (LeftS.cons (t := 3) rfl (Surv.v _) (LeftS.cons (t := 5) rfl (Surv.v _) (LeftS.cons (t := 6) rfl (Surv.v _) (LeftS.cons (t := 8) rfl (Surv.own (by decide)) (LeftS.cons (t := 10) rfl (Surv.v _) (LeftS.cons (t := 34) rfl (Surv.v _) (LeftS.cons (t := 43) rfl (Surv.v _) (LeftS.cons (t := 44) rfl (Surv.v _) (LeftS.cons (t := 1000002) rfl (Surv.blkT (by decide)) (LeftS.cons (t := 1000005) rfl (Surv.blkT (by decide)) (LeftS.cons (t := 1000006) rfl (Surv.blk (by omega)) LeftS.nil))))))))))))) ?_ ?_
            · refine AnyT.last (by kernel_rfl) ?_
              refine A.sub (Sub.cons (t := 2) rfl (Sub.cons (t := 3) rfl (Sub.cons (t := 1000002) rfl (Sub.cons (t := 1000003) rfl (Sub.cons (t := 1000005) rfl (Sub.cons (t := 1000006) rfl Sub.nil)))))) ?_
              refine A.ret ?_
              exact End.cell2 (s := 1000002) (s' := 1000003) rfl Tryd.underlying37 rfl (size37.of (by rw [List.length_map, hkdf_length])) rfl rfl (Le.refl _) Tryd.underlying36 rfl (size36.of (by rw [List.length_map, hkdf_length])) rfl rfl (Le.refl _)
            exact trivial
          exact trivial
        exact trivial
      exact trivial
end Go.Proofs.YtidlikaiileggaaDoor
