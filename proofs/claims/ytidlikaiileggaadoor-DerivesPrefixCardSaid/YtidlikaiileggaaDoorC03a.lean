/-
  The definition's package of layer 3, by facts: Block, Sum.
-/
import Derived.Test.YtidlikaiileggaaDoorC02c
import Derived.Test.YtidlikaiileggaaDoorVals
import Derived.Test.YtidlikaiileggaaDoorMac
namespace Go.Proofs.YtidlikaiileggaaDoor
open Go Go.RowKit
set_option linter.unusedVariables false

theorem ref3Block_fnB (l : List UInt8) (hl : l.length ≤ 1000000) : FnB Tryd.prog 18 [byt l] (fun B => own B 5 64 ((kblock l).map byteV)) := by
  have hkb := kbase_length l
  refine FnB.of Tryd.func18 rfl (by kernel_rfl) Tryd.ntmps18 (by simp) (fun w => [(0, old w.heap.size (byt l))]) (fun w => (Start.old rfl Start.nil)) fun w₀ => ?_
  refine A.regs (by kernel_rfl) (by kernel_rfl) (.inl rfl) ?_
  refine RunTK.last ?_
  refine RunK.step rfl rfl (ok_assign rfl) ?_
  refine RunK.nil ?_
  refine A.sub (Sub.cons (t := 0) rfl Sub.nil) ?_
  refine A.regs (by kernel_rfl) (by kernel_rfl) (.inl rfl) ?_
  refine RunTK.eff 2 (by decide) rfl (.inl rfl) ?_
  refine RunK.step rfl rfl (ok_build0own Tryd.underlying22 info5) ?_
  refine RunK.step rfl rfl (ok_move rfl) ?_
  refine RunK.nil ?_
  refine ⟨_, eff_appendS (vs := l.map byteV) Tryd.underlying22 info5 (by decide) rfl rfl rfl ((Le.old _ _).trans (Le.eq (byt_vals l))) (by simp [byteV, Value.oneCell']) (by simp; omega) (by decide) (fun g hg => (LeftS.cons (t := 0) rfl (Surv.old (by omega)) (LeftS.cons (t := 6) rfl (Surv.old (by omega)) LeftS.nil))), ?_⟩
  refine RunTK.last ?_
  refine RunK.step rfl rfl (ok_assign rfl) ?_
  refine RunK.nil ?_
  refine A.sub (Sub.cons (t := 0) rfl (Sub.cons (t := 3) rfl Sub.nil)) ?_
  refine A.seq ?_
  refine A.regs (by kernel_rfl) (by kernel_rfl) (.inl rfl) ?_
  refine RunTK.last ?_
  refine RunK.step rfl rfl (ok_move rfl) ?_
  refine RunK.step rfl rfl (ok_lenB Tryd.underlying22 rfl (Le.old _ _)) ?_
  refine RunK.step rfl rfl (ok_bin rfl rfl rfl) ?_
  refine RunK.nil ?_
  refine A.sub (Sub.cons (t := 0) rfl (Sub.cons (t := 3) rfl (Sub.cons (t := 10) rfl Sub.nil))) ?_
  refine A.cond rfl (fun hc10 => ?_) (fun hc10 => ?_)
  · have h64 : 64 < l.length := by simp at hc10; omega
    refine A.regs (by kernel_rfl) (by kernel_rfl) (.inl rfl) ?_
    refine RunTK.new 2 (by decide) rfl (.inl rfl) ?_
    refine RunK.step rfl rfl (ok_move rfl) ?_
    refine RunK.step rfl rfl (ok_call (refSum_fn l (by omega)) (Args.cons rfl (Le.old _ _) Args.nil)) ?_
    refine RunK.nil ?_
    refine ⟨_, _, eff_alloc (n := 23) (d := 4) (k := 1000004) zero25 (by decide), fun b4 hb4 => ?_⟩
    have hBb4 := hb4.1
    refine RunTK.eff 3 (by decide) rfl (.inl rfl) ?_
    refine RunK.nil ?_
    refine ⟨_, eff_storeA (n := 23) (s := 1000004) (size25.of (by rw [List.length_map, sha_length])) rfl rfl (all_bytes _) hBb4 rfl (by rw [List.length_map, sha_length, List.length_replicate]) (LeftS.cons (t := 0) rfl (Surv.old (by omega)) (LeftS.cons (t := 3) rfl (Surv.own (by decide)) (LeftS.cons (t := 4) rfl (Surv.v _) (LeftS.cons (t := 10) rfl (Surv.v _) (LeftS.cons (t := 11) rfl (Surv.old (by omega)) (LeftS.cons (t := 12) rfl (Surv.v _) LeftS.nil)))))), ?_⟩
    refine RunTK.last ?_
    refine RunK.nil ?_
    refine A.sub (Sub.cons (t := 4) rfl (Sub.cons (t := 1000004) rfl Sub.nil)) ?_
    refine A.reg (by kernel_rfl) (by kernel_rfl) (.inl rfl) ?_
    refine RunTK.eff 2 (by decide) rfl (.inl rfl) ?_
    refine RunK.step rfl rfl (ok_build0own Tryd.underlying22 info5) ?_
    refine RunK.step rfl rfl (ok_sliceA (s := 1000004) 0 32 (by decide) Tryd.underlying25 info5 rfl rfl (.inr ⟨rfl, rfl⟩) (.inr ⟨rfl, rfl⟩) (by omega) (by omega) (by rw [List.length_map, sha_length]) (by decide)) ?_
    refine RunK.nil ?_
    refine ⟨_, eff_appendS (vs := (sha l).map byteV) Tryd.underlying22 info5 (by decide) rfl rfl rfl (Le.eq (by rw [List.drop_zero, List.take_of_length_le (by rw [List.length_map, sha_length]; exact Nat.le_refl _)])) (by simp [byteV, Value.oneCell']) (by simp [sha_length]) (by decide) (fun g hg => (LeftS.cons (t := 4) rfl (Surv.v _) (LeftS.cons (t := 1000004) rfl (Surv.blkT (by decide)) LeftS.nil))), ?_⟩
    refine RunTK.last ?_
    refine RunK.step rfl rfl (ok_assign rfl) ?_
    refine RunK.nil ?_
    refine End.sub (Sub.cons (t := 3) rfl (Sub.cons (t := 1000004) rfl Sub.nil)) ?_
    refine End.normal_then (End.code ?_)
    refine A.seq ?_
    refine A.block ?_
    refine A.loop (ι := Nat) (fun z => (kbase l).length + z ≤ 64) (fun z => [(3, own w₀.heap.size 5 ((kbase l).length + z) ((kbase l ++ List.replicate z 0).map byteV))]) (fun z => 64 - ((kbase l).length + z)) 0 ?_ ?_ ?_
    · exact hkb
    · exact (Sub.eq (t := 3) _ rfl (by simp [kbase, h64]) Sub.nil)
    intro z hz
    refine A.seq ?_
    refine A.regs (by kernel_rfl) (by kernel_rfl) (.inl rfl) ?_
    refine RunTK.last ?_
    refine RunK.step rfl rfl (ok_move rfl) ?_
    refine RunK.step rfl rfl (ok_lenB (l := kbase l ++ List.replicate z 0) Tryd.underlying22 rfl (own_cat rfl (by simp))) ?_
    refine RunK.step rfl rfl (ok_bin rfl rfl rfl) ?_
    refine RunK.nil ?_
    refine A.sub (Sub.cons (t := 3) rfl (Sub.cons (t := 18) rfl Sub.nil)) ?_
    refine A.cond rfl (fun hc18 => ?_) (fun hc18 => ?_)
    · have hz2 : (kbase l).length + z < 64 := by simp at hc18; omega
      refine A.skip ?_
      refine End.normal_then (End.code ?_)
      refine A.block ?_
      refine A.reg (by kernel_rfl) (by kernel_rfl) (.inl rfl) ?_
      refine RunTK.eff 2 (by decide) rfl (.inl rfl) ?_
      refine RunK.step rfl rfl (ok_move rfl) ?_
      refine RunK.step rfl rfl (ok_build [byteD (0)] Tryd.underlying22 info5 rfl (by decide) (by decide) rfl ⟨rfl, rfl, trivial⟩ (fun d hd w x h => by simp only [List.mem_cons, List.not_mem_nil, or_false] at hd; rcases hd with rfl; exact v_one rfl h)) ?_
      refine RunK.nil ?_
      refine ⟨_, eff_appendS (vs := [byteV 0]) Tryd.underlying22 info5 (by decide) rfl rfl rfl (le_lst _ _) (by simp [byteV, Value.oneCell']) (by simp; omega) (by decide) (fun g hg => (LeftS.cons (t := 18) rfl (Surv.v _) LeftS.nil)), ?_⟩
      refine RunTK.last ?_
      refine RunK.step rfl rfl (ok_assign rfl) ?_
      refine RunK.nil ?_
      refine End.sub (Sub.cons (t := 3) rfl Sub.nil) ?_
      refine End.normal_block ?_
      refine End.normal_then ?_
      refine End.again (z + 1) ?_ ?_ ?_
      · show _ ≤ _; omega
      · show _ - _ < _ - _; omega
      · exact (Sub.eq (t := 3) _ rfl (by rw [List.replicate_succ']; simp [Nat.add_assoc]) Sub.nil)
    · have hz2 : z = 64 - (kbase l).length := by simp at hc18; omega
      refine A.exit ?_
      refine End.exit_then ?_
      refine End.exit_then ?_
      refine End.exit_here ?_
      refine End.normal_then (End.code ?_)
      refine A.regs (by kernel_rfl) (by kernel_rfl) (.inl rfl) ?_
      refine RunTK.last ?_
      refine RunK.step rfl rfl (ok_move rfl) ?_
      refine RunK.step rfl rfl (ok_assign rfl) ?_
      refine RunK.nil ?_
      refine A.sub (Sub.cons (t := 2) rfl Sub.nil) ?_
      refine A.ret ?_
      exact End.ret1 rfl rfl (Le.eq (by rw [hz2, kblock]; congr 1; omega))
  · have h64 : ¬ 64 < l.length := by simp at hc10; omega
    refine A.skip ?_
    refine End.normal_then (End.code ?_)
    refine A.seq ?_
    refine A.block ?_
    refine A.loop (ι := Nat) (fun z => (kbase l).length + z ≤ 64) (fun z => [(3, own w₀.heap.size 5 ((kbase l).length + z) ((kbase l ++ List.replicate z 0).map byteV))]) (fun z => 64 - ((kbase l).length + z)) 0 ?_ ?_ ?_
    · exact hkb
    · exact (Sub.eq (t := 3) _ rfl (by simp [kbase, h64]) Sub.nil)
    intro z hz
    refine A.seq ?_
    refine A.regs (by kernel_rfl) (by kernel_rfl) (.inl rfl) ?_
    refine RunTK.last ?_
    refine RunK.step rfl rfl (ok_move rfl) ?_
    refine RunK.step rfl rfl (ok_lenB (l := kbase l ++ List.replicate z 0) Tryd.underlying22 rfl (own_cat rfl (by simp))) ?_
    refine RunK.step rfl rfl (ok_bin rfl rfl rfl) ?_
    refine RunK.nil ?_
    refine A.sub (Sub.cons (t := 3) rfl (Sub.cons (t := 18) rfl Sub.nil)) ?_
    refine A.cond rfl (fun hc18 => ?_) (fun hc18 => ?_)
    · have hz2 : (kbase l).length + z < 64 := by simp at hc18; omega
      refine A.skip ?_
      refine End.normal_then (End.code ?_)
      refine A.block ?_
      refine A.reg (by kernel_rfl) (by kernel_rfl) (.inl rfl) ?_
      refine RunTK.eff 2 (by decide) rfl (.inl rfl) ?_
      refine RunK.step rfl rfl (ok_move rfl) ?_
      refine RunK.step rfl rfl (ok_build [byteD (0)] Tryd.underlying22 info5 rfl (by decide) (by decide) rfl ⟨rfl, rfl, trivial⟩ (fun d hd w x h => by simp only [List.mem_cons, List.not_mem_nil, or_false] at hd; rcases hd with rfl; exact v_one rfl h)) ?_
      refine RunK.nil ?_
      refine ⟨_, eff_appendS (vs := [byteV 0]) Tryd.underlying22 info5 (by decide) rfl rfl rfl (le_lst _ _) (by simp [byteV, Value.oneCell']) (by simp; omega) (by decide) (fun g hg => (LeftS.cons (t := 18) rfl (Surv.v _) LeftS.nil)), ?_⟩
      refine RunTK.last ?_
      refine RunK.step rfl rfl (ok_assign rfl) ?_
      refine RunK.nil ?_
      refine End.sub (Sub.cons (t := 3) rfl Sub.nil) ?_
      refine End.normal_block ?_
      refine End.normal_then ?_
      refine End.again (z + 1) ?_ ?_ ?_
      · show _ ≤ _; omega
      · show _ - _ < _ - _; omega
      · exact (Sub.eq (t := 3) _ rfl (by rw [List.replicate_succ']; simp [Nat.add_assoc]) Sub.nil)
    · have hz2 : z = 64 - (kbase l).length := by simp at hc18; omega
      refine A.exit ?_
      refine End.exit_then ?_
      refine End.exit_then ?_
      refine End.exit_here ?_
      refine End.normal_then (End.code ?_)
      refine A.regs (by kernel_rfl) (by kernel_rfl) (.inl rfl) ?_
      refine RunTK.last ?_
      refine RunK.step rfl rfl (ok_move rfl) ?_
      refine RunK.step rfl rfl (ok_assign rfl) ?_
      refine RunK.nil ?_
      refine A.sub (Sub.cons (t := 2) rfl Sub.nil) ?_
      refine A.ret ?_
      exact End.ret1 rfl rfl (Le.eq (by rw [hz2, kblock]; congr 1; omega))
set_option maxHeartbeats 1000000 in
theorem ref3Sum_fn (k m : List UInt8) (hk : k.length ≤ 1000000) (hm : m.length ≤ 10000) : Fn Tryd.prog 10 [byt k, byt m] (.v (aggV ((hmac k m).map byteV))) := by
  refine Fn.of Tryd.func10 rfl (by kernel_rfl) Tryd.ntmps10 (by simp) (fun w => [(0, old w.heap.size (byt k)), (1, old w.heap.size (byt m))]) (fun w => (Start.old rfl (Start.old rfl Start.nil))) fun w₀ => ?_
  refine A.regs (by kernel_rfl) (by kernel_rfl) (.inl rfl) ?_
  refine RunTK.new 0 (by decide) rfl (.inl rfl) ?_
  refine RunK.nil ?_
  refine ⟨_, _, eff_alloc (n := 40) (d := 4) (k := 1000004) zero25 (by decide), fun b4 hb4 => ?_⟩
  have hBb4 := hb4.1
  refine RunTK.last ?_
  refine RunK.nil ?_
  refine A.sub (Sub.cons (t := 0) rfl (Sub.cons (t := 1) rfl (Sub.cons (t := 4) rfl (Sub.cons (t := 1000004) rfl Sub.nil)))) ?_
  refine A.regs (by kernel_rfl) (by kernel_rfl) (.inl rfl) ?_
  refine RunTK.last ?_
  refine RunK.step rfl rfl (ok_move rfl) ?_
  refine RunK.step rfl rfl (ok_callB (ref3Block_fnB k hk) (fun _ _ h => own_mono h) (Args.cons rfl (Le.old _ _) Args.nil)) ?_
  refine RunK.step rfl rfl (ok_assign rfl) ?_
  refine RunK.nil ?_
  refine A.sub (Sub.cons (t := 1) rfl (Sub.cons (t := 4) rfl (Sub.cons (t := 5) rfl (Sub.cons (t := 1000004) rfl Sub.nil)))) ?_
  refine A.openV (t := 5) (k := 1000205) rfl fun v5 => ?_
  refine A.regs (by kernel_rfl) (by kernel_rfl) (.inl rfl) ?_
  refine RunTK.last ?_
  refine RunK.step rfl rfl (ok_assign rfl) ?_
  refine RunK.step rfl rfl (ok_assign rfl) ?_
  refine RunK.nil ?_
  refine A.sub (Sub.cons (t := 1) rfl (Sub.cons (t := 4) rfl (Sub.cons (t := 5) rfl (Sub.cons (t := 6) rfl (Sub.cons (t := 7) rfl (Sub.cons (t := 1000004) rfl (Sub.cons (t := 1000205) rfl Sub.nil))))))) ?_
  refine A.nilV (k := 1000206) w₀.heap.size 5 ?_
  refine A.nilV (k := 1000207) w₀.heap.size 5 ?_
  refine A.seq ?_
  refine A.regs (by kernel_rfl) (by kernel_rfl) (.inl rfl) ?_
  refine RunTK.last ?_
  refine RunK.step rfl rfl (ok_assign rfl) ?_
  refine RunK.nil ?_
  refine A.sub (Sub.cons (t := 1) rfl (Sub.cons (t := 4) rfl (Sub.cons (t := 5) rfl (Sub.cons (t := 6) rfl (Sub.cons (t := 7) rfl (Sub.cons (t := 8) rfl (Sub.cons (t := 1000004) rfl (Sub.cons (t := 1000205) rfl (Sub.cons (t := 1000206) rfl (Sub.cons (t := 1000207) rfl Sub.nil)))))))))) ?_
  refine A.block ?_
  refine A.loop (ι := (Nat × Value × Value)) (fun s => s.1 ≤ 64 ∧ Disj s.2.1 s.2.2 ∧ Disj s.2.1 v5 ∧ Disj s.2.2 v5) (fun s => [(1, old w₀.heap.size (byt m)), (4, .v (.pointer (some ⟨b4, 0, none⟩))), (5, .v v5), (6, .v s.2.1), (7, .v s.2.2), (8, .v (.int .i64 ((s.1 : Nat) : Int))), (1000004, blk b4 25 (List.replicate 32 (.int .u8 0))), (1000205, ownM w₀.heap.size v5 5 (64) ((kblock k).map byteV)), (1000206, ownM w₀.heap.size s.2.1 5 (s.1) (((kpad 54 k).take s.1).map byteV)), (1000207, ownM w₀.heap.size s.2.2 5 (s.1) (((kpad 92 k).take s.1).map byteV))]) (fun s => 64 - s.1) (0, .slice none 0 0, .slice none 0 0) ?_ ?_ ?_
  · exact ⟨Nat.zero_le _, Disj.nil _, Disj.nil _, Disj.nil _⟩
  · exact (Sub.cons (t := 1) rfl (Sub.cons (t := 4) rfl (Sub.cons (t := 5) rfl (Sub.cons (t := 6) rfl (Sub.cons (t := 7) rfl (Sub.cons (t := 8) rfl (Sub.cons (t := 1000004) rfl (Sub.cons (t := 1000205) rfl (Sub.eq (t := 1000206) _ rfl (by simp) (Sub.eq (t := 1000207) _ rfl (by simp) Sub.nil))))))))))
  intro s hs
  obtain ⟨v6, hv6⟩ : ∃ v, s.2.1 = v := ⟨_, rfl⟩
  obtain ⟨v7, hv7⟩ : ∃ v, s.2.2 = v := ⟨_, rfl⟩
  rw [hv6, hv7] at hs
  obtain ⟨hi, hd_v6_v7, hd_v6_v5, hd_v7_v5⟩ := hs
  have hd_v7_v6 := hd_v6_v7.symm
  rw [hv6, hv7]
  refine A.seq ?_
  refine A.regs (by kernel_rfl) (by kernel_rfl) (.inl rfl) ?_
  refine RunTK.last ?_
  refine RunK.step rfl rfl (ok_move rfl) ?_
  refine RunK.step rfl rfl (ok_bin rfl rfl rfl) ?_
  refine RunK.nil ?_
  refine A.sub (Sub.cons (t := 1) rfl (Sub.cons (t := 4) rfl (Sub.cons (t := 5) rfl (Sub.cons (t := 6) rfl (Sub.cons (t := 7) rfl (Sub.cons (t := 8) rfl (Sub.cons (t := 13) rfl (Sub.cons (t := 1000004) rfl (Sub.cons (t := 1000205) rfl (Sub.cons (t := 1000206) rfl (Sub.cons (t := 1000207) rfl Sub.nil))))))))))) ?_
  refine A.cond rfl (fun hc13 => ?_) (fun hc13 => ?_)
  · have hlt : s.1 < 64 := by simp at hc13; omega
    refine A.skip ?_
    refine End.normal_then (End.code ?_)
    refine A.seq ?_
    refine A.block ?_
    refine A.regs (by kernel_rfl) (by kernel_rfl) (.inl rfl) ?_
    refine RunTK.newv 7 (by decide) rfl (.inl rfl) ?_
    refine RunK.step rfl rfl (ok_move rfl) ?_
    refine RunK.step rfl rfl (ok_moveV (k := 1000205) (by decide) rfl rfl) ?_
    refine RunK.step rfl rfl (ok_move rfl) ?_
    refine RunK.step rfl rfl (ok_index (d := byteD ((kblock k).getD s.1 0)) Tryd.underlying22 info5 rfl (own_cat rfl (kblock_length k).symm) rfl (by omega) (by rw [Int.toNat_natCast, List.getElem?_map, kblock_get hlt]; rfl)) ?_
    refine RunK.step rfl rfl (ok_load Tryd.underlying5 rfl rfl) ?_
    refine RunK.step rfl rfl (ok_bin rfl rfl rfl) ?_; refine RunK.as (byteV ((kblock k).getD s.1 0 ^^^ 54)) (congrArg (Value.int .u8) (xor_u8_nat ((kblock k).getD s.1 0) 54)) ?_
    refine RunK.step rfl rfl (ok_build [byteD ((kblock k).getD s.1 0 ^^^ 54)] Tryd.underlying22 info5 rfl (by decide) (by decide) rfl ⟨rfl, rfl, trivial⟩ (fun d hd w x h => by simp only [List.mem_cons, List.not_mem_nil, or_false] at hd; rcases hd with rfl; exact v_one rfl h)) ?_
    refine RunK.nil ?_
    refine ⟨_, _, eff_appendV (n := 40) (k := 1000206) (vs := [byteV ((kblock k).getD s.1 0 ^^^ 54)]) Tryd.underlying22 info5 (by decide) rfl rfl rfl rfl (le_lst _ _) (by simp [byteV, Value.oneCell']) (by simp; omega) (by decide) (fun g hB hg => (LeftS.cons (t := 1) rfl (Surv.old (by omega)) (LeftS.cons (t := 4) rfl (Surv.v _) (LeftS.cons (t := 5) rfl (Surv.v _) (LeftS.cons (t := 6) rfl (Surv.v _) (LeftS.cons (t := 7) rfl (Surv.v _) (LeftS.cons (t := 8) rfl (Surv.v _) (LeftS.cons (t := 13) rfl (Surv.v _) (LeftS.cons (t := 16) rfl (Surv.v _) (LeftS.cons (t := 18) rfl (Surv.v _) (LeftS.cons (t := 20) rfl (Surv.v _) (LeftS.cons (t := 21) rfl (Surv.v _) (LeftS.cons (t := 1000004) rfl (Surv.blkT (by decide)) (LeftS.cons (t := 1000205) rfl (Surv.ownM (by rcases hg with hg | hg; exact hd_v6_v5 g hg; exact hg.2.2 1000205 _ _ _ _ _ rfl)) (LeftS.cons (t := 1000207) rfl (Surv.ownM (by rcases hg with hg | hg; exact hd_v6_v7 g hg; exact hg.2.2 1000207 _ _ _ _ _ rfl)) LeftS.nil))))))))))))))), fun v6a hv6a => ?_⟩
    have hd_v6a_v5 := Disj.step hv6a hd_v6_v5 (s := 1000205) rfl
    have hd_v5_v6a := hd_v6a_v5.symm
    have hd_v6a_v7 := Disj.step hv6a hd_v6_v7 (s := 1000207) rfl
    have hd_v7_v6a := hd_v6a_v7.symm
    refine RunTK.last ?_
    refine RunK.step rfl rfl (ok_assign rfl) ?_
    refine RunK.nil ?_
    refine A.sub (Sub.cons (t := 1) rfl (Sub.cons (t := 4) rfl (Sub.cons (t := 5) rfl (Sub.cons (t := 6) rfl (Sub.cons (t := 7) rfl (Sub.cons (t := 8) rfl (Sub.cons (t := 1000004) rfl (Sub.cons (t := 1000205) rfl (Sub.cons (t := 1000206) rfl (Sub.cons (t := 1000207) rfl Sub.nil)))))))))) ?_
    refine A.reg (by kernel_rfl) (by kernel_rfl) (.inl rfl) ?_
    refine RunTK.newv 7 (by decide) rfl (.inl rfl) ?_
    refine RunK.step rfl rfl (ok_move rfl) ?_
    refine RunK.step rfl rfl (ok_moveV (k := 1000205) (by decide) rfl rfl) ?_
    refine RunK.step rfl rfl (ok_move rfl) ?_
    refine RunK.step rfl rfl (ok_index (d := byteD ((kblock k).getD s.1 0)) Tryd.underlying22 info5 rfl (own_cat rfl (kblock_length k).symm) rfl (by omega) (by rw [Int.toNat_natCast, List.getElem?_map, kblock_get hlt]; rfl)) ?_
    refine RunK.step rfl rfl (ok_load Tryd.underlying5 rfl rfl) ?_
    refine RunK.step rfl rfl (ok_bin rfl rfl rfl) ?_; refine RunK.as (byteV ((kblock k).getD s.1 0 ^^^ 92)) (congrArg (Value.int .u8) (xor_u8_nat ((kblock k).getD s.1 0) 92)) ?_
    refine RunK.step rfl rfl (ok_build [byteD ((kblock k).getD s.1 0 ^^^ 92)] Tryd.underlying22 info5 rfl (by decide) (by decide) rfl ⟨rfl, rfl, trivial⟩ (fun d hd w x h => by simp only [List.mem_cons, List.not_mem_nil, or_false] at hd; rcases hd with rfl; exact v_one rfl h)) ?_
    refine RunK.nil ?_
    refine ⟨_, _, eff_appendV (n := 40) (k := 1000207) (vs := [byteV ((kblock k).getD s.1 0 ^^^ 92)]) Tryd.underlying22 info5 (by decide) rfl rfl rfl rfl (le_lst _ _) (by simp [byteV, Value.oneCell']) (by simp; omega) (by decide) (fun g hB hg => (LeftS.cons (t := 1) rfl (Surv.old (by omega)) (LeftS.cons (t := 4) rfl (Surv.v _) (LeftS.cons (t := 5) rfl (Surv.v _) (LeftS.cons (t := 6) rfl (Surv.v _) (LeftS.cons (t := 7) rfl (Surv.v _) (LeftS.cons (t := 8) rfl (Surv.v _) (LeftS.cons (t := 24) rfl (Surv.v _) (LeftS.cons (t := 26) rfl (Surv.v _) (LeftS.cons (t := 28) rfl (Surv.v _) (LeftS.cons (t := 29) rfl (Surv.v _) (LeftS.cons (t := 1000004) rfl (Surv.blkT (by decide)) (LeftS.cons (t := 1000205) rfl (Surv.ownM (by rcases hg with hg | hg; exact hd_v7_v5 g hg; exact hg.2.2 1000205 _ _ _ _ _ rfl)) (LeftS.cons (t := 1000206) rfl (Surv.ownM (by rcases hg with hg | hg; exact hd_v7_v6a g hg; exact hg.2.2 1000206 _ _ _ _ _ rfl)) LeftS.nil)))))))))))))), fun v7a hv7a => ?_⟩
    have hd_v7a_v5 := Disj.step hv7a hd_v7_v5 (s := 1000205) rfl
    have hd_v5_v7a := hd_v7a_v5.symm
    have hd_v7a_v6a := Disj.step hv7a hd_v7_v6a (s := 1000206) rfl
    have hd_v6a_v7a := hd_v7a_v6a.symm
    refine RunTK.last ?_
    refine RunK.step rfl rfl (ok_assign rfl) ?_
    refine RunK.nil ?_
    refine End.sub (Sub.cons (t := 1) rfl (Sub.cons (t := 4) rfl (Sub.cons (t := 5) rfl (Sub.cons (t := 6) rfl (Sub.cons (t := 7) rfl (Sub.cons (t := 8) rfl (Sub.cons (t := 1000004) rfl (Sub.cons (t := 1000205) rfl (Sub.cons (t := 1000206) rfl (Sub.cons (t := 1000207) rfl Sub.nil)))))))))) ?_
    refine End.normal_block ?_
    refine End.normal_then (End.code ?_)
    refine A.reg (by kernel_rfl) (by kernel_rfl) (.inl rfl) ?_
    refine RunTK.last ?_
    refine RunK.step rfl rfl (ok_move rfl) ?_
    refine RunK.step rfl rfl (ok_bin rfl rfl rfl) ?_; refine RunK.as (.int .i64 ((s.1 + 1 : Nat) : Int)) (by rw [wrap_i64 (by omega) (by omega)]; first | rfl | (congr 1; omega)) ?_
    refine RunK.step rfl rfl (ok_assign rfl) ?_
    refine RunK.nil ?_
    refine End.sub (Sub.cons (t := 1) rfl (Sub.cons (t := 4) rfl (Sub.cons (t := 5) rfl (Sub.cons (t := 6) rfl (Sub.cons (t := 7) rfl (Sub.cons (t := 8) rfl (Sub.cons (t := 1000004) rfl (Sub.cons (t := 1000205) rfl (Sub.cons (t := 1000206) rfl (Sub.cons (t := 1000207) rfl Sub.nil)))))))))) ?_
    refine End.normal_then ?_
    refine End.again (s.1 + 1, v6a, v7a) ?_ ?_ ?_
    · exact ⟨by show _ ≤ _; omega, hd_v6a_v7a, hd_v6a_v5, hd_v7a_v5⟩
    · show _ - _ < _ - _; omega
    · exact (Sub.cons (t := 1) rfl (Sub.cons (t := 4) rfl (Sub.cons (t := 5) rfl (Sub.cons (t := 6) rfl (Sub.cons (t := 7) rfl (Sub.cons (t := 8) rfl (Sub.cons (t := 1000004) rfl (Sub.cons (t := 1000205) rfl (Sub.eq (t := 1000206) _ rfl (congrArg (ownM _ _ _ _) (kpad_step hlt)) (Sub.eq (t := 1000207) _ rfl (congrArg (ownM _ _ _ _) (kpad_step hlt)) Sub.nil))))))))))
  · have hse : s.1 = 64 := by simp at hc13; omega
    rw [hse]
    refine A.exit ?_
    refine End.exit_then ?_
    refine End.exit_then ?_
    refine End.exit_here ?_
    refine End.normal_then (End.code ?_)
    refine A.regs (by kernel_rfl) (by kernel_rfl) (.inl rfl) ?_
    refine RunTK.eff 2 (by decide) rfl (.inl rfl) ?_
    refine RunK.step rfl rfl (ok_move rfl) ?_
    refine RunK.step rfl rfl (ok_move rfl) ?_
    refine RunK.nil ?_
    refine ⟨_, eff_appendVO (n := 40) (k := 1000206) (vs := m.map byteV) Tryd.underlying22 info5 (by decide) rfl rfl rfl rfl ((Le.old _ _).trans (Le.eq (byt_vals m))) (by simp [byteV, Value.oneCell']) (by simp; omega) (by decide) (by decide) rfl (fun g hB hg => (LeftS.cons (t := 1) rfl (Surv.old (by omega)) (LeftS.cons (t := 4) rfl (Surv.v _) (LeftS.cons (t := 5) rfl (Surv.v _) (LeftS.cons (t := 6) rfl (Surv.v _) (LeftS.cons (t := 7) rfl (Surv.v _) (LeftS.cons (t := 8) rfl (Surv.v _) (LeftS.cons (t := 13) rfl (Surv.v _) (LeftS.cons (t := 32) rfl (Surv.v _) (LeftS.cons (t := 33) rfl (Surv.old (by omega)) (LeftS.cons (t := 1000004) rfl (Surv.blkT (by decide)) (LeftS.cons (t := 1000205) rfl (Surv.ownM (by rcases hg with hg | hg; exact hd_v6_v5 g hg; exact hg.2.2 1000205 _ _ _ _ _ rfl)) (LeftS.cons (t := 1000207) rfl (Surv.ownM (by rcases hg with hg | hg; exact hd_v6_v7 g hg; exact hg.2.2 1000207 _ _ _ _ _ rfl)) LeftS.nil))))))))))))), ?_⟩
    refine RunTK.new 4 (by decide) rfl (.inl rfl) ?_
    refine RunK.step rfl rfl (ok_call (refSum_fn (kpad 54 k ++ m) (by simp [kpad_length]; omega)) (Args.cons rfl (own_cat (by simp [List.take_of_length_le, kpad_length]) (by simp [kpad_length])) Args.nil)) ?_
    refine RunK.nil ?_
    refine ⟨_, _, eff_alloc (n := 40) (d := 9) (k := 1000009) zero25 (by decide), fun b9 hb9 => ?_⟩
    have hBb9 := hb9.1
    have hlt_b4_b9 : b4 < b9 := hb9.2 1000004 _ _ _ rfl
    refine RunTK.eff 5 (by decide) rfl (.inl rfl) ?_
    refine RunK.nil ?_
    refine ⟨_, eff_storeA (n := 40) (s := 1000009) (size25.of (by rw [List.length_map, sha_length])) rfl rfl (all_bytes _) hBb9 rfl (by rw [List.length_map, sha_length, List.length_replicate]) (LeftS.cons (t := 1) rfl (Surv.old (by omega)) (LeftS.cons (t := 4) rfl (Surv.v _) (LeftS.cons (t := 5) rfl (Surv.v _) (LeftS.cons (t := 6) rfl (Surv.v _) (LeftS.cons (t := 7) rfl (Surv.v _) (LeftS.cons (t := 8) rfl (Surv.v _) (LeftS.cons (t := 9) rfl (Surv.v _) (LeftS.cons (t := 13) rfl (Surv.v _) (LeftS.cons (t := 32) rfl (Surv.v _) (LeftS.cons (t := 33) rfl (Surv.old (by omega)) (LeftS.cons (t := 34) rfl (Surv.own (by decide)) (LeftS.cons (t := 35) rfl (Surv.v _) (LeftS.cons (t := 1000004) rfl (Surv.blk (by omega)) (LeftS.cons (t := 1000205) rfl (Surv.ownMT (by decide)) (LeftS.cons (t := 1000207) rfl (Surv.ownMT (by decide)) LeftS.nil))))))))))))))), ?_⟩
    refine RunTK.last ?_
    refine RunK.nil ?_
    refine A.sub (Sub.cons (t := 4) rfl (Sub.cons (t := 7) rfl (Sub.cons (t := 9) rfl (Sub.cons (t := 1000004) rfl (Sub.cons (t := 1000009) rfl (Sub.cons (t := 1000205) rfl (Sub.cons (t := 1000207) rfl Sub.nil))))))) ?_
    refine A.regs (by kernel_rfl) (by kernel_rfl) (.inl rfl) ?_
    refine RunTK.eff 2 (by decide) rfl (.inl rfl) ?_
    refine RunK.step rfl rfl (ok_move rfl) ?_
    refine RunK.step rfl rfl (ok_sliceA (s := 1000009) 0 32 (by decide) Tryd.underlying25 info5 rfl rfl (.inr ⟨rfl, rfl⟩) (.inr ⟨rfl, rfl⟩) (by omega) (by omega) (by rw [List.length_map, sha_length]) (by decide)) ?_
    refine RunK.nil ?_
    refine ⟨_, eff_appendVO (n := 40) (k := 1000207) (vs := (sha (kpad 54 k ++ m)).map byteV) Tryd.underlying22 info5 (by decide) rfl rfl rfl rfl (Le.eq (by rw [List.drop_zero, List.take_of_length_le (by rw [List.length_map, sha_length]; exact Nat.le_refl _)])) (by simp [byteV, Value.oneCell']) (by simp [sha_length]) (by decide) (by decide) rfl (fun g hB hg => (LeftS.cons (t := 4) rfl (Surv.v _) (LeftS.cons (t := 7) rfl (Surv.v _) (LeftS.cons (t := 9) rfl (Surv.v _) (LeftS.cons (t := 36) rfl (Surv.v _) (LeftS.cons (t := 1000004) rfl (Surv.blkT (by decide)) (LeftS.cons (t := 1000009) rfl (Surv.blkT (by decide)) (LeftS.cons (t := 1000205) rfl (Surv.ownM (by rcases hg with hg | hg; exact hd_v7_v5 g hg; exact hg.2.2 1000205 _ _ _ _ _ rfl)) LeftS.nil)))))))), ?_⟩
    refine RunTK.eff 4 (by decide) rfl (.inl rfl) ?_
    refine RunK.step rfl rfl (ok_call (refSum_fn (kpad 92 k ++ sha (kpad 54 k ++ m)) (by simp [kpad_length, sha_length])) (Args.cons rfl (own_cat (by simp [List.take_of_length_le, kpad_length]) (by simp [kpad_length])) Args.nil)) ?_; refine RunK.as (aggV ((hmac k m).map byteV)) (rfl) ?_
    refine RunK.nil ?_
    refine ⟨_, eff_storeA (n := 40) (s := 1000004) (size25.of (by rw [List.length_map, hmac_length])) rfl rfl (all_bytes _) hBb4 rfl (by rw [List.length_map, hmac_length, List.length_replicate]) (LeftS.cons (t := 4) rfl (Surv.v _) (LeftS.cons (t := 7) rfl (Surv.v _) (LeftS.cons (t := 9) rfl (Surv.v _) (LeftS.cons (t := 36) rfl (Surv.v _) (LeftS.cons (t := 38) rfl (Surv.own (by decide)) (LeftS.cons (t := 39) rfl (Surv.v _) (LeftS.cons (t := 1000009) rfl (Surv.blk (by omega)) (LeftS.cons (t := 1000205) rfl (Surv.ownMT (by decide)) LeftS.nil)))))))), ?_⟩
    refine RunTK.last ?_
    refine RunK.nil ?_
    refine A.sub (Sub.cons (t := 4) rfl (Sub.cons (t := 1000004) rfl (Sub.cons (t := 1000009) rfl (Sub.cons (t := 1000205) rfl Sub.nil)))) ?_
    refine A.ret ?_
    exact End.cell1 (s := 1000004) rfl Tryd.underlying25 rfl (size25.of (by rw [List.length_map, hmac_length])) rfl rfl (Le.refl _)
end Go.Proofs.YtidlikaiileggaaDoor
