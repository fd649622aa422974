/-
  The laws of caissonlaw03, by facts.
-/
import Derived.Test.YtgonpjlalhdkjaaDoorC03b
namespace Go.Proofs.YtgonpjlalhdkjaaDoor
open Go Go.RowKit
set_option linter.unusedVariables false

theorem is3_fn (l : List UInt8) : Fn Tryd.prog 15 [.v (aggV ((sha l).map byteV)), .v (aggV ((shaR l).list.map u32V))] (.v (.bool true)) := by
  refine Fn.of Tryd.func15 rfl (by kernel_rfl) Tryd.ntmps15 (by simp) (fun w => [(0, .v (aggV ((sha l).map byteV))), (1, .v (aggV ((shaR l).list.map u32V)))]) (fun w => (Start.v rfl (Start.v rfl Start.nil))) fun w₀ => ?_
  refine A.regs (by kernel_rfl) (by kernel_rfl) (.inl rfl) ?_
  refine RunTK.new 0 (by decide) rfl (.inl rfl) ?_
  refine RunK.nil ?_
  refine ⟨_, _, eff_box (n := 23) (d := 2) (k := 1000002) rfl (by decide), fun b2 hb2 => ?_⟩
  have hBb2 := hb2.1
  refine RunTK.new 1 (by decide) rfl (.inl rfl) ?_
  refine RunK.nil ?_
  refine ⟨_, _, eff_box (n := 23) (d := 3) (k := 1000003) rfl (by decide), fun b3 hb3 => ?_⟩
  have hBb3 := hb3.1
  have hlt_b2_b3 : b2 < b3 := hb3.2 1000002 _ _ _ rfl
  refine RunTK.last ?_
  refine RunK.step rfl rfl (ok_assign rfl) ?_
  refine RunK.nil ?_
  refine A.sub (Sub.cons (t := 2) rfl (Sub.cons (t := 3) rfl (Sub.cons (t := 1000002) rfl (Sub.cons (t := 1000003) rfl Sub.nil)))) ?_
  refine A.seq ?_
  refine A.regs (by kernel_rfl) (by kernel_rfl) (.inl rfl) ?_
  refine RunTK.last ?_
  refine RunK.step rfl rfl (ok_assign rfl) ?_
  refine RunK.nil ?_
  refine A.sub (Sub.cons (t := 2) rfl (Sub.cons (t := 3) rfl (Sub.cons (t := 5) rfl (Sub.cons (t := 1000002) rfl (Sub.cons (t := 1000003) rfl Sub.nil))))) ?_
  refine A.block ?_
  refine A.loop (ι := Nat) (fun i => i ≤ 8) (fun i => [(2, .v (.pointer (some ⟨b2, 0, none⟩))), (3, .v (.pointer (some ⟨b3, 0, none⟩))), (5, .v (.int .i64 ((i : Nat) : Int))), (1000002, blk b2 30 ((sha l).map byteV)), (1000003, blk b3 42 ((shaR l).list.map u32V))]) (fun i => 8 - i) 0 ?_ ?_ ?_
  · exact Nat.zero_le _
  · exact (Sub.cons (t := 2) rfl (Sub.cons (t := 3) rfl (Sub.cons (t := 5) rfl (Sub.cons (t := 1000002) rfl (Sub.cons (t := 1000003) rfl Sub.nil)))))
  intro i hi
  refine A.seq ?_
  refine A.regs (by kernel_rfl) (by kernel_rfl) (.inl rfl) ?_
  refine RunTK.last ?_
  refine RunK.step rfl rfl (ok_move rfl) ?_
  refine RunK.step rfl rfl (ok_bin rfl rfl rfl) ?_
  refine RunK.nil ?_
  refine A.sub (Sub.cons (t := 2) rfl (Sub.cons (t := 3) rfl (Sub.cons (t := 5) rfl (Sub.cons (t := 7) rfl (Sub.cons (t := 1000002) rfl (Sub.cons (t := 1000003) rfl Sub.nil)))))) ?_
  refine A.cond rfl (fun hc7 => ?_) (fun hc7 => ?_)
  · have hlt : i < 8 := by simp at hc7; omega
    refine A.skip ?_
    refine End.normal_then (End.code ?_)
    refine A.seq ?_
    refine A.block ?_
    refine A.regs (by kernel_rfl) (by kernel_rfl) (.inr (by kernel_rfl)) ?_
    refine RunTK.last ?_
    refine RunK.step rfl rfl (ok_move rfl) ?_
    refine RunK.step rfl rfl (ok_bin rfl rfl rfl) ?_; refine RunK.as (.int .i64 ((4 * i : Nat) : Int)) (by rw [wrap_i64 (by omega) (by omega)]; first | rfl | (congr 1; omega)) ?_
    refine RunK.step rfl rfl (ok_move rfl) ?_
    refine RunK.step rfl rfl (ok_bin rfl rfl rfl) ?_; refine RunK.as (.int .i64 ((4 * i : Nat) : Int)) (by rw [wrap_i64 (by omega) (by omega)]; first | rfl | (congr 1; omega)) ?_
    refine RunK.step rfl rfl (ok_bin rfl rfl rfl) ?_; refine RunK.as (.int .i64 ((4 * i + 4 : Nat) : Int)) (by rw [wrap_i64 (by omega) (by omega)]; first | rfl | (congr 1; omega)) ?_
    refine RunK.step rfl rfl (ok_sliceA (s := 1000002) (4 * i) (4 * i + 4) (by decide) Tryd.underlying30 info5 rfl rfl (.inl ⟨_, _, rfl, rfl⟩) (.inl ⟨_, _, rfl, rfl⟩) (by omega) (by omega) (by rw [List.length_map, sha_length]) (by decide)) ?_
    refine RunK.step rfl rfl (ok_str (l := be 4 ((shaR l).list.getD i 0).toNat) Tryd.underlying22 Tryd.underlying5 Tryd.underlying9 rfl (Le.eq (by rw [byt_vals, ← sha_part l hlt]; congr 2; rw [List.map_drop, List.map_take]))) ?_
    refine RunK.step rfl rfl (ok_move rfl) ?_
    refine RunK.step rfl rfl (ok_index0 _ Tryd.underlying42 info41 rfl rfl (rfl) (by omega)) ?_
    refine RunK.step rfl rfl (ok_loadV (s := 1000003) (by decide) Tryd.underlying41 rfl rfl rfl (map_get32 (by show i < 8; omega))) ?_
    refine RunK.step rfl rfl (ok_call (refPut32_fnP ((((shaR l).list.getD i 0).toNat : Nat) : Int) (Int.natCast_nonneg _) (by have := u32_lt ((shaR l).list.getD i 0); omega)) (Args.cons rfl (Le.refl _) Args.nil)) ?_
    refine RunK.step rfl rfl (ok_str (l := be 4 ((shaR l).list.getD i 0).toNat) Tryd.underlying22 Tryd.underlying5 Tryd.underlying9 rfl (le_byt _ _)) ?_
    refine RunK.step rfl rfl (ok_sne rfl rfl) ?_; refine RunK.as (.bool false) (by simp) ?_
    refine RunK.nil ?_
    refine A.sub (Sub.cons (t := 2) rfl (Sub.cons (t := 3) rfl (Sub.cons (t := 5) rfl (Sub.cons (t := 22) rfl (Sub.cons (t := 1000002) rfl (Sub.cons (t := 1000003) rfl Sub.nil)))))) ?_
    refine A.no rfl ?_
    refine A.skip ?_
    refine End.normal_block ?_
    refine End.normal_then (End.code ?_)
    refine A.reg (by kernel_rfl) (by kernel_rfl) (.inl rfl) ?_
    refine RunTK.last ?_
    refine RunK.step rfl rfl (ok_move rfl) ?_
    refine RunK.step rfl rfl (ok_bin rfl rfl rfl) ?_; refine RunK.as (.int .i64 ((i + 1 : Nat) : Int)) (by rw [wrap_i64 (by omega) (by omega)]; first | rfl | (congr 1; omega)) ?_
    refine RunK.step rfl rfl (ok_assign rfl) ?_
    refine RunK.nil ?_
    refine End.sub (Sub.cons (t := 2) rfl (Sub.cons (t := 3) rfl (Sub.cons (t := 5) rfl (Sub.cons (t := 1000002) rfl (Sub.cons (t := 1000003) rfl Sub.nil))))) ?_
    refine End.normal_then ?_
    refine End.again (i + 1) ?_ ?_ ?_
    · show _ ≤ _; omega
    · show _ - _ < _ - _; omega
    · exact (Sub.cons (t := 2) rfl (Sub.cons (t := 3) rfl (Sub.cons (t := 5) rfl (Sub.cons (t := 1000002) rfl (Sub.cons (t := 1000003) rfl Sub.nil)))))
  · obtain rfl : i = 8 := by simp at hc7; omega
    refine A.exit ?_
    refine End.exit_then ?_
    refine End.exit_then ?_
    refine End.exit_here ?_
    refine End.normal_then (End.code ?_)
    refine A.regs (by kernel_rfl) (by kernel_rfl) (.inl rfl) ?_
    refine RunTK.last ?_
    refine RunK.step rfl rfl (ok_assign rfl) ?_
    refine RunK.nil ?_
    refine A.sub (Sub.cons (t := 4) rfl (Sub.cons (t := 1000002) rfl (Sub.cons (t := 1000003) rfl Sub.nil))) ?_
    refine A.ret ?_
    exact End.ret1 rfl rfl (by first | exact Le.refl _ | exact Le.old _ _)
theorem many_fn (n : Nat) (c : UInt8) (hn : n ≤ 1000000) : Fn Tryd.prog 14 [.v (.int .i64 ((n : Nat) : Int)), .v (byteV c)] (bytes (List.replicate n c) n) := by
  refine Fn.of Tryd.func14 rfl (by kernel_rfl) Tryd.ntmps14 (by simp) (fun w => [(0, .v (.int .i64 ((n : Nat) : Int))), (1, .v (byteV c))]) (fun w => (Start.v rfl (Start.v rfl Start.nil))) fun w₀ => ?_
  refine A.regs (by kernel_rfl) (by kernel_rfl) (.inl rfl) ?_
  refine RunTK.last ?_
  refine RunK.step rfl rfl (ok_assign rfl) ?_
  refine RunK.nil ?_
  refine A.sub (Sub.cons (t := 0) rfl (Sub.cons (t := 1) rfl Sub.nil)) ?_
  refine A.regs (by kernel_rfl) (by kernel_rfl) (.inl rfl) ?_
  refine RunTK.last ?_
  refine RunK.step rfl rfl (ok_move rfl) ?_
  refine RunK.step rfl rfl (ok_make n Tryd.underlying22 info5 (by decide) rfl rfl rfl rfl rfl (by omega)) ?_
  refine RunK.step rfl rfl (ok_assign rfl) ?_
  refine RunK.nil ?_
  refine A.sub (Sub.cons (t := 0) rfl (Sub.cons (t := 1) rfl (Sub.cons (t := 5) rfl Sub.nil))) ?_
  refine A.open (t := 5) (k := 1000000) rfl fun b hb => ?_
  refine A.seq ?_
  refine A.regs (by kernel_rfl) (by kernel_rfl) (.inl rfl) ?_
  refine RunTK.last ?_
  refine RunK.step rfl rfl (ok_assign rfl) ?_
  refine RunK.nil ?_
  refine A.sub (Sub.cons (t := 0) rfl (Sub.cons (t := 1) rfl (Sub.cons (t := 5) rfl (Sub.cons (t := 6) rfl (Sub.cons (t := 1000000) rfl Sub.nil))))) ?_
  refine A.block ?_
  refine A.loop (ι := Nat) (fun i => i ≤ n) (fun i => [(0, .v (.int .i64 ((n : Nat) : Int))), (1, .v (byteV c)), (5, .v (.slice (some ⟨b, 0, none⟩) n n)), (6, .v (.int .i64 ((i : Nat) : Int))), (1000000, blk b 5 (((List.replicate n c).take i).map byteV ++ List.replicate ((List.replicate n c).length - i) (.int .u8 0)))]) (fun i => n - i) 0 ?_ ?_ ?_
  · exact Nat.zero_le _
  · exact (Sub.cons (t := 0) rfl (Sub.cons (t := 1) rfl (Sub.eq (t := 5) _ rfl (by simp) (Sub.cons (t := 6) rfl (Sub.eq (t := 1000000) _ rfl (by simp) Sub.nil)))))
  intro i hi
  refine A.seq ?_
  refine A.regs (by kernel_rfl) (by kernel_rfl) (.inl rfl) ?_
  refine RunTK.last ?_
  refine RunK.step rfl rfl (ok_move rfl) ?_
  refine RunK.step rfl rfl (ok_move rfl) ?_
  refine RunK.step rfl rfl (ok_bin rfl rfl rfl) ?_
  refine RunK.nil ?_
  refine A.sub (Sub.cons (t := 0) rfl (Sub.cons (t := 1) rfl (Sub.cons (t := 5) rfl (Sub.cons (t := 6) rfl (Sub.cons (t := 11) rfl (Sub.cons (t := 1000000) rfl Sub.nil)))))) ?_
  refine A.cond rfl (fun hc11 => ?_) (fun hc11 => ?_)
  · have hlt : i < n := by simpa using hc11
    refine A.skip ?_
    refine End.normal_then (End.code ?_)
    refine A.seq ?_
    refine A.block ?_
    refine A.reg (by kernel_rfl) (by kernel_rfl) (.inl rfl) ?_
    refine RunTK.eff 4 (by decide) rfl (.inl rfl) ?_
    refine RunK.step rfl rfl (ok_move rfl) ?_
    refine RunK.step rfl rfl (ok_move rfl) ?_
    refine RunK.step rfl rfl (ok_move rfl) ?_
    refine RunK.step rfl rfl (ok_indexV i Tryd.underlying22 info5 rfl rfl rfl hlt) ?_
    refine RunK.nil ?_
    refine ⟨_, eff_store (n := 19) (s := 1000000) info5 rfl rfl rfl hb rfl (by simp; omega) (Left.cons (t := 0) rfl (Stays.v _ _) (Left.cons (t := 1) rfl (Stays.v _ _) (Left.cons (t := 5) rfl (Stays.v _ _) (Left.cons (t := 6) rfl (Stays.v _ _) (Left.cons (t := 11) rfl (Stays.v _ _) (Left.cons (t := 14) rfl (Stays.v _ _) (Left.cons (t := 15) rfl (Stays.v _ _) (Left.cons (t := 16) rfl (Stays.v _ _) (Left.cons (t := 17) rfl (Stays.v _ _) Left.nil))))))))), ?_⟩
    refine RunTK.last ?_
    refine RunK.nil ?_
    refine End.sub (Sub.cons (t := 0) rfl (Sub.cons (t := 1) rfl (Sub.cons (t := 5) rfl (Sub.cons (t := 6) rfl (Sub.cons (t := 1000000) rfl Sub.nil))))) ?_
    refine End.normal_block ?_
    refine End.normal_then (End.code ?_)
    refine A.reg (by kernel_rfl) (by kernel_rfl) (.inl rfl) ?_
    refine RunTK.last ?_
    refine RunK.step rfl rfl (ok_move rfl) ?_
    refine RunK.step rfl rfl (ok_bin rfl rfl rfl) ?_; refine RunK.as (.int .i64 ((i + 1 : Nat) : Int)) (by rw [wrap_i64 (by omega) (by omega)]; first | rfl | (congr 1; omega)) ?_
    refine RunK.step rfl rfl (ok_assign rfl) ?_
    refine RunK.nil ?_
    refine End.sub (Sub.cons (t := 0) rfl (Sub.cons (t := 1) rfl (Sub.cons (t := 5) rfl (Sub.cons (t := 6) rfl (Sub.cons (t := 1000000) rfl Sub.nil))))) ?_
    refine End.normal_then ?_
    refine End.again (i + 1) ?_ ?_ ?_
    · show _ ≤ _; omega
    · show _ - _ < _ - _; omega
    · exact (Sub.cons (t := 0) rfl (Sub.cons (t := 1) rfl (Sub.cons (t := 5) rfl (Sub.cons (t := 6) rfl (Sub.eq (t := 1000000) _ rfl (by rw [Nat.zero_add]; exact congrArg _ (fill_step (by simp [hlt]))) Sub.nil)))))
  · refine A.exit ?_
    refine End.exit_then ?_
    refine End.exit_then ?_
    refine End.exit_here ?_
    refine End.normal_then (End.code ?_)
    refine A.regs (by kernel_rfl) (by kernel_rfl) (.inl rfl) ?_
    refine RunTK.last ?_
    refine RunK.step rfl rfl (ok_move rfl) ?_
    refine RunK.step rfl rfl (ok_assign rfl) ?_
    refine RunK.nil ?_
    refine A.sub (Sub.cons (t := 4) rfl (Sub.cons (t := 1000000) rfl Sub.nil)) ?_
    refine A.ret ?_
    have hK : i = n := by simp at hc11; omega
    subst hK
    refine End.bytes 4 1000000 (List.replicate i c) rfl (by simp) rfl ?_ (by simp) (by simp only [maxLen]; omega) ?_
    · simp
    · exact End.ret1 rfl rfl (Le.refl _)
set_option maxHeartbeats 4000000 in
theorem lives3_fn  : FnM Tryd.prog 8 tabs [] (.v (.bool true)) := by
  refine FnM.of Tryd.func8 rfl (by kernel_rfl) Tryd.ntmps8 (by simp) (by decide) (fun w => [(1900000, tab 0 (H8.list.map u32V)), (1900001, tab 1 (K64.map u32V))]) (fun w => (StartM.m (by simp [tabs]) (by decide) (StartM.m (by simp [tabs]) (by decide) StartM.nil))) fun w₀ hM => ?_
  have htab := tabs_hi hM
  refine A.regs (by kernel_rfl) (by kernel_rfl) (.inl rfl) ?_
  refine RunTK.last ?_
  refine RunK.step rfl rfl (ok_assign rfl) ?_
  refine RunK.nil ?_
  refine A.sub (Sub.cons (t := 1900000) rfl (Sub.cons (t := 1900001) rfl Sub.nil)) ?_
  refine A.regs (by kernel_rfl) (by kernel_rfl) (.inl rfl) ?_
  refine RunTK.eff 1 (by decide) rfl (.inl rfl) ?_
  refine RunK.step rfl rfl (ok_buildT [74, 101, 102, 101] Tryd.underlying22 info5 rfl (by decide) (by decide) rfl ⟨rfl, rfl, rfl, rfl, rfl, rfl, rfl, rfl, trivial⟩) ?_
  refine RunK.nil ?_
  refine ⟨_, eff_convN (n := 37) Tryd.underlying22 Tryd.underlying5 rfl (by decide) (fun g hg => (LeftM.cons (t := 4) rfl (.stb) (LeftM.cons (t := 1900000) rfl (.of (Surv.tab (by omega))) (LeftM.cons (t := 1900001) rfl (.of (Surv.tab (by omega))) LeftM.nil)))), ?_⟩
  refine RunTK.eff 3 (by decide) rfl (.inl rfl) ?_
  refine RunK.step rfl rfl (ok_buildT [119, 104, 97, 116, 32, 100, 111, 32, 121, 97, 32, 119, 97, 110, 116, 32, 102, 111, 114, 32, 110, 111, 116, 104, 105, 110, 103, 63] Tryd.underlying22 info5 rfl (by decide) (by decide) rfl ⟨rfl, rfl, rfl, rfl, rfl, rfl, rfl, rfl, rfl, rfl, rfl, rfl, rfl, rfl, rfl, rfl, rfl, rfl, rfl, rfl, rfl, rfl, rfl, rfl, rfl, rfl, rfl, rfl, rfl, rfl, rfl, rfl, rfl, rfl, rfl, rfl, rfl, rfl, rfl, rfl, rfl, rfl, rfl, rfl, rfl, rfl, rfl, rfl, rfl, rfl, rfl, rfl, rfl, rfl, rfl, rfl, trivial⟩) ?_
  refine RunK.nil ?_
  refine ⟨_, eff_convN (n := 37) Tryd.underlying22 Tryd.underlying5 rfl (by decide) (fun g hg => (LeftM.cons (t := 4) rfl (.stb) (LeftM.cons (t := 5) rfl (.stb) (LeftM.cons (t := 6) rfl (.stb) (LeftM.cons (t := 1900000) rfl (.of (Surv.tab (by omega))) (LeftM.cons (t := 1900001) rfl (.of (Surv.tab (by omega))) LeftM.nil)))))), ?_⟩
  refine RunTK.last ?_
  refine RunK.step rfl rfl (ok_assign rfl) ?_
  refine RunK.step rfl rfl (ok_assign rfl) ?_
  refine RunK.nil ?_
  refine A.sub (Sub.cons (t := 1) rfl (Sub.cons (t := 2) rfl (Sub.cons (t := 1900000) rfl (Sub.cons (t := 1900001) rfl Sub.nil)))) ?_
  refine A.regs (by kernel_rfl) (by kernel_rfl) (.inl rfl) ?_
  refine RunTK.new 4 (by decide) rfl (.inl rfl) ?_
  refine RunK.step rfl rfl (ok_move rfl) ?_
  refine RunK.step rfl rfl (ok_move rfl) ?_
  refine RunK.step rfl rfl (ok_build [newT w₀.heap.size 5 [119, 104, 97, 116, 32, 100, 111, 32, 121, 97, 32, 119, 97, 110, 116, 32, 102, 111, 114, 32, 110, 111, 116, 104, 105, 110, 103, 63] 28] Tryd.underlying28 info22 rfl (by decide) (by decide) rfl ⟨rfl, rfl, trivial⟩ (fun d hd w x h => by simp only [List.mem_cons, List.not_mem_nil, or_false] at hd; subst hd; exact newT_one h)) ?_
  refine RunK.step rfl rfl (ok_callM (macOf_fn [74, 101, 102, 101] [[119, 104, 97, 116, 32, 100, 111, 32, 121, 97, 32, 119, 97, 110, 116, 32, 102, 111, 114, 32, 110, 111, 116, 104, 105, 110, 103, 63]] [119, 104, 97, 116, 32, 100, 111, 32, 121, 97, 32, 119, 97, 110, 116, 32, 102, 111, 114, 32, 110, 111, 116, 104, 105, 110, 103, 63] (by simp) (by simp) (by simp) (by simp)) (Sub.cons rfl (Sub.cons rfl Sub.nil)) tabs_v (Args.cons rfl newT_byt (Args.cons rfl (list_lst1 newT_byt) Args.nil))) ?_
  refine RunK.nil ?_
  refine ⟨_, _, eff_alloc (n := 37) (d := 3) (k := 1000003) zero30 (by decide), fun b3 hb3 => ?_⟩
  have hBb3 := hb3.1
  refine RunTK.eff 5 (by decide) rfl (.inl rfl) ?_
  refine RunK.nil ?_
  refine ⟨_, eff_storeA (n := 37) (s := 1000003) (size30.of (by rw [List.length_map, hmac_length])) rfl rfl (all_bytes _) hBb3 rfl (by rw [List.length_map, hmac_length, List.length_replicate]) (LeftS.cons (t := 1) rfl (Surv.newT (by decide)) (LeftS.cons (t := 2) rfl (Surv.newT (by decide)) (LeftS.cons (t := 3) rfl (Surv.v _) (LeftS.cons (t := 8) rfl (Surv.newT (by decide)) (LeftS.cons (t := 9) rfl (Surv.newT (by decide)) (LeftS.cons (t := 11) rfl (Surv.v _) (LeftS.cons (t := 1900000) rfl (Surv.tab (by omega)) (LeftS.cons (t := 1900001) rfl (Surv.tab (by omega)) LeftS.nil)))))))), ?_⟩
  refine RunTK.last ?_
  refine RunK.nil ?_
  refine A.sub (Sub.cons (t := 1) rfl (Sub.cons (t := 2) rfl (Sub.cons (t := 3) rfl (Sub.cons (t := 1000003) rfl (Sub.cons (t := 1900000) rfl (Sub.cons (t := 1900001) rfl Sub.nil)))))) ?_
  refine A.seq ?_
  refine A.regs (by kernel_rfl) (by kernel_rfl) (.inl rfl) ?_
  refine RunTK.eff 2 (by decide) rfl (.inl rfl) ?_
  refine RunK.step rfl rfl (ok_call (many_fn 20 11 (by omega)) (Args.cons rfl (Le.refl _) (Args.cons rfl (Le.refl _) Args.nil))) ?_
  refine RunK.step rfl rfl (ok_buildT [72, 105, 32, 84, 104, 101, 114, 101] Tryd.underlying22 info5 rfl (by decide) (by decide) rfl ⟨rfl, rfl, rfl, rfl, rfl, rfl, rfl, rfl, rfl, rfl, rfl, rfl, rfl, rfl, rfl, rfl, trivial⟩) ?_
  refine RunK.nil ?_
  refine ⟨_, eff_convN (n := 37) Tryd.underlying22 Tryd.underlying5 rfl (by decide) (fun g hg => (LeftM.cons (t := 1) rfl (.stb) (LeftM.cons (t := 2) rfl (.stb) (LeftM.cons (t := 3) rfl (.of (Surv.v _)) (LeftM.cons (t := 12) rfl (.stb) (LeftM.cons (t := 13) rfl (.stb) (LeftM.cons (t := 1000003) rfl (.of (Surv.blkT (by decide))) (LeftM.cons (t := 1900000) rfl (.of (Surv.tab (by omega))) (LeftM.cons (t := 1900001) rfl (.of (Surv.tab (by omega))) LeftM.nil))))))))), ?_⟩
  refine RunTK.last ?_
  refine RunK.step rfl rfl (ok_build [newT w₀.heap.size 5 [72, 105, 32, 84, 104, 101, 114, 101] 8] Tryd.underlying28 info22 rfl (by decide) (by decide) rfl ⟨rfl, rfl, trivial⟩ (fun d hd w x h => by simp only [List.mem_cons, List.not_mem_nil, or_false] at hd; subst hd; exact newT_one h)) ?_
  refine RunK.step rfl rfl (ok_callM (macOf_fn (List.replicate 20 11) [[72, 105, 32, 84, 104, 101, 114, 101]] [72, 105, 32, 84, 104, 101, 114, 101] (by simp) (by simp) (by simp) (by simp)) (Sub.cons rfl (Sub.cons rfl Sub.nil)) tabs_v (Args.cons rfl (le_byt _ _) (Args.cons rfl (list_lst1 newT_byt) Args.nil))) ?_
  refine RunK.step rfl rfl (ok_litA [_, _, _, _, _, _, _, _] Tryd.underlying42 info41 zero42 rfl ⟨rfl, rfl, rfl, rfl, rfl, rfl, rfl, rfl, rfl, rfl, rfl, rfl, rfl, rfl, rfl, rfl, trivial⟩ rfl) ?_; refine RunK.as (aggV ((hmacR (List.replicate 20 11) [72, 105, 32, 84, 104, 101, 114, 101]).list.map u32V)) (by kernel_rfl) ?_
  refine RunK.step rfl rfl (ok_call (is3_fn (kpad 92 (List.replicate 20 11) ++ sha (kpad 54 (List.replicate 20 11) ++ [72, 105, 32, 84, 104, 101, 114, 101]))) (Args.cons rfl (Le.refl _) (Args.cons rfl (Le.refl _) Args.nil))) ?_
  refine RunK.step rfl rfl (ok_not rfl) ?_; refine RunK.as (.bool false) (by rfl) ?_
  refine RunK.nil ?_
  refine A.sub (Sub.cons (t := 1) rfl (Sub.cons (t := 2) rfl (Sub.cons (t := 3) rfl (Sub.cons (t := 19) rfl (Sub.cons (t := 1000003) rfl (Sub.cons (t := 1900000) rfl (Sub.cons (t := 1900001) rfl Sub.nil))))))) ?_
  refine A.no rfl ?_
  refine A.skip ?_
  refine End.normal_then (End.code ?_)
  refine A.regs (by kernel_rfl) (by kernel_rfl) (.inr (by kernel_rfl)) ?_
  refine RunTK.last ?_
  refine RunK.step rfl rfl (ok_loadA (s := 1000003) (by decide) Tryd.underlying30 rfl (size30.of (by rw [List.length_map, hmac_length])) rfl rfl) ?_
  refine RunK.step rfl rfl (ok_litA [_, _, _, _, _, _, _, _] Tryd.underlying42 info41 zero42 rfl ⟨rfl, rfl, rfl, rfl, rfl, rfl, rfl, rfl, rfl, rfl, rfl, rfl, rfl, rfl, rfl, rfl, trivial⟩ rfl) ?_; refine RunK.as (aggV ((hmacR [74, 101, 102, 101] [119, 104, 97, 116, 32, 100, 111, 32, 121, 97, 32, 119, 97, 110, 116, 32, 102, 111, 114, 32, 110, 111, 116, 104, 105, 110, 103, 63]).list.map u32V)) (by kernel_rfl) ?_
  refine RunK.step rfl rfl (ok_call (is3_fn (kpad 92 [74, 101, 102, 101] ++ sha (kpad 54 [74, 101, 102, 101] ++ [119, 104, 97, 116, 32, 100, 111, 32, 121, 97, 32, 119, 97, 110, 116, 32, 102, 111, 114, 32, 110, 111, 116, 104, 105, 110, 103, 63]))) (Args.cons rfl (Le.refl _) (Args.cons rfl (Le.refl _) Args.nil))) ?_
  refine RunK.step rfl rfl (ok_move rfl) ?_
  refine RunK.guarded rfl rfl rfl rfl (ok_move rfl) ?_
  refine RunK.guarded rfl rfl rfl rfl (ok_move rfl) ?_
  refine RunK.guarded rfl rfl rfl rfl (ok_loadA (s := 1000003) (by decide) Tryd.underlying30 rfl (size30.of (by rw [List.length_map, hmac_length])) rfl rfl) ?_
  refine RunK.guarded rfl rfl rfl rfl (ok_callM (macVerify_fn [74, 101, 102, 101] [119, 104, 97, 116, 32, 100, 111, 32, 121, 97, 32, 119, 97, 110, 116, 32, 102, 111, 114, 32, 110, 111, 116, 104, 105, 110, 103, 63] (hmac [74, 101, 102, 101] [119, 104, 97, 116, 32, 100, 111, 32, 121, 97, 32, 119, 97, 110, 116, 32, 102, 111, 114, 32, 110, 111, 116, 104, 105, 110, 103, 63]) (by first | decide | omega) (by first | decide | omega) (by first | decide | exact hmac_length _ _)) (Sub.cons rfl (Sub.cons rfl Sub.nil)) tabs_v (Args.cons rfl newT_byt (Args.cons rfl newT_byt (Args.cons rfl (Le.refl _) Args.nil)))) ?_; refine RunK.as (.bool true) (by simp) ?_
  refine RunK.step rfl rfl (ok_pick rfl rfl) ?_
  refine RunK.step rfl rfl (ok_move rfl) ?_
  refine RunK.guarded rfl rfl rfl rfl (ok_move rfl) ?_
  refine RunK.guarded rfl rfl rfl rfl (ok_move rfl) ?_
  refine RunK.guarded rfl rfl rfl rfl (ok_slice (ds := ([119, 104, 97, 116, 32, 100, 111, 32, 121, 97, 32, 119, 97, 110, 116, 32, 102, 111, 114, 32, 110, 111, 116, 104, 105, 110, 103, 63] : List UInt8).map byteD) 0 15 Tryd.underlying22 info5 rfl newT_byt (.inr ⟨rfl, rfl⟩) (.inl ⟨_, _, rfl, rfl⟩) (by decide) (by decide)) ?_
  refine RunK.guarded rfl rfl rfl rfl (ok_loadA (s := 1000003) (by decide) Tryd.underlying30 rfl (size30.of (by rw [List.length_map, hmac_length])) rfl rfl) ?_
  refine RunK.guarded rfl rfl rfl rfl (ok_callM (macVerify_fn [74, 101, 102, 101] [119, 104, 97, 116, 32, 100, 111, 32, 121, 97, 32, 119, 97, 110, 116] (hmac [74, 101, 102, 101] [119, 104, 97, 116, 32, 100, 111, 32, 121, 97, 32, 119, 97, 110, 116, 32, 102, 111, 114, 32, 110, 111, 116, 104, 105, 110, 103, 63]) (by first | decide | omega) (by first | decide | omega) (by first | decide | exact hmac_length _ _)) (Sub.cons rfl (Sub.cons rfl Sub.nil)) tabs_v (Args.cons rfl newT_byt (Args.cons rfl (Le.eq rfl) (Args.cons rfl (Le.refl _) Args.nil)))) ?_; refine RunK.as (.bool false) (by kernel_rfl) ?_
  refine RunK.guarded rfl rfl rfl rfl (ok_not rfl) ?_
  refine RunK.step rfl rfl (ok_pick rfl rfl) ?_
  refine RunK.step rfl rfl (ok_assign rfl) ?_
  refine RunK.nil ?_
  refine A.sub (Sub.cons (t := 0) rfl (Sub.cons (t := 1000003) rfl (Sub.cons (t := 1900000) rfl (Sub.cons (t := 1900001) rfl Sub.nil)))) ?_
  refine A.ret ?_
  exact End.ret1 rfl rfl (by first | exact Le.refl _ | exact Le.old _ _)
set_option maxHeartbeats 1000000 in
theorem MacsBlock_fn (k : List UInt8) : FnM Tryd.prog 3 tabs [byt k] (.v (.bool true)) := by
  refine FnM.of Tryd.func3 rfl (by kernel_rfl) Tryd.ntmps3 (by simp) (by decide) (fun w => [(0, old w.heap.size (byt k)), (1900000, tab 0 (H8.list.map u32V)), (1900001, tab 1 (K64.map u32V))]) (fun w => (StartM.old rfl (StartM.m (by simp [tabs]) (by decide) (StartM.m (by simp [tabs]) (by decide) StartM.nil)))) fun w₀ hM => ?_
  have htab := tabs_hi hM
  refine A.regs (by kernel_rfl) (by kernel_rfl) (.inl rfl) ?_
  refine RunTK.last ?_
  refine RunK.step rfl rfl (ok_assign rfl) ?_
  refine RunK.nil ?_
  refine A.sub (Sub.cons (t := 0) rfl (Sub.cons (t := 1900000) rfl (Sub.cons (t := 1900001) rfl Sub.nil))) ?_
  refine A.seq ?_
  refine A.regs (by kernel_rfl) (by kernel_rfl) (.inl rfl) ?_
  refine RunTK.last ?_
  refine RunK.step rfl rfl (ok_move rfl) ?_
  refine RunK.step rfl rfl (ok_lenB Tryd.underlying22 rfl (Le.old _ _)) ?_
  refine RunK.step rfl rfl (ok_bin rfl rfl rfl) ?_
  refine RunK.nil ?_
  refine A.sub (Sub.cons (t := 0) rfl (Sub.cons (t := 7) rfl (Sub.cons (t := 1900000) rfl (Sub.cons (t := 1900001) rfl Sub.nil)))) ?_
  refine A.cond rfl (fun hc7 => ?_) (fun hc7 => ?_)
  · refine A.regs (by kernel_rfl) (by kernel_rfl) (.inl rfl) ?_
    refine RunTK.last ?_
    refine RunK.step rfl rfl (ok_callM lives3_fn (Sub.cons rfl (Sub.cons rfl Sub.nil)) tabs_v Args.nil) ?_
    refine RunK.step rfl rfl (ok_assign rfl) ?_
    refine RunK.nil ?_
    refine A.sub (Sub.cons (t := 2) rfl (Sub.cons (t := 1900000) rfl (Sub.cons (t := 1900001) rfl Sub.nil))) ?_
    refine A.ret ?_
    refine End.ret_then ?_
    exact End.ret1 rfl rfl (by first | exact Le.refl _ | exact Le.old _ _)
  · have hk : k.length ≤ 200 := by simp at hc7; omega
    refine A.skip ?_
    refine End.normal_then (End.code ?_)
    refine A.regs (by kernel_rfl) (by kernel_rfl) (.inl rfl) ?_
    refine RunTK.last ?_
    refine RunK.step rfl rfl (ok_move rfl) ?_
    refine RunK.step rfl rfl (ok_str Tryd.underlying22 Tryd.underlying5 Tryd.underlying9 rfl (by first | exact Le.refl _ | exact Le.old _ _ | exact le_byt _ _ | exact (Le.old _ _).trans (le_byt _ _) | exact le_lst _ _ | exact (Le.old _ _).trans (le_lst _ _) | exact (Le.old _ _).trans (Le.old _ _) | exact (Le.old _ _).trans ((Le.old _ _).trans (le_byt _ _)) | exact byt_nil_le | exact lst_nil_le | exact bytes_nil_le | exact list_nil_le)) ?_
    refine RunK.step rfl rfl (ok_assign rfl) ?_
    refine RunK.nil ?_
    refine A.sub (Sub.cons (t := 0) rfl (Sub.cons (t := 3) rfl (Sub.cons (t := 1900000) rfl (Sub.cons (t := 1900001) rfl Sub.nil)))) ?_
    refine A.regs (by kernel_rfl) (by kernel_rfl) (.inl rfl) ?_
    refine RunTK.new 2 (by decide) rfl (.inl rfl) ?_
    refine RunK.step rfl rfl (ok_move rfl) ?_
    refine RunK.step rfl rfl (ok_callM (macBlock_fn k (by omega)) (Sub.cons rfl (Sub.cons rfl Sub.nil)) tabs_v (Args.cons rfl (by first | exact Le.refl _ | exact Le.old _ _ | exact le_byt _ _ | exact (Le.old _ _).trans (le_byt _ _) | exact le_lst _ _ | exact (Le.old _ _).trans (le_lst _ _) | exact (Le.old _ _).trans (Le.old _ _) | exact (Le.old _ _).trans ((Le.old _ _).trans (le_byt _ _)) | exact byt_nil_le | exact lst_nil_le | exact bytes_nil_le | exact list_nil_le) Args.nil)) ?_
    refine RunK.nil ?_
    refine ⟨_, _, eff_alloc (n := 28) (d := 4) (k := 1000004) zero24 (by decide), fun b4 hb4 => ?_⟩
    have hBb4 := hb4.1
    refine RunTK.eff 3 (by decide) rfl (.inl rfl) ?_
    refine RunK.nil ?_
    refine ⟨_, eff_storeA (n := 28) (s := 1000004) (size24.of (by rw [List.length_map, kblock_length])) rfl rfl (all_bytes _) hBb4 rfl (by rw [List.length_map, kblock_length, List.length_replicate]) (LeftS.cons (t := 0) rfl (Surv.old (by omega)) (LeftS.cons (t := 3) rfl (Surv.v _) (LeftS.cons (t := 4) rfl (Surv.v _) (LeftS.cons (t := 11) rfl (Surv.old (by omega)) (LeftS.cons (t := 12) rfl (Surv.v _) (LeftS.cons (t := 1900000) rfl (Surv.tab (by omega)) (LeftS.cons (t := 1900001) rfl (Surv.tab (by omega)) LeftS.nil))))))), ?_⟩
    refine RunTK.last ?_
    refine RunK.nil ?_
    refine A.sub (Sub.cons (t := 0) rfl (Sub.cons (t := 3) rfl (Sub.cons (t := 4) rfl (Sub.cons (t := 1000004) rfl (Sub.cons (t := 1900000) rfl (Sub.cons (t := 1900001) rfl Sub.nil)))))) ?_
    refine A.regs (by kernel_rfl) (by kernel_rfl) (.inr (by kernel_rfl)) ?_
    refine RunTK.last ?_
    refine RunK.step rfl rfl (ok_sliceA (s := 1000004) 0 64 (by decide) Tryd.underlying24 info5 rfl rfl (.inr ⟨rfl, rfl⟩) (.inr ⟨rfl, rfl⟩) (by omega) (by omega) (by rw [List.length_map, kblock_length]) (by decide)) ?_
    refine RunK.step rfl rfl (ok_str (l := kblock k) Tryd.underlying22 Tryd.underlying5 Tryd.underlying9 rfl (Le.eq (by rw [byt_vals]; congr 2; rw [List.drop_zero, List.take_of_length_le (by rw [List.length_map, kblock_length]; exact Nat.le_refl _)]))) ?_
    refine RunK.step rfl rfl (ok_move rfl) ?_
    refine RunK.step rfl rfl (ok_callB (ref3Block_fnB k (by omega)) (fun _ _ h => own_mono h) (Args.cons rfl (Le.old _ _) Args.nil)) ?_
    refine RunK.step rfl rfl (ok_str (l := kblock k) Tryd.underlying22 Tryd.underlying5 Tryd.underlying9 rfl (own_cat rfl (kblock_length k).symm)) ?_
    refine RunK.step rfl rfl (ok_seq rfl rfl) ?_; refine RunK.as (.bool true) (by simp) ?_
    refine RunK.step rfl rfl (ok_move rfl) ?_
    refine RunK.guarded rfl rfl rfl rfl (ok_move rfl) ?_
    refine RunK.guarded rfl rfl rfl rfl (ok_str Tryd.underlying22 Tryd.underlying5 Tryd.underlying9 rfl (by first | exact Le.refl _ | exact Le.old _ _ | exact le_byt _ _ | exact (Le.old _ _).trans (le_byt _ _) | exact le_lst _ _ | exact (Le.old _ _).trans (le_lst _ _) | exact (Le.old _ _).trans (Le.old _ _) | exact (Le.old _ _).trans ((Le.old _ _).trans (le_byt _ _)) | exact byt_nil_le | exact lst_nil_le | exact bytes_nil_le | exact list_nil_le)) ?_
    refine RunK.guarded rfl rfl rfl rfl (ok_move rfl) ?_
    refine RunK.guarded rfl rfl rfl rfl (ok_seq rfl rfl) ?_; refine RunK.as (.bool true) (by simp) ?_
    refine RunK.step rfl rfl (ok_pick rfl rfl) ?_
    refine RunK.step rfl rfl (ok_move rfl) ?_
    refine RunK.guarded rfl rfl rfl rfl (ok_callM lives3_fn (Sub.cons rfl (Sub.cons rfl Sub.nil)) tabs_v Args.nil) ?_
    refine RunK.step rfl rfl (ok_pick rfl rfl) ?_
    refine RunK.step rfl rfl (ok_assign rfl) ?_
    refine RunK.nil ?_
    refine A.sub (Sub.cons (t := 2) rfl (Sub.cons (t := 1000004) rfl (Sub.cons (t := 1900000) rfl (Sub.cons (t := 1900001) rfl Sub.nil)))) ?_
    refine A.ret ?_
    exact End.ret1 rfl rfl (by first | exact Le.refl _ | exact Le.old _ _)
theorem MacsOf_fnA (k : List UInt8) (ps : List (List UInt8)) (h : 200 < k.length) : FnM Tryd.prog 4 tabs [byt k, lst (ps.map byt)] (.v (.bool true)) := by
  refine FnM.of Tryd.func4 rfl (by kernel_rfl) Tryd.ntmps4 (by simp) (by decide) (fun w => [(0, old w.heap.size (byt k)), (1, old w.heap.size (lst (ps.map byt))), (1900000, tab 0 (H8.list.map u32V)), (1900001, tab 1 (K64.map u32V))]) (fun w => (StartM.old rfl (StartM.old rfl (StartM.m (by simp [tabs]) (by decide) (StartM.m (by simp [tabs]) (by decide) StartM.nil))))) fun w₀ hM => ?_
  have htab := tabs_hi hM
  refine A.regs (by kernel_rfl) (by kernel_rfl) (.inl rfl) ?_
  refine RunTK.last ?_
  refine RunK.step rfl rfl (ok_assign rfl) ?_
  refine RunK.nil ?_
  refine A.sub (Sub.cons (t := 0) rfl (Sub.cons (t := 1) rfl (Sub.cons (t := 1900000) rfl (Sub.cons (t := 1900001) rfl Sub.nil)))) ?_
  refine A.seq ?_
  refine A.regs (by kernel_rfl) (by kernel_rfl) (.inl rfl) ?_
  refine RunTK.last ?_
  refine RunK.step rfl rfl (ok_move rfl) ?_
  refine RunK.step rfl rfl (ok_lenB Tryd.underlying22 rfl (Le.old _ _)) ?_
  refine RunK.step rfl rfl (ok_bin rfl rfl rfl) ?_; refine RunK.as (.bool true) (by simp; omega) ?_
  refine RunK.step rfl rfl (ok_move rfl) ?_
  refine RunK.skipped rfl rfl rfl rfl rfl ?_
  refine RunK.skipped rfl rfl rfl rfl rfl ?_
  refine RunK.skipped rfl rfl rfl rfl rfl ?_
  refine RunK.step rfl rfl (ok_pick rfl rfl) ?_
  refine RunK.nil ?_
  refine A.sub (Sub.cons (t := 0) rfl (Sub.cons (t := 1) rfl (Sub.cons (t := 15) rfl (Sub.cons (t := 1900000) rfl (Sub.cons (t := 1900001) rfl Sub.nil))))) ?_
  refine A.yes rfl ?_
  refine A.regs (by kernel_rfl) (by kernel_rfl) (.inl rfl) ?_
  refine RunTK.last ?_
  refine RunK.step rfl rfl (ok_callM lives3_fn (Sub.cons rfl (Sub.cons rfl Sub.nil)) tabs_v Args.nil) ?_
  refine RunK.step rfl rfl (ok_assign rfl) ?_
  refine RunK.nil ?_
  refine A.sub (Sub.cons (t := 4) rfl (Sub.cons (t := 1900000) rfl (Sub.cons (t := 1900001) rfl Sub.nil))) ?_
  refine A.ret ?_
  refine End.ret_then ?_
  exact End.ret1 rfl rfl (by first | exact Le.refl _ | exact Le.old _ _)
set_option maxHeartbeats 2000000 in
theorem MacsOf_fnB (k : List UInt8) (ps : List (List UInt8)) (hk : k.length ≤ 200) : FnM Tryd.prog 4 tabs [byt k, lst (ps.map byt)] (.v (.bool true)) := by
  refine FnM.of Tryd.func4 rfl (by kernel_rfl) Tryd.ntmps4 (by simp) (by decide) (fun w => [(0, old w.heap.size (byt k)), (1, old w.heap.size (lst (ps.map byt))), (1900000, tab 0 (H8.list.map u32V)), (1900001, tab 1 (K64.map u32V))]) (fun w => (StartM.old rfl (StartM.old rfl (StartM.m (by simp [tabs]) (by decide) (StartM.m (by simp [tabs]) (by decide) StartM.nil))))) fun w₀ hM => ?_
  have htab := tabs_hi hM
  refine A.regs (by kernel_rfl) (by kernel_rfl) (.inl rfl) ?_
  refine RunTK.last ?_
  refine RunK.step rfl rfl (ok_assign rfl) ?_
  refine RunK.nil ?_
  refine A.sub (Sub.cons (t := 0) rfl (Sub.cons (t := 1) rfl (Sub.cons (t := 1900000) rfl (Sub.cons (t := 1900001) rfl Sub.nil)))) ?_
  refine A.seq ?_
  refine A.regs (by kernel_rfl) (by kernel_rfl) (.inl rfl) ?_
  refine RunTK.last ?_
  refine RunK.step rfl rfl (ok_move rfl) ?_
  refine RunK.step rfl rfl (ok_lenB Tryd.underlying22 rfl (Le.old _ _)) ?_
  refine RunK.step rfl rfl (ok_bin rfl rfl rfl) ?_; refine RunK.as (.bool false) (by simp; omega) ?_
  refine RunK.step rfl rfl (ok_move rfl) ?_
  refine RunK.guarded rfl rfl rfl rfl (ok_move rfl) ?_
  refine RunK.guarded rfl rfl rfl rfl (ok_len Tryd.underlying28 rfl (by first | exact Le.refl _ | exact Le.old _ _ | exact le_byt _ _ | exact (Le.old _ _).trans (le_byt _ _) | exact le_lst _ _ | exact (Le.old _ _).trans (le_lst _ _) | exact (Le.old _ _).trans (Le.old _ _) | exact (Le.old _ _).trans ((Le.old _ _).trans (le_byt _ _)) | exact byt_nil_le | exact lst_nil_le | exact bytes_nil_le | exact list_nil_le)) ?_; refine RunK.as (.int .i64 (ps.length : Int)) (by simp) ?_
  refine RunK.guarded rfl rfl rfl rfl (ok_bin rfl rfl rfl) ?_
  refine RunK.step rfl rfl (ok_pick rfl rfl) ?_
  refine RunK.nil ?_
  refine A.sub (Sub.cons (t := 0) rfl (Sub.cons (t := 1) rfl (Sub.cons (t := 15) rfl (Sub.cons (t := 1900000) rfl (Sub.cons (t := 1900001) rfl Sub.nil))))) ?_
  refine A.cond rfl (fun hc15 => ?_) (fun hc15 => ?_)
  · refine A.regs (by kernel_rfl) (by kernel_rfl) (.inl rfl) ?_
    refine RunTK.last ?_
    refine RunK.step rfl rfl (ok_callM lives3_fn (Sub.cons rfl (Sub.cons rfl Sub.nil)) tabs_v Args.nil) ?_
    refine RunK.step rfl rfl (ok_assign rfl) ?_
    refine RunK.nil ?_
    refine A.sub (Sub.cons (t := 4) rfl (Sub.cons (t := 1900000) rfl (Sub.cons (t := 1900001) rfl Sub.nil))) ?_
    refine A.ret ?_
    refine End.ret_then ?_
    exact End.ret1 rfl rfl (by first | exact Le.refl _ | exact Le.old _ _)
  · have hp5 : ps.length ≤ 5 := by simp at hc15; omega
    refine A.skip ?_
    refine End.normal_then (End.code ?_)
    refine A.regs (by kernel_rfl) (by kernel_rfl) (.inl rfl) ?_
    refine RunTK.last ?_
    refine RunK.step rfl rfl (ok_assign rfl) ?_
    refine RunK.nil ?_
    refine A.sub (Sub.cons (t := 0) rfl (Sub.cons (t := 1) rfl (Sub.cons (t := 5) rfl (Sub.cons (t := 1900000) rfl (Sub.cons (t := 1900001) rfl Sub.nil))))) ?_
    refine A.seq ?_
    refine A.regs (by kernel_rfl) (by kernel_rfl) (.inl rfl) ?_
    refine RunTK.last ?_
    refine RunK.step rfl rfl (ok_assign rfl) ?_
    refine RunK.nil ?_
    refine A.sub (Sub.cons (t := 0) rfl (Sub.cons (t := 1) rfl (Sub.cons (t := 5) rfl (Sub.cons (t := 6) rfl (Sub.cons (t := 1900000) rfl (Sub.cons (t := 1900001) rfl Sub.nil)))))) ?_
    refine A.block ?_
    refine A.subL (SubL.cons (t := 0) rfl (Le.refl _) (SubL.cons (t := 1) rfl (Le.refl _) (SubL.cons (t := 5) rfl (own_nil (B := w₀.heap.size) (e := 5)) (SubL.cons (t := 6) rfl (Le.refl _) (SubL.cons (t := 1900000) rfl (Le.refl _) (SubL.cons (t := 1900001) rfl (Le.refl _) SubL.nil)))))) ?_
    refine A.loop (ι := Nat) (fun i => i ≤ ps.length ∧ ((ps.take i).flatten).length ≤ 100 * i) (fun i => [(0, old w₀.heap.size (byt k)), (1, old w₀.heap.size (lst (ps.map byt))), (5, own w₀.heap.size 5 ((ps.take i).flatten).length (((ps.take i).flatten).map byteV)), (6, .v (.int .i64 (i : Int))), (1900000, tab 0 (H8.list.map u32V)), (1900001, tab 1 (K64.map u32V))]) (fun i => ps.length - i) 0 ?_ ?_ ?_
    · exact ⟨Nat.zero_le _, by simp⟩
    · exact (Sub.cons (t := 0) rfl (Sub.cons (t := 1) rfl (Sub.eq (t := 5) _ rfl (by simp) (Sub.cons (t := 6) rfl (Sub.cons (t := 1900000) rfl (Sub.cons (t := 1900001) rfl Sub.nil))))))
    intro i hs
    obtain ⟨hs1, hs2⟩ := hs
    refine A.seq ?_
    refine A.regs (by kernel_rfl) (by kernel_rfl) (.inl rfl) ?_
    refine RunTK.last ?_
    refine RunK.step rfl rfl (ok_move rfl) ?_
    refine RunK.step rfl rfl (ok_move rfl) ?_
    refine RunK.step rfl rfl (ok_len Tryd.underlying28 rfl (by first | exact Le.refl _ | exact Le.old _ _ | exact le_byt _ _ | exact (Le.old _ _).trans (le_byt _ _) | exact le_lst _ _ | exact (Le.old _ _).trans (le_lst _ _) | exact (Le.old _ _).trans (Le.old _ _) | exact (Le.old _ _).trans ((Le.old _ _).trans (le_byt _ _)) | exact byt_nil_le | exact lst_nil_le | exact bytes_nil_le | exact list_nil_le)) ?_; refine RunK.as (.int .i64 (ps.length : Int)) (by simp) ?_
    refine RunK.step rfl rfl (ok_bin rfl rfl rfl) ?_
    refine RunK.nil ?_
    refine A.sub (Sub.cons (t := 0) rfl (Sub.cons (t := 1) rfl (Sub.cons (t := 5) rfl (Sub.cons (t := 6) rfl (Sub.cons (t := 20) rfl (Sub.cons (t := 1900000) rfl (Sub.cons (t := 1900001) rfl Sub.nil))))))) ?_
    refine A.cond rfl (fun hc20 => ?_) (fun hc20 => ?_)
    · have hlt : i < ps.length := by simp at hc20; omega
      have hget : ps[i]? = some ps[i] := List.getElem?_eq_getElem hlt
      refine A.skip ?_
      refine End.normal_then (End.code ?_)
      refine A.seq ?_
      refine A.block ?_
      refine A.seq ?_
      refine A.regs (by kernel_rfl) (by kernel_rfl) (.inl rfl) ?_
      refine RunTK.last ?_
      refine RunK.step rfl rfl (ok_move rfl) ?_
      refine RunK.step rfl rfl (ok_move rfl) ?_
      refine RunK.step rfl rfl (ok_index (d := byt ps[i]) Tryd.underlying28 info22 rfl (by first | exact Le.refl _ | exact Le.old _ _ | exact le_byt _ _ | exact (Le.old _ _).trans (le_byt _ _) | exact le_lst _ _ | exact (Le.old _ _).trans (le_lst _ _) | exact (Le.old _ _).trans (Le.old _ _) | exact (Le.old _ _).trans ((Le.old _ _).trans (le_byt _ _)) | exact byt_nil_le | exact lst_nil_le | exact bytes_nil_le | exact list_nil_le) rfl (by omega) (by simp [hlt])) ?_
      refine RunK.step rfl rfl (ok_load Tryd.underlying22 rfl rfl) ?_
      refine RunK.step rfl rfl (ok_lenB Tryd.underlying22 rfl (Le.refl _)) ?_
      refine RunK.step rfl rfl (ok_bin rfl rfl rfl) ?_
      refine RunK.nil ?_
      refine A.sub (Sub.cons (t := 0) rfl (Sub.cons (t := 1) rfl (Sub.cons (t := 5) rfl (Sub.cons (t := 6) rfl (Sub.cons (t := 28) rfl (Sub.cons (t := 1900000) rfl (Sub.cons (t := 1900001) rfl Sub.nil))))))) ?_
      refine A.cond rfl (fun hc28 => ?_) (fun hc28 => ?_)
      · refine A.regs (by kernel_rfl) (by kernel_rfl) (.inl rfl) ?_
        refine RunTK.last ?_
        refine RunK.step rfl rfl (ok_callM lives3_fn (Sub.cons rfl (Sub.cons rfl Sub.nil)) tabs_v Args.nil) ?_
        refine RunK.step rfl rfl (ok_assign rfl) ?_
        refine RunK.nil ?_
        refine A.sub (Sub.cons (t := 4) rfl (Sub.cons (t := 1900000) rfl (Sub.cons (t := 1900001) rfl Sub.nil))) ?_
        refine A.ret ?_
        refine End.ret_then ?_
        refine End.ret_block ?_
        refine End.ret_then ?_
        refine End.ret_then ?_
        refine End.ret_block ?_
        refine End.ret_then ?_
        exact End.ret1 rfl rfl (by first | exact Le.refl _ | exact Le.old _ _)
      · have h100 : ps[i].length ≤ 100 := by simp at hc28; omega
        have hf1 : ((ps.take (i + 1)).flatten).length = ((ps.take i).flatten).length + ps[i].length := by rw [flatten_take_succ hget, List.length_append]
        refine A.skip ?_
        refine End.normal_then (End.code ?_)
        refine A.reg (by kernel_rfl) (by kernel_rfl) (.inl rfl) ?_
        refine RunTK.eff 5 (by decide) rfl (.inl rfl) ?_
        refine RunK.step rfl rfl (ok_move rfl) ?_
        refine RunK.step rfl rfl (ok_move rfl) ?_
        refine RunK.step rfl rfl (ok_move rfl) ?_
        refine RunK.step rfl rfl (ok_index (d := byt ps[i]) Tryd.underlying28 info22 rfl (by first | exact Le.refl _ | exact Le.old _ _ | exact le_byt _ _ | exact (Le.old _ _).trans (le_byt _ _) | exact le_lst _ _ | exact (Le.old _ _).trans (le_lst _ _) | exact (Le.old _ _).trans (Le.old _ _) | exact (Le.old _ _).trans ((Le.old _ _).trans (le_byt _ _)) | exact byt_nil_le | exact lst_nil_le | exact bytes_nil_le | exact list_nil_le) rfl (by omega) (by simp [hlt])) ?_
        refine RunK.step rfl rfl (ok_load Tryd.underlying22 rfl rfl) ?_
        refine RunK.nil ?_
        refine ⟨_, eff_appendS (vs := ps[i].map byteV) Tryd.underlying22 info5 (by decide) rfl rfl rfl (Le.eq (byt_vals _)) (by simp [byteV, Value.oneCell']) (by simp only [List.length_map]; omega) (by decide) (fun g hg => (LeftS.cons (t := 0) rfl (Surv.old (by omega)) (LeftS.cons (t := 1) rfl (Surv.old (by omega)) (LeftS.cons (t := 6) rfl (Surv.v _) (LeftS.cons (t := 28) rfl (Surv.v _) (LeftS.cons (t := 31) rfl (Surv.old (by omega)) (LeftS.cons (t := 32) rfl (Surv.v _) (LeftS.cons (t := 1900000) rfl (Surv.tab (by omega)) (LeftS.cons (t := 1900001) rfl (Surv.tab (by omega)) LeftS.nil))))))))), ?_⟩
        refine RunTK.last ?_
        refine RunK.step rfl rfl (ok_assign rfl) ?_
        refine RunK.nil ?_
        refine End.sub (Sub.cons (t := 0) rfl (Sub.cons (t := 1) rfl (Sub.eq (t := 5) _ rfl (show own w₀.heap.size 5 (((ps.take i).flatten).length + (ps[i].map byteV).length) (((ps.take i).flatten).map byteV ++ ps[i].map byteV) = own w₀.heap.size 5 ((ps.take (i + 1)).flatten).length (((ps.take (i + 1)).flatten).map byteV) from by rw [flatten_take_succ hget]; simp) (Sub.cons (t := 6) rfl (Sub.cons (t := 1900000) rfl (Sub.cons (t := 1900001) rfl Sub.nil)))))) ?_
        refine End.normal_block ?_
        refine End.normal_then (End.code ?_)
        refine A.reg (by kernel_rfl) (by kernel_rfl) (.inl rfl) ?_
        refine RunTK.last ?_
        refine RunK.step rfl rfl (ok_move rfl) ?_
        refine RunK.step rfl rfl (ok_bin rfl rfl rfl) ?_; refine RunK.as (.int .i64 ((i + 1 : Nat) : Int)) (by rw [wrap_i64 (by omega) (by omega)]; first | rfl | (congr 1; omega)) ?_
        refine RunK.step rfl rfl (ok_assign rfl) ?_
        refine RunK.nil ?_
        refine End.sub (Sub.cons (t := 0) rfl (Sub.cons (t := 1) rfl (Sub.cons (t := 5) rfl (Sub.cons (t := 6) rfl (Sub.cons (t := 1900000) rfl (Sub.cons (t := 1900001) rfl Sub.nil)))))) ?_
        refine End.normal_then ?_
        refine End.again (i + 1) ?_ ?_ ?_
        · show _ ∧ _; rw [hf1]; omega
        · show _ - _ < _ - _; omega
        · exact (Sub.cons (t := 0) rfl (Sub.cons (t := 1) rfl (Sub.cons (t := 5) rfl (Sub.cons (t := 6) rfl (Sub.cons (t := 1900000) rfl (Sub.cons (t := 1900001) rfl Sub.nil))))))
    · obtain rfl : i = ps.length := by simp at hc20; omega
      rw [List.take_length] at hs2
      rw [List.take_length]
      refine A.exit ?_
      refine End.exit_then ?_
      refine End.exit_then ?_
      refine End.exit_here ?_
      refine End.normal_then (End.code ?_)
      refine A.regs (by kernel_rfl) (by kernel_rfl) (.inl rfl) ?_
      refine RunTK.new 3 (by decide) rfl (.inl rfl) ?_
      refine RunK.step rfl rfl (ok_move rfl) ?_
      refine RunK.step rfl rfl (ok_move rfl) ?_
      refine RunK.step rfl rfl (ok_call (ref3Sum_fn k ps.flatten (by omega) (by omega)) (Args.cons rfl (Le.old _ _) (Args.cons rfl (own_cat rfl rfl) Args.nil))) ?_
      refine RunK.nil ?_
      refine ⟨_, _, eff_alloc (n := 55) (d := 7) (k := 1000007) zero30 (by decide), fun b7 hb7 => ?_⟩
      have hBb7 := hb7.1
      refine RunTK.eff 4 (by decide) rfl (.inl rfl) ?_
      refine RunK.nil ?_
      refine ⟨_, eff_storeA (n := 55) (s := 1000007) (size30.of (by rw [List.length_map, hmac_length])) rfl rfl (all_bytes _) hBb7 rfl (by rw [List.length_map, hmac_length, List.length_replicate]) (LeftS.cons (t := 0) rfl (Surv.old (by omega)) (LeftS.cons (t := 1) rfl (Surv.old (by omega)) (LeftS.cons (t := 5) rfl (Surv.own (by decide)) (LeftS.cons (t := 6) rfl (Surv.v _) (LeftS.cons (t := 7) rfl (Surv.v _) (LeftS.cons (t := 20) rfl (Surv.v _) (LeftS.cons (t := 36) rfl (Surv.old (by omega)) (LeftS.cons (t := 37) rfl (Surv.own (by decide)) (LeftS.cons (t := 38) rfl (Surv.v _) (LeftS.cons (t := 1900000) rfl (Surv.tab (by omega)) (LeftS.cons (t := 1900001) rfl (Surv.tab (by omega)) LeftS.nil))))))))))), ?_⟩
      refine RunTK.last ?_
      refine RunK.nil ?_
      refine A.sub (Sub.cons (t := 0) rfl (Sub.cons (t := 1) rfl (Sub.cons (t := 5) rfl (Sub.cons (t := 7) rfl (Sub.cons (t := 1000007) rfl (Sub.cons (t := 1900000) rfl (Sub.cons (t := 1900001) rfl Sub.nil))))))) ?_
      refine A.regs (by kernel_rfl) (by kernel_rfl) (.inr (by kernel_rfl)) ?_
      refine RunTK.last ?_
      refine RunK.step rfl rfl (ok_move rfl) ?_
      refine RunK.step rfl rfl (ok_move rfl) ?_
      refine RunK.step rfl rfl (ok_callM (macOf_fn k ps ps.flatten rfl (by omega) (by omega) (by omega)) (Sub.cons rfl (Sub.cons rfl Sub.nil)) tabs_v (Args.cons rfl (Le.old _ _) (Args.cons rfl (Le.old _ _) Args.nil))) ?_
      refine RunK.step rfl rfl (ok_loadA (s := 1000007) (by decide) Tryd.underlying30 rfl (size30.of (by rw [List.length_map, hmac_length])) rfl rfl) ?_
      refine RunK.step rfl rfl (ok_eqlA Tryd.underlying30 Tryd.underlying5 info5 (by kernel_rfl) rfl rfl rfl (by rw [List.length_map, hmac_length]) (ints_u8 _)) ?_; refine RunK.as (.bool true) (by simp) ?_
      refine RunK.step rfl rfl (ok_move rfl) ?_
      refine RunK.guarded rfl rfl rfl rfl (ok_move rfl) ?_
      refine RunK.guarded rfl rfl rfl rfl (ok_move rfl) ?_
      refine RunK.guarded rfl rfl rfl rfl (ok_build [own w₀.heap.size 5 (ps.flatten).length ((ps.flatten).map byteV)] Tryd.underlying28 info22 rfl (by decide) (by decide) rfl ⟨rfl, rfl, trivial⟩ (fun d hd w x h => by simp only [List.mem_cons, List.not_mem_nil, or_false] at hd; subst hd; exact own_one h)) ?_
      refine RunK.guarded rfl rfl rfl rfl (ok_callM (macOf_fn k [ps.flatten] ps.flatten (by simp) (by omega) (by simp) (by omega)) (Sub.cons rfl (Sub.cons rfl Sub.nil)) tabs_v (Args.cons rfl (Le.old _ _) (Args.cons rfl (list_lst1 (own_cat rfl rfl)) Args.nil))) ?_
      refine RunK.guarded rfl rfl rfl rfl (ok_loadA (s := 1000007) (by decide) Tryd.underlying30 rfl (size30.of (by rw [List.length_map, hmac_length])) rfl rfl) ?_
      refine RunK.guarded rfl rfl rfl rfl (ok_eqlA Tryd.underlying30 Tryd.underlying5 info5 (by kernel_rfl) rfl rfl rfl (by rw [List.length_map, hmac_length]) (ints_u8 _)) ?_; refine RunK.as (.bool true) (by simp) ?_
      refine RunK.step rfl rfl (ok_pick rfl rfl) ?_
      refine RunK.step rfl rfl (ok_move rfl) ?_
      refine RunK.guarded rfl rfl rfl rfl (ok_callM lives3_fn (Sub.cons rfl (Sub.cons rfl Sub.nil)) tabs_v Args.nil) ?_
      refine RunK.step rfl rfl (ok_pick rfl rfl) ?_
      refine RunK.step rfl rfl (ok_assign rfl) ?_
      refine RunK.nil ?_
      refine A.sub (Sub.cons (t := 4) rfl (Sub.cons (t := 1000007) rfl (Sub.cons (t := 1900000) rfl (Sub.cons (t := 1900001) rfl Sub.nil)))) ?_
      refine A.ret ?_
      exact End.ret1 rfl rfl (by first | exact Le.refl _ | exact Le.old _ _)
theorem MacsOf_fn (k : List UInt8) (ps : List (List UInt8)) : FnM Tryd.prog 4 tabs [byt k, lst (ps.map byt)] (.v (.bool true)) := by
  rcases Nat.lt_or_ge 200 k.length with h | h
  · exact MacsOf_fnA k ps h
  · exact MacsOf_fnB k ps h
end Go.Proofs.YtgonpjlalhdkjaaDoor
