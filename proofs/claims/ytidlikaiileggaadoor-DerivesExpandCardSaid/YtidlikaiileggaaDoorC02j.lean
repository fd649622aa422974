/-
  Package digests by facts, part four: the sequence of a slice's chunks, Sum, Of.
-/
import Derived.Test.YtidlikaiileggaaDoorC02i
namespace Go.Proofs.YtidlikaiileggaaDoor
open Go Go.RowKit
set_option linter.unusedVariables false

theorem Chunk_fnB (g m c : Nat) : FnB Tryd.prog 37 [.v (.slice (some ⟨g, 0, none⟩) m c), .v (.int .i64 64)] (fun B => closD B 46 22 3 (.slice (some ⟨g, 0, none⟩) m c) (.int .i64 64)) := by
  refine FnB.of Tryd.func37 rfl (by kernel_rfl) Tryd.ntmps37 (by simp) (fun w => [(0, .v (.slice (some ⟨g, 0, none⟩) m c)), (1, .v (.int .i64 64))]) (fun w => (Start.v rfl (Start.v rfl Start.nil))) fun w₀ => ?_
  refine A.regs (by kernel_rfl) (by kernel_rfl) (.inl rfl) ?_
  refine RunTK.new 0 (by decide) rfl (.inl rfl) ?_
  refine RunK.nil ?_
  refine ⟨_, _, eff_box1 (n := 9) (d := 2) (k := 1000002) rfl rfl (by decide), fun b2 hb2 => ?_⟩
  have hBb2 := hb2.1
  refine RunTK.new 1 (by decide) rfl (.inl rfl) ?_
  refine RunK.nil ?_
  refine ⟨_, _, eff_box1 (n := 9) (d := 3) (k := 1000003) rfl rfl (by decide), fun b3 hb3 => ?_⟩
  have hBb3 := hb3.1
  have hlt_b2_b3 : b2 < b3 := hb3.2 1000002 _ _ _ rfl
  refine RunTK.last ?_
  refine RunK.step rfl rfl (ok_assign rfl) ?_
  refine RunK.nil ?_
  refine A.sub (Sub.cons (t := 2) rfl (Sub.cons (t := 3) rfl (Sub.cons (t := 1000002) rfl (Sub.cons (t := 1000003) rfl Sub.nil)))) ?_
  refine A.seq ?_
  refine A.regs (by kernel_rfl) (by kernel_rfl) (.inl rfl) ?_
  refine RunTK.last ?_
  refine RunK.step rfl rfl (ok_loadV (s := 1000003) (by decide) Tryd.underlying3 rfl rfl rfl (rfl)) ?_
  refine RunK.step rfl rfl (ok_bin rfl rfl rfl) ?_; refine RunK.as (.bool false) (rfl) ?_
  refine RunK.nil ?_
  refine A.sub (Sub.cons (t := 2) rfl (Sub.cons (t := 3) rfl (Sub.cons (t := 6) rfl (Sub.cons (t := 1000002) rfl (Sub.cons (t := 1000003) rfl Sub.nil))))) ?_
  refine A.no rfl ?_
  refine A.skip ?_
  refine End.normal_then (End.code ?_)
  refine A.regs (by kernel_rfl) (by kernel_rfl) (.inl rfl) ?_
  refine RunTK.last ?_
  refine RunK.step rfl rfl (ok_makeFunc2 rfl rfl) ?_
  refine RunK.step rfl rfl (ok_assign rfl) ?_
  refine RunK.nil ?_
  refine A.sub (Sub.cons (t := 4) rfl (Sub.cons (t := 1000002) rfl (Sub.cons (t := 1000003) rfl Sub.nil))) ?_
  refine A.ret ?_
  exact End.clos rfl hBb2 hlt_b2_b3 rfl (k₁ := 1000002) (k₂ := 1000003) rfl rfl
theorem Chunk1_seq {w₀ : World} {N m l p q g cap : Nat} {J : Nat → World → Prop} {arg : Nat → D} (hm : m = 64 * N) (hcap : m ≤ cap) (hmax : cap ≤ maxLen) (harg : ∀ i, i < N → arg i = .v (.slice (some ⟨g, 64 * i, none⟩) 64 64))
    (hq : Seqs Tryd.prog w₀ N l arg (fun _ => [(1000091, blk p 22 [.slice (some ⟨g, 0, none⟩) m cap]), (1000092, blk q 3 [.int .i64 64])]) J) {w : World} (h0 : J 0 w) :
    Calls Tryd.prog 46 (.func (.yield l) #[] #[] :: [.pointer (some ⟨p, 0, none⟩), .pointer (some ⟨q, 0, none⟩)] : List Value).toArray w fun e W => (∃ v, e = .returned v) ∧ J N W := by
  have hmx : maxLen = 9223372036854775807 := rfl
  obtain ⟨hb, hs, hV⟩ := hq.holds 0 w h0
  refine Calls.within (n := 31) (E := [(0, .v (.func (.yield l) #[] #[])), (1, .v (.pointer (some ⟨p, 0, none⟩))), (2, .v (.pointer (some ⟨q, 0, none⟩))), (1000090, jD (J 0)), (1000091, blk p 22 [.slice (some ⟨g, 0, none⟩) m cap]), (1000092, blk q 3 [.int .i64 64])]) Tryd.func46 rfl Tryd.ntmps46 (by simp) (by decide) hb hs ?_ ?_
  · intro x hx
    simp only [List.mem_cons, List.not_mem_nil, or_false] at hx
    rcases hx with rfl | rfl | rfl | rfl | rfl | rfl
    · exact .inr ⟨_, rfl, rfl⟩
    · exact .inr ⟨_, rfl, rfl⟩
    · exact .inr ⟨_, rfl, rfl⟩
    · exact .inl ⟨vle rfl, jD_mk h0⟩
    · exact .inl ⟨vle rfl, hV _ (by simp)⟩
    · exact .inl ⟨vle rfl, hV _ (by simp)⟩
  refine A.regs (by kernel_rfl) (by kernel_rfl) (.inl rfl) ?_
  refine RunTK.last ?_
  refine RunK.step rfl rfl (ok_assign rfl) ?_
  refine RunK.nil ?_
  refine A.sub (Sub.cons (t := 0) rfl (Sub.cons (t := 1) rfl (Sub.cons (t := 2) rfl (Sub.cons (t := 4) rfl (Sub.cons (t := 1000090) rfl (Sub.cons (t := 1000091) rfl (Sub.cons (t := 1000092) rfl Sub.nil))))))) ?_
  refine A.block ?_
  refine A.loop (ι := Nat) (fun i => i ≤ N) (fun i => [(0, .v (.func (.yield l) #[] #[])), (1, .v (.pointer (some ⟨p, 0, none⟩))), (2, .v (.pointer (some ⟨q, 0, none⟩))), (4, .v (.int .i64 ((64 * i : Nat) : Int))), (1000090, jD (J i)), (1000091, blk p 22 [.slice (some ⟨g, 0, none⟩) m cap]), (1000092, blk q 3 [.int .i64 64])]) (fun i => N - i) 0 ?_ ?_ ?_
  · exact Nat.zero_le _
  · exact (Sub.cons (t := 0) rfl (Sub.cons (t := 1) rfl (Sub.cons (t := 2) rfl (Sub.cons (t := 4) rfl (Sub.cons (t := 1000090) rfl (Sub.cons (t := 1000091) rfl (Sub.cons (t := 1000092) rfl Sub.nil)))))))
  intro i hi
  refine A.seq ?_
  refine A.regs (by kernel_rfl) (by kernel_rfl) (.inl rfl) ?_
  refine RunTK.last ?_
  refine RunK.step rfl rfl (ok_move rfl) ?_
  refine RunK.step rfl rfl (ok_loadV (s := 1000091) (by decide) Tryd.underlying22 rfl rfl rfl (rfl)) ?_
  refine RunK.step rfl rfl (ok_lenV Tryd.underlying22 rfl) ?_
  refine RunK.step rfl rfl (ok_bin rfl rfl rfl) ?_
  refine RunK.nil ?_
  refine A.sub (Sub.cons (t := 0) rfl (Sub.cons (t := 1) rfl (Sub.cons (t := 2) rfl (Sub.cons (t := 4) rfl (Sub.cons (t := 9) rfl (Sub.cons (t := 1000090) rfl (Sub.cons (t := 1000091) rfl (Sub.cons (t := 1000092) rfl Sub.nil)))))))) ?_
  refine A.cond rfl (fun hc9 => ?_) (fun hc9 => ?_)
  · have hlt : i < N := by simp at hc9; omega
    refine A.skip ?_
    refine End.normal_then (End.code ?_)
    refine A.seq ?_
    refine A.block ?_
    refine A.regs (by kernel_rfl) (by kernel_rfl) (.inr (by kernel_rfl)) ?_
    refine RunTK.last ?_
    refine RunK.step rfl rfl (ok_loadV (s := 1000092) (by decide) Tryd.underlying3 rfl rfl rfl (rfl)) ?_
    refine RunK.step rfl rfl (ok_loadV (s := 1000091) (by decide) Tryd.underlying22 rfl rfl rfl (rfl)) ?_
    refine RunK.step rfl rfl (ok_move rfl) ?_
    refine RunK.step rfl rfl (ok_sliceS (l := 64 * i) (h := m) (m := cap) Tryd.underlying22 info5 rfl (.inl ⟨_, _, rfl, rfl⟩) (.inr ⟨rfl, rfl, rfl⟩) (.inr ⟨rfl, rfl⟩) (by omega) (by omega) (by omega) (.inl (by omega))) ?_
    refine RunK.step rfl rfl (ok_lenV Tryd.underlying22 rfl) ?_
    refine RunK.step rfl rfl (ok_min rfl rfl) ?_; refine RunK.as (.int .i64 ((64 : Nat) : Int)) (by congr 1; omega) ?_
    refine RunK.step rfl rfl (ok_assign rfl) ?_
    refine RunK.nil ?_
    refine A.sub (Sub.cons (t := 0) rfl (Sub.cons (t := 1) rfl (Sub.cons (t := 2) rfl (Sub.cons (t := 4) rfl (Sub.cons (t := 5) rfl (Sub.cons (t := 1000090) rfl (Sub.cons (t := 1000091) rfl (Sub.cons (t := 1000092) rfl Sub.nil)))))))) ?_
    refine A.regs (by kernel_rfl) (by kernel_rfl) (.inl rfl) ?_
    refine RunTK.eff 10 (by decide) rfl (.inl rfl) ?_
    refine RunK.step rfl rfl (ok_move rfl) ?_
    refine RunK.step rfl rfl (ok_loadV (s := 1000091) (by decide) Tryd.underlying22 rfl rfl rfl (rfl)) ?_
    refine RunK.step rfl rfl (ok_move rfl) ?_
    refine RunK.step rfl rfl (ok_move rfl) ?_
    refine RunK.step rfl rfl (ok_move rfl) ?_
    refine RunK.step rfl rfl (ok_bin rfl rfl rfl) ?_; refine RunK.as (.int .i64 ((64 * i + 64 : Nat) : Int)) (by rw [wrap_i64 (by omega) (by omega)]; first | rfl | (congr 1; omega)) ?_
    refine RunK.step rfl rfl (ok_move rfl) ?_
    refine RunK.step rfl rfl (ok_move rfl) ?_
    refine RunK.step rfl rfl (ok_bin rfl rfl rfl) ?_; refine RunK.as (.int .i64 ((64 * i + 64 : Nat) : Int)) (by rw [wrap_i64 (by omega) (by omega)]; first | rfl | (congr 1; omega)) ?_
    refine RunK.step rfl rfl (ok_sliceS (l := 64 * i) (h := 64 * i + 64) (m := 64 * i + 64) Tryd.underlying22 info5 rfl (.inl ⟨_, _, rfl, rfl⟩) (.inl ⟨_, _, rfl, rfl⟩) (.inl ⟨_, _, rfl, rfl⟩) (by omega) (by omega) (by omega) (.inl (by omega))) ?_; refine RunK.as (.slice (some ⟨g, 64 * i, none⟩) 64 64) (by rw [Nat.zero_add, show 64 * i + 64 - 64 * i = 64 from by omega]) ?_
    refine RunK.nil ?_
    refine ⟨_, eff_yield (vJ := 1000090) hq i hlt rfl rfl rfl (Le.eq (harg i hlt).symm) (by decide) (fun p hp => by simp only [List.mem_cons, List.not_mem_nil, or_false] at hp; rcases hp with rfl | rfl <;> exact vle rfl) (by decide) (Left.cons (t := 0) rfl (Stays.v _ _) (Left.cons (t := 1) rfl (Stays.v _ _) (Left.cons (t := 2) rfl (Stays.v _ _) (Left.cons (t := 4) rfl (Stays.v _ _) (Left.cons (t := 5) rfl (Stays.v _ _) (Left.cons (t := 19) rfl (Stays.v _ _) (Left.cons (t := 20) rfl (Stays.v _ _) (Left.cons (t := 21) rfl (Stays.v _ _) (Left.cons (t := 22) rfl (Stays.v _ _) (Left.cons (t := 23) rfl (Stays.v _ _) (Left.cons (t := 24) rfl (Stays.v _ _) (Left.cons (t := 25) rfl (Stays.v _ _) (Left.cons (t := 26) rfl (Stays.v _ _) (Left.cons (t := 27) rfl (Stays.v _ _) (Left.cons (t := 28) rfl (Stays.v _ _) Left.nil))))))))))))))), ?_⟩
    refine RunTK.last ?_
    refine RunK.step rfl rfl (ok_not rfl) ?_; refine RunK.as (.bool false) (rfl) ?_
    refine RunK.nil ?_
    refine A.sub (Sub.cons (t := 0) rfl (Sub.cons (t := 1) rfl (Sub.cons (t := 2) rfl (Sub.cons (t := 4) rfl (Sub.cons (t := 30) rfl (Sub.cons (t := 1000090) rfl (Sub.cons (t := 1000091) rfl (Sub.cons (t := 1000092) rfl Sub.nil)))))))) ?_
    refine A.no rfl ?_
    refine A.skip ?_
    refine End.normal_block ?_
    refine End.normal_then (End.code ?_)
    refine A.reg (by kernel_rfl) (by kernel_rfl) (.inl rfl) ?_
    refine RunTK.last ?_
    refine RunK.step rfl rfl (ok_move rfl) ?_
    refine RunK.step rfl rfl (ok_loadV (s := 1000092) (by decide) Tryd.underlying3 rfl rfl rfl (rfl)) ?_
    refine RunK.step rfl rfl (ok_bin rfl rfl rfl) ?_; refine RunK.as (.int .i64 ((64 * (i + 1) : Nat) : Int)) (by rw [wrap_i64 (by omega) (by omega)]; first | rfl | (congr 1; omega)) ?_
    refine RunK.step rfl rfl (ok_assign rfl) ?_
    refine RunK.nil ?_
    refine End.sub (Sub.cons (t := 0) rfl (Sub.cons (t := 1) rfl (Sub.cons (t := 2) rfl (Sub.cons (t := 4) rfl (Sub.cons (t := 1000090) rfl (Sub.cons (t := 1000091) rfl (Sub.cons (t := 1000092) rfl Sub.nil))))))) ?_
    refine End.normal_then ?_
    refine End.again (i + 1) ?_ ?_ ?_
    · show _ ≤ _; omega
    · show _ - _ < _ - _; omega
    · exact (Sub.cons (t := 0) rfl (Sub.cons (t := 1) rfl (Sub.cons (t := 2) rfl (Sub.cons (t := 4) rfl (Sub.cons (t := 1000090) rfl (Sub.cons (t := 1000091) rfl (Sub.cons (t := 1000092) rfl Sub.nil)))))))
  · obtain rfl : i = N := by simp at hc9; omega
    refine A.exit ?_
    refine End.exit_then ?_
    refine End.exit_then ?_
    refine End.exit_here ?_
    exact End.seq (vJ := 1000090) hq rfl rfl
set_option maxHeartbeats 1000000 in
theorem Sum_fn (l : List UInt8) (hl : l.length ≤ 1000000) : FnM Tryd.prog 25 tabs [.v (stV l)] (.v (aggV ((sha l).map byteV))) := by
  refine FnM.of Tryd.func25 rfl (by kernel_rfl) Tryd.ntmps25 (by simp) (by decide) (fun w => [(0, .v (stV l)), (1900000, tab 0 (H8.list.map u32V)), (1900001, tab 1 (K64.map u32V))]) (fun w => (StartM.v rfl (StartM.m (by simp [tabs]) (by decide) (StartM.m (by simp [tabs]) (by decide) StartM.nil)))) fun w₀ hM => ?_
  have htab := tabs_hi hM
  refine A.regs (by kernel_rfl) (by kernel_rfl) (.inl rfl) ?_
  refine RunTK.new 0 (by decide) rfl (.inl rfl) ?_
  refine RunK.nil ?_
  refine ⟨_, _, eff_box (n := 42) (d := 1) (k := 1000001) rfl (by decide), fun b1 hb1 => ?_⟩
  have hBb1 := hb1.1
  refine RunTK.new 1 (by decide) rfl (.inl rfl) ?_
  refine RunK.nil ?_
  refine ⟨_, _, eff_alloc (n := 42) (d := 2) (k := 1000002) zero25 (by decide), fun b2 hb2 => ?_⟩
  have hBb2 := hb2.1
  have hlt_b1_b2 : b1 < b2 := hb2.2 1000001 _ _ _ rfl
  refine RunTK.last ?_
  refine RunK.nil ?_
  refine A.sub (Sub.cons (t := 1) rfl (Sub.cons (t := 2) rfl (Sub.cons (t := 1000001) rfl (Sub.cons (t := 1000002) rfl (Sub.cons (t := 1900000) rfl (Sub.cons (t := 1900001) rfl Sub.nil)))))) ?_
  refine A.regs (by kernel_rfl) (by kernel_rfl) (.inl rfl) ?_
  refine RunTK.last ?_
  refine RunK.step rfl rfl (ok_loadA (s := 1000001) (by decide) Tryd.underlying59 rfl (size59.of (stL_length l)) rfl rfl) ?_
  refine RunK.step rfl rfl (ok_call (filled_fn (fullR l) (restL l) l.length (restL_length l) hl) (Args.cons rfl (Le.refl _) Args.nil)) ?_
  refine RunK.step rfl rfl (ok_assign rfl) ?_
  refine RunK.nil ?_
  refine A.sub (Sub.cons (t := 1) rfl (Sub.cons (t := 2) rfl (Sub.cons (t := 3) rfl (Sub.cons (t := 1000001) rfl (Sub.cons (t := 1000002) rfl (Sub.cons (t := 1900000) rfl (Sub.cons (t := 1900001) rfl Sub.nil))))))) ?_
  refine A.regs (by kernel_rfl) (by kernel_rfl) (.inr (by kernel_rfl)) ?_
  refine RunTK.last ?_
  refine RunK.step rfl rfl (ok_field field59_1 (by decide) rfl) ?_
  refine RunK.step rfl rfl (ok_move rfl) ?_
  refine RunK.step rfl rfl (ok_move rfl) ?_
  refine RunK.step rfl rfl (ok_sliceX (l := 0) (h := l.length % 64) (m := l.length % 64) Tryd.underlying53 info5 rfl (.inr ⟨rfl, rfl⟩) (.inl ⟨_, _, rfl, rfl⟩) (.inl ⟨_, _, rfl, rfl⟩) (by omega) (by omega) (by omega) (.inr rfl)) ?_
  refine RunK.step rfl rfl (ok_loadA (s := 1000001) (by decide) Tryd.underlying59 rfl (size59.of (stL_length l)) rfl rfl) ?_
  refine RunK.step rfl rfl (ok_call (ending_fn l hl) (Args.cons rfl (Le.refl _) Args.nil)) ?_
  refine RunK.step rfl rfl ((ok_appendCap (s := 1000001) (m := l.length % 64) (us := (l.drop (64 * (l.length / 64))).map byteV) (vs := (endL l.length).map byteV) (by decide) Tryd.underlying22 info5 (by decide) rfl rfl rfl (by rw [← restL_take, List.map_take, ← stL_rest, List.take_take, Nat.min_eq_left (by omega)]) (by rw [stL_length]; omega) rfl (Le.eq (byt_vals _)) (by rw [List.length_map, endL_length]; omega) (by rw [List.length_map, endL_length]; omega)).le (d' := own w₀.heap.size 5 (tailL l).length ((tailL l).map byteV)) (Le.eq (by rw [tailL_length, List.length_map, endL_length, ← List.map_append]; rfl))) ?_
  refine RunK.step rfl rfl (ok_assign rfl) ?_
  refine RunK.nil ?_
  refine A.sub (Sub.cons (t := 1) rfl (Sub.cons (t := 2) rfl (Sub.cons (t := 4) rfl (Sub.cons (t := 1000001) rfl (Sub.cons (t := 1000002) rfl (Sub.cons (t := 1900000) rfl (Sub.cons (t := 1900001) rfl Sub.nil))))))) ?_
  refine A.openOwn (t := 4) (k := 1000090) rfl (by rw [tailL_length]; omega) fun g cap ys hBg hcap1 hcap2 hgl hgx => ?_
  refine A.regs (by kernel_rfl) (by kernel_rfl) (.inl rfl) ?_
  refine RunTK.new 2 (by decide) rfl (.inl rfl) ?_
  refine RunK.step rfl rfl (ok_loadA (s := 1000001) (by decide) Tryd.underlying59 rfl (size59.of (stL_length l)) rfl rfl) ?_
  refine RunK.step rfl rfl (ok_callM (compressed_fn l hl) (Sub.cons rfl (Sub.cons rfl Sub.nil)) tabs_v (Args.cons rfl (by first | exact Le.refl _ | exact Le.old _ _ | exact le_byt _ _ | exact (Le.old _ _).trans (le_byt _ _) | exact le_lst _ _ | exact (Le.old _ _).trans (le_lst _ _) | exact (Le.old _ _).trans (Le.old _ _) | exact (Le.old _ _).trans ((Le.old _ _).trans (le_byt _ _)) | exact byt_nil_le | exact lst_nil_le | exact bytes_nil_le | exact list_nil_le) Args.nil)) ?_
  refine RunK.nil ?_
  refine ⟨_, _, eff_alloc (n := 42) (d := 5) (k := 1000005) zero56 (by decide), fun b5 hb5 => ?_⟩
  have hBb5 := hb5.1
  have hlt_b1_b5 : b1 < b5 := hb5.2 1000001 _ _ _ rfl
  have hlt_b2_b5 : b2 < b5 := hb5.2 1000002 _ _ _ rfl
  have hlt_g_b5 : g < b5 := hb5.2 1000090 _ _ _ rfl
  refine RunTK.eff 3 (by decide) rfl (.inl rfl) ?_
  refine RunK.nil ?_
  refine ⟨_, eff_storeA (n := 42) (s := 1000005) (size56.of (R8.size _)) rfl rfl (all_u32 _) hBb5 rfl (by first | exact (R8.size _).trans (R8.size _).symm | rfl) (LeftS.cons (t := 1) rfl (Surv.v _) (LeftS.cons (t := 2) rfl (Surv.v _) (LeftS.cons (t := 4) rfl (Surv.v _) (LeftS.cons (t := 5) rfl (Surv.v _) (LeftS.cons (t := 19) rfl (Surv.v _) (LeftS.cons (t := 20) rfl (Surv.v _) (LeftS.cons (t := 1000001) rfl (Surv.blkT (by decide)) (LeftS.cons (t := 1000002) rfl (Surv.blkT (by decide)) (LeftS.cons (t := 1000090) rfl (Surv.blkT (by decide)) (LeftS.cons (t := 1900000) rfl (Surv.tab (by omega)) (LeftS.cons (t := 1900001) rfl (Surv.tab (by omega)) LeftS.nil))))))))))), ?_⟩
  refine RunTK.last ?_
  refine RunK.nil ?_
  refine A.sub (Sub.cons (t := 2) rfl (Sub.cons (t := 4) rfl (Sub.cons (t := 5) rfl (Sub.cons (t := 1000001) rfl (Sub.cons (t := 1000002) rfl (Sub.cons (t := 1000005) rfl (Sub.cons (t := 1000090) rfl (Sub.cons (t := 1900000) rfl (Sub.cons (t := 1900001) rfl Sub.nil))))))))) ?_
  refine A.seq ?_
  refine A.regs (by kernel_rfl) (by kernel_rfl) (.inl rfl) ?_
  refine RunTK.last ?_
  refine RunK.step rfl rfl (ok_move rfl) ?_
  refine RunK.step rfl rfl (ok_callB (Chunk_fnB g (tailL l).length cap) (fun _ _ => closD_mono _ _) (Args.cons rfl (Le.refl _) (Args.cons rfl (Le.refl _) Args.nil))) ?_
  refine RunK.nil ?_
  refine A.sub (Sub.cons (t := 2) rfl (Sub.cons (t := 5) rfl (Sub.cons (t := 22) rfl (Sub.cons (t := 1000001) rfl (Sub.cons (t := 1000002) rfl (Sub.cons (t := 1000005) rfl (Sub.cons (t := 1000090) rfl (Sub.cons (t := 1900000) rfl (Sub.cons (t := 1900001) rfl Sub.nil))))))))) ?_
  refine A.openClos (t := 22) (k₁ := 1000091) (k₂ := 1000092) rfl fun p q hBp hpq => ?_
  refine A.block ?_
  refine A.range (gf := 46) (N := (tailL l).length / 64) (vL := 1000098) (vD := 1000099) (tp := 23) (lb := [.pointer (some ⟨p, 0, none⟩), .pointer (some ⟨q, 0, none⟩)]) (S := [(2, .v (.pointer (some ⟨b2, 0, none⟩))), (5, .v (.pointer (some ⟨b5, 0, none⟩)))])
    (V := fun i => [(1000002, blk b2 25 (List.replicate 32 (.int .u8 0))), (1000005, blk b5 56 ((chain (chain H8 l (l.length / 64)) (tailL l) i).list.map u32V)), (1000090, blk g 5 ((tailL l).map byteV ++ ys)), (1000091, blk p 22 [.slice (some ⟨g, 0, none⟩) (tailL l).length cap]), (1000092, blk q 3 [.int .i64 64]), (1900000, tab 0 (H8.list.map u32V)), (1900001, tab 1 (K64.map u32V))])
    (Eb := fun i => (6, .v (.slice (some ⟨g, 64 * i, none⟩) 64 64)) :: (23, .v (.slice (some ⟨g, 64 * i, none⟩) 64 64)) :: ([(1000002, blk b2 25 (List.replicate 32 (.int .u8 0))), (1000005, blk b5 56 ((chain (chain H8 l (l.length / 64)) (tailL l) i).list.map u32V)), (1000090, blk g 5 ((tailL l).map byteV ++ ys)), (1000091, blk p 22 [.slice (some ⟨g, 0, none⟩) (tailL l).length cap]), (1000092, blk q 3 [.int .i64 64]), (1900000, tab 0 (H8.list.map u32V)), (1900001, tab 1 (K64.map u32V))] ++ [(2, .v (.pointer (some ⟨b2, 0, none⟩))), (5, .v (.pointer (some ⟨b5, 0, none⟩)))]))
    (arg := fun i => .v (.slice (some ⟨g, 64 * i, none⟩) 64 64)) rfl ⟨_, Tryd.func46, by kernel_rfl, rfl⟩ (by decide) (by decide) (Sub.cons (t := 1000002) rfl (Sub.cons (t := 1000005) rfl (Sub.cons (t := 1000090) rfl (Sub.cons (t := 1000091) rfl (Sub.cons (t := 1000092) rfl (Sub.cons (t := 1900000) rfl (Sub.cons (t := 1900001) rfl (Sub.cons (t := 2) rfl (Sub.cons (t := 5) rfl Sub.nil)))))))))
    (fun x hx => by simp only [List.mem_cons, List.not_mem_nil, or_false] at hx; rcases hx with rfl | rfl <;> exact ⟨vlt rfl, .inl ⟨_, rfl⟩⟩)
    (fun i x hx => by simp only [List.mem_cons, List.not_mem_nil, or_false] at hx; rcases hx with rfl | rfl | rfl | rfl | rfl | rfl | rfl <;> exact vle rfl)
    (fun i l' _ x hx => by simp only [List.mem_cons, List.not_mem_nil, or_false] at hx; rcases hx with rfl | rfl | rfl | rfl | rfl | rfl | rfl <;> first | exact Firm.blk | exact Firm.tab)
    (fun i l' _ x hx => by simp only [List.mem_cons, List.mem_append, List.not_mem_nil, or_false] at hx; rcases hx with rfl | rfl | (rfl | rfl | rfl | rfl | rfl | rfl | rfl) | rfl | rfl <;> first | exact Firm.blk | exact Firm.tab | exact Firm.v _ _)
    (fun J l' w hq h0 => Chunk1_seq (g := g) (cap := cap) (tailL_mod l) hcap1 hcap2 (fun i _ => rfl) (hq.sub fun i x hx => by simp only [List.mem_cons, List.not_mem_nil, or_false] at hx ⊢; rcases hx with rfl | rfl <;> simp) h0)
    (fun i l' a w _ h => assign_one (by decide) (by decide) (by decide) h) ?_ ?_
  · intro i l' D rr mm hi
    refine A.block ?_
    refine A.reg (by kernel_rfl) (by kernel_rfl) (.inr (by kernel_rfl)) ?_
    refine RunTK.eff 5 (by decide) rfl (.inr (by kernel_rfl)) ?_
    refine RunK.step rfl rfl (ok_loadA (s := 1000005) (by decide) Tryd.underlying56 rfl (size56.of (R8.size _)) rfl rfl) ?_
    refine RunK.step rfl rfl (ok_move rfl) ?_
    refine RunK.step rfl rfl (ok_arrayAt Tryd.underlying53 rfl (by decide)) ?_
    refine RunK.step rfl rfl (ok_loadP (s := 1000090) (by decide) Tryd.underlying53 rfl size53 rfl rfl (by have := tailL_mod l; simp; omega) (tailL_block l hi)) ?_
    refine RunK.step rfl rfl (ok_callM (Compress_fn (chain (chain H8 l (l.length / 64)) (tailL l) i) (((tailL l).drop (64 * i)).take 64) (by have := tailL_mod l; simp; omega)) (Sub.cons rfl (Sub.cons rfl Sub.nil)) tabs_v (Args.cons rfl (by first | exact Le.refl _ | exact Le.old _ _ | exact le_byt _ _ | exact (Le.old _ _).trans (le_byt _ _) | exact le_lst _ _ | exact (Le.old _ _).trans (le_lst _ _) | exact (Le.old _ _).trans (Le.old _ _) | exact (Le.old _ _).trans ((Le.old _ _).trans (le_byt _ _)) | exact byt_nil_le | exact lst_nil_le | exact bytes_nil_le | exact list_nil_le) (Args.cons rfl (by first | exact Le.refl _ | exact Le.old _ _ | exact le_byt _ _ | exact (Le.old _ _).trans (le_byt _ _) | exact le_lst _ _ | exact (Le.old _ _).trans (le_lst _ _) | exact (Le.old _ _).trans (Le.old _ _) | exact (Le.old _ _).trans ((Le.old _ _).trans (le_byt _ _)) | exact byt_nil_le | exact lst_nil_le | exact bytes_nil_le | exact list_nil_le) Args.nil))) ?_; refine RunK.as (aggV ((chain (chain H8 l (l.length / 64)) (tailL l) (i + 1)).list.map u32V)) (rfl) ?_
    refine RunK.nil ?_
    refine ⟨_, eff_storeA (n := 42) (s := 1000005) (size56.of (R8.size _)) rfl rfl (all_u32 _) hBb5 rfl (by first | exact (R8.size _).trans (R8.size _).symm | rfl) (LeftS.cons (t := 2) rfl (Surv.v _) (LeftS.cons (t := 5) rfl (Surv.v _) (LeftS.cons (t := 6) rfl (Surv.v _) (LeftS.cons (t := 23) rfl (Surv.v _) (LeftS.cons (t := 24) rfl (Surv.v _) (LeftS.cons (t := 25) rfl (Surv.v _) (LeftS.cons (t := 26) rfl (Surv.v _) (LeftS.cons (t := 27) rfl (Surv.v _) (LeftS.cons (t := 28) rfl (Surv.v _) (LeftS.cons (t := 1000002) rfl (Surv.blkT (by decide)) (LeftS.cons (t := 1000090) rfl (Surv.blkT (by decide)) (LeftS.cons (t := 1000091) rfl (Surv.blkT (by decide)) (LeftS.cons (t := 1000092) rfl (Surv.blkT (by decide)) (LeftS.cons (t := 1000098) rfl (Surv.rec rfl) (LeftS.cons (t := 1000099) rfl (Surv.rec rfl) (LeftS.cons (t := 1900000) rfl (Surv.tab (by omega)) (LeftS.cons (t := 1900001) rfl (Surv.tab (by omega)) LeftS.nil))))))))))))))))), ?_⟩
    refine RunTK.last ?_
    refine RunK.nil ?_
    refine End.sub (Sub.cons (t := 1000002) rfl (Sub.cons (t := 1000005) rfl (Sub.cons (t := 1000090) rfl (Sub.cons (t := 1000091) rfl (Sub.cons (t := 1000092) rfl (Sub.cons (t := 1000098) rfl (Sub.cons (t := 1000099) rfl (Sub.cons (t := 1900000) rfl (Sub.cons (t := 1900001) rfl Sub.nil))))))))) ?_
    refine End.normal_block ?_
    exact End.round (Sub.cons (t := 1000098) rfl (Sub.cons (t := 1000099) rfl (Sub.cons (t := 1000002) rfl (Sub.cons (t := 1000005) rfl (Sub.cons (t := 1000090) rfl (Sub.cons (t := 1000091) rfl (Sub.cons (t := 1000092) rfl (Sub.cons (t := 1900000) rfl (Sub.cons (t := 1900001) rfl Sub.nil))))))))) (fun x hx => by simp only [List.mem_cons, List.not_mem_nil, or_false] at hx; rcases hx with rfl | rfl | rfl | rfl | rfl | rfl | rfl | rfl | rfl <;> exact vle rfl) (by decide)
  · intro D hD
    refine End.normal_block ?_
    refine End.normal_then (End.code ?_)
    refine A.regs (by kernel_rfl) (by kernel_rfl) (.inl rfl) ?_
    refine RunTK.new 0 (by decide) rfl (.inl rfl) ?_
    refine RunK.nil ?_
    refine ⟨_, _, eff_alloc (n := 42) (d := 7) (k := 1000007) zero25 (by decide), fun b7 hb7 => ?_⟩
    have hBb7 := hb7.1
    have hlt_b2_b7 : b2 < b7 := hb7.2 1000002 _ _ _ rfl
    have hlt_b5_b7 : b5 < b7 := hb7.2 1000005 _ _ _ rfl
    have hlt_g_b7 : g < b7 := hb7.2 1000090 _ _ _ rfl
    have hlt_p_b7 : p < b7 := hb7.2 1000091 _ _ _ rfl
    have hlt_q_b7 : q < b7 := hb7.2 1000092 _ _ _ rfl
    refine RunTK.last ?_
    refine RunK.nil ?_
    refine A.sub (Sub.cons (t := 2) rfl (Sub.cons (t := 5) rfl (Sub.cons (t := 7) rfl (Sub.cons (t := 1000002) rfl (Sub.cons (t := 1000005) rfl (Sub.cons (t := 1000007) rfl (Sub.cons (t := 1000090) rfl (Sub.cons (t := 1000091) rfl (Sub.cons (t := 1000092) rfl (Sub.cons (t := 1000099) rfl (Sub.cons (t := 1900000) rfl (Sub.cons (t := 1900001) rfl Sub.nil)))))))))))) ?_
    refine A.seq ?_
    refine A.regs (by kernel_rfl) (by kernel_rfl) (.inl rfl) ?_
    refine RunTK.last ?_
    refine RunK.step rfl rfl (ok_loadA (s := 1000005) (by decide) Tryd.underlying56 rfl (size56.of (R8.size _)) rfl rfl) ?_; refine RunK.as (aggV ((shaR l).list.map u32V)) (by rw [tailL_sha]) ?_
    refine RunK.step rfl rfl (ok_move rfl) ?_
    refine RunK.nil ?_
    refine A.sub (Sub.cons (t := 2) rfl (Sub.cons (t := 7) rfl (Sub.cons (t := 29) rfl (Sub.cons (t := 30) rfl (Sub.cons (t := 1000002) rfl (Sub.cons (t := 1000005) rfl (Sub.cons (t := 1000007) rfl (Sub.cons (t := 1000090) rfl (Sub.cons (t := 1000091) rfl (Sub.cons (t := 1000092) rfl (Sub.cons (t := 1000099) rfl (Sub.cons (t := 1900000) rfl (Sub.cons (t := 1900001) rfl Sub.nil))))))))))))) ?_
    refine A.block ?_
    refine A.loop (ι := Nat) (fun i => i ≤ 8) (fun i => [(2, .v (.pointer (some ⟨b2, 0, none⟩))), (7, .v (.pointer (some ⟨b7, 0, none⟩))), (29, .v (aggV ((shaR l).list.map u32V))), (30, .v (.int .i64 ((i : Nat) : Int))), (1000002, blk b2 25 (List.replicate 32 (.int .u8 0))), (1000007, blk b7 25 (tableB ((sha l).take (4 * i)) 32)), (1000099, recD D (.deferred (some [])) 0), (1900000, tab 0 (H8.list.map u32V)), (1900001, tab 1 (K64.map u32V))]) (fun i => 8 - i) 0 ?_ ?_ ?_
    · exact Nat.zero_le _
    · exact (Sub.cons (t := 2) rfl (Sub.cons (t := 7) rfl (Sub.cons (t := 29) rfl (Sub.cons (t := 30) rfl (Sub.cons (t := 1000002) rfl (Sub.eq (t := 1000007) _ rfl (by rw [Nat.mul_zero, List.take_zero, ← tableB_nil]) (Sub.cons (t := 1000099) rfl (Sub.cons (t := 1900000) rfl (Sub.cons (t := 1900001) rfl Sub.nil)))))))))
    intro i hi
    refine A.regs (by kernel_rfl) (by kernel_rfl) (.inl rfl) ?_
    refine RunTK.last ?_
    refine RunK.step rfl rfl (ok_bin rfl rfl rfl) ?_
    refine RunK.nil ?_
    refine A.sub (Sub.cons (t := 2) rfl (Sub.cons (t := 7) rfl (Sub.cons (t := 29) rfl (Sub.cons (t := 30) rfl (Sub.cons (t := 31) rfl (Sub.cons (t := 1000002) rfl (Sub.cons (t := 1000007) rfl (Sub.cons (t := 1000099) rfl (Sub.cons (t := 1900000) rfl (Sub.cons (t := 1900001) rfl Sub.nil)))))))))) ?_
    refine A.seq ?_
    refine A.cond rfl (fun hc31 => ?_) (fun hc31 => ?_)
    · have hlt : i < 8 := by simp at hc31; omega
      refine A.skip ?_
      refine End.normal_then (End.code ?_)
      refine A.seq ?_
      refine A.block ?_
      refine A.regs (by kernel_rfl) (by kernel_rfl) (.inl rfl) ?_
      refine RunTK.last ?_
      refine RunK.step rfl rfl (ok_move rfl) ?_
      refine RunK.step rfl rfl (ok_indexV1 i Tryd.underlying56 Tryd.underlying55 rfl info55 rfl rfl rfl hlt (map_get32 (by show i < 8; omega))) ?_
      refine RunK.step rfl rfl (ok_assign rfl) ?_
      refine RunK.step rfl rfl (ok_assign rfl) ?_
      refine RunK.nil ?_
      refine A.sub (Sub.cons (t := 2) rfl (Sub.cons (t := 7) rfl (Sub.cons (t := 8) rfl (Sub.cons (t := 9) rfl (Sub.cons (t := 29) rfl (Sub.cons (t := 30) rfl (Sub.cons (t := 1000002) rfl (Sub.cons (t := 1000007) rfl (Sub.cons (t := 1000099) rfl (Sub.cons (t := 1900000) rfl (Sub.cons (t := 1900001) rfl Sub.nil))))))))))) ?_
      refine A.reg (by kernel_rfl) (by kernel_rfl) (.inr (by kernel_rfl)) ?_
      refine RunTK.eff 5 (by decide) rfl (.inr (by kernel_rfl)) ?_
      refine RunK.step rfl rfl (ok_move rfl) ?_
      refine RunK.step rfl rfl (ok_bin rfl rfl rfl) ?_; refine RunK.as (.int .i64 ((4 * i : Nat) : Int)) (by rw [wrap_i64 (by omega) (by omega)]; first | rfl | (congr 1; omega)) ?_
      refine RunK.step rfl rfl (ok_sliceX (l := 4 * i) (h := 32) (m := 32) Tryd.underlying25 info5 rfl (.inl ⟨_, _, rfl, rfl⟩) (.inr ⟨rfl, rfl, rfl⟩) (.inr ⟨rfl, rfl⟩) (by omega) (by omega) (by omega) (.inl (by omega))) ?_
      refine RunK.step rfl rfl (ok_move rfl) ?_
      refine RunK.step rfl rfl (ok_call (Put32_fn ((((shaR l).list.getD i 0).toNat : Nat) : Int) (Int.natCast_nonneg _) (by have := u32_lt ((shaR l).list.getD i 0); omega)) (Args.cons rfl (Le.refl _) Args.nil)) ?_
      refine RunK.nil ?_
      refine ⟨_, eff_copyS (n := 42) (s := 1000007) (l := be 4 ((shaR l).list.getD i 0).toNat) Tryd.underlying22 info5 rfl rfl (le_byt _ _) hBb7 rfl (by rw [tableB_length (by simp [sha_length]; omega)]; omega) (by decide) (LeftS.cons (t := 2) rfl (Surv.v _) (LeftS.cons (t := 7) rfl (Surv.v _) (LeftS.cons (t := 8) rfl (Surv.v _) (LeftS.cons (t := 9) rfl (Surv.v _) (LeftS.cons (t := 29) rfl (Surv.v _) (LeftS.cons (t := 30) rfl (Surv.v _) (LeftS.cons (t := 34) rfl (Surv.v _) (LeftS.cons (t := 35) rfl (Surv.v _) (LeftS.cons (t := 36) rfl (Surv.v _) (LeftS.cons (t := 37) rfl (Surv.v _) (LeftS.cons (t := 1000002) rfl (Surv.blk (by omega)) (LeftS.cons (t := 1000099) rfl (Surv.rec rfl) (LeftS.cons (t := 1900000) rfl (Surv.tab (by omega)) (LeftS.cons (t := 1900001) rfl (Surv.tab (by omega)) LeftS.nil)))))))))))))), ?_⟩
      refine RunTK.last ?_
      refine RunK.nil ?_
      refine End.sub (Sub.cons (t := 2) rfl (Sub.cons (t := 7) rfl (Sub.cons (t := 29) rfl (Sub.cons (t := 30) rfl (Sub.cons (t := 1000002) rfl (Sub.eq (t := 1000007) _ rfl (show blk b7 25 _ = blk b7 25 (tableB ((sha l).take (4 * (i + 1))) 32) from congrArg _ (sha_copy l hlt)) (Sub.cons (t := 1000099) rfl (Sub.cons (t := 1900000) rfl (Sub.cons (t := 1900001) rfl Sub.nil))))))))) ?_
      refine End.normal_block ?_
      refine End.normal_then (End.code ?_)
      refine A.reg (by kernel_rfl) (by kernel_rfl) (.inl rfl) ?_
      refine RunTK.last ?_
      refine RunK.step rfl rfl (ok_bin rfl rfl rfl) ?_; refine RunK.as (.int .i64 ((i + 1 : Nat) : Int)) (by rw [wrap_i64 (by omega) (by omega)]; first | rfl | (congr 1; omega)) ?_
      refine RunK.step rfl rfl (ok_move rfl) ?_
      refine RunK.nil ?_
      refine End.sub (Sub.cons (t := 2) rfl (Sub.cons (t := 7) rfl (Sub.cons (t := 29) rfl (Sub.cons (t := 30) rfl (Sub.cons (t := 1000002) rfl (Sub.cons (t := 1000007) rfl (Sub.cons (t := 1000099) rfl (Sub.cons (t := 1900000) rfl (Sub.cons (t := 1900001) rfl Sub.nil))))))))) ?_
      refine End.normal_then ?_
      refine End.again (i + 1) ?_ ?_ ?_
      · show _ ≤ _; omega
      · show _ - _ < _ - _; omega
      · exact (Sub.cons (t := 2) rfl (Sub.cons (t := 7) rfl (Sub.cons (t := 29) rfl (Sub.cons (t := 30) rfl (Sub.cons (t := 1000002) rfl (Sub.cons (t := 1000007) rfl (Sub.cons (t := 1000099) rfl (Sub.cons (t := 1900000) rfl (Sub.cons (t := 1900001) rfl Sub.nil)))))))))
    · obtain rfl : i = 8 := by simp at hc31; omega
      refine A.exit ?_
      refine End.exit_then ?_
      refine End.exit_then ?_
      refine End.exit_here ?_
      refine End.normal_then (End.code ?_)
      refine A.regs (by kernel_rfl) (by kernel_rfl) (.inl rfl) ?_
      refine RunTK.eff 1 (by decide) rfl (.inl rfl) ?_
      refine RunK.step rfl rfl (ok_loadA (s := 1000007) (by decide) Tryd.underlying25 rfl (size25.of (by rw [tableB_length (by simp [sha_length])])) rfl rfl) ?_; refine RunK.as (aggV ((sha l).map byteV)) (by rw [tableB_full (by simp [sha_length]), List.take_of_length_le (by rw [sha_length]; decide)]) ?_
      refine RunK.nil ?_
      refine ⟨_, eff_storeA (n := 42) (s := 1000002) (size25.of (by rw [List.length_map, sha_length])) rfl rfl (all_bytes _) hBb2 rfl (by rw [List.length_map, sha_length, List.length_replicate]) (LeftS.cons (t := 2) rfl (Surv.v _) (LeftS.cons (t := 7) rfl (Surv.v _) (LeftS.cons (t := 29) rfl (Surv.v _) (LeftS.cons (t := 30) rfl (Surv.v _) (LeftS.cons (t := 31) rfl (Surv.v _) (LeftS.cons (t := 41) rfl (Surv.v _) (LeftS.cons (t := 1000007) rfl (Surv.blk (by omega)) (LeftS.cons (t := 1000099) rfl (Surv.rec rfl) (LeftS.cons (t := 1900000) rfl (Surv.tab (by omega)) (LeftS.cons (t := 1900001) rfl (Surv.tab (by omega)) LeftS.nil)))))))))), ?_⟩
      refine RunTK.last ?_
      refine RunK.nil ?_
      refine A.sub (Sub.cons (t := 2) rfl (Sub.cons (t := 1000002) rfl (Sub.cons (t := 1000007) rfl (Sub.cons (t := 1000099) rfl (Sub.cons (t := 1900000) rfl (Sub.cons (t := 1900001) rfl Sub.nil)))))) ?_
      refine A.ret ?_
      exact End.cell1C (D := D) (vD := 1000099) rfl hD rfl Tryd.underlying25 rfl (size25.of (by rw [List.length_map, sha_length])) rfl (s := 1000002) rfl (fun _ => rfl)
end Go.Proofs.YtidlikaiileggaaDoor
