/-
  Package digests by facts, part two: Compress, Initial, New, filled, compressed, ending.
-/
import Derived.Test.YtidlikaiileggaaDoorC02g
import Derived.Test.YtidlikaiileggaaDoorSt
import Derived.Test.YtidlikaiileggaaDoorC01b
import Derived.Test.YtidlikaiileggaaDoorC01d
namespace Go.Proofs.YtidlikaiileggaaDoor
open Go Go.RowKit
set_option linter.unusedVariables false

theorem zero59 : ZeroIs Tryd.prog 59 (List.replicate 8 (.int .u32 0) ++ List.replicate 64 (.int .u8 0) ++ [.int .u64 0]) := by unfold ZeroIs; kernel_rfl
theorem size59 : SizeIs Tryd.prog 59 73 := by unfold SizeIs; kernel_rfl
theorem field59_0 : FieldIs Tryd.prog 59 0 0 8 := by unfold FieldIs; kernel_rfl
theorem field59_1 : FieldIs Tryd.prog 59 1 8 64 := by unfold FieldIs; kernel_rfl
theorem field59_2 : FieldIs Tryd.prog 59 2 72 1 := by unfold FieldIs; kernel_rfl
/-- The first i words are sums already. -/
def half (s t : R8) (i : Nat) : List Value := ((s.add t).list.take i ++ s.list.drop i).map u32V
theorem half_length {s t : R8} {i : Nat} (h : i ≤ 8) : (half s t i).length = 8 := by
  have h1 : s.list.length = 8 := rfl
  have h2 : (s.add t).list.length = 8 := rfl
  simp [half, h1, h2]; omega
theorem half_get {s t : R8} {i : Nat} (h : i < 8) : (half s t i)[i]? = some (u32V (s.list.getD i 0)) := by
  rcases i with _ | _ | _ | _ | _ | _ | _ | _ | i
  all_goals first | rfl | omega
theorem half_set {s t : R8} {i : Nat} (h : i < 8) : (half s t i).set i (u32V (s.list.getD i 0 + t.list.getD i 0)) = half s t (i + 1) := by
  rcases i with _ | _ | _ | _ | _ | _ | _ | _ | i
  all_goals first | rfl | omega

-- caisson/digests.Initial: not at this seat
set_option maxHeartbeats 400000 in
theorem Compress_fn (h : R8) (l : List UInt8) (hl : l.length = 64) : FnM Tryd.prog 35 tabs [.v (aggV (h.list.map u32V)), .v (aggV (l.map byteV))] (.v (aggV ((compress h l).list.map u32V))) := by
  refine FnM.of Tryd.func35 rfl (by kernel_rfl) Tryd.ntmps35 (by simp) (by decide) (fun w => [(0, .v (aggV (h.list.map u32V))), (1, .v (aggV (l.map byteV))), (1900000, tab 0 (H8.list.map u32V)), (1900001, tab 1 (K64.map u32V))]) (fun w => (StartM.v rfl (StartM.v rfl (StartM.m (by simp [tabs]) (by decide) (StartM.m (by simp [tabs]) (by decide) StartM.nil))))) fun w₀ hM => ?_
  have htab := tabs_hi hM
  refine A.regs (by kernel_rfl) (by kernel_rfl) (.inl rfl) ?_
  refine RunTK.new 0 (by decide) rfl (.inl rfl) ?_
  refine RunK.nil ?_
  refine ⟨_, _, eff_box (n := 23) (d := 2) (k := 1000002) rfl (by decide), fun b2 hb2 => ?_⟩
  have hBb2 := hb2.1
  refine RunTK.new 1 (by decide) rfl (.inl rfl) ?_
  refine RunK.nil ?_
  refine ⟨_, _, eff_box (n := 23) (d := 3) (k := 1000003) rfl (by decide), fun b3 hb3 => ?_⟩
  have hBb3 := hb3.1
  have hlt_b2_b3 : b2 < b3 := hb3.2 1000002 _ _ _ rfl
  refine RunTK.new 2 (by decide) rfl (.inl rfl) ?_
  refine RunK.nil ?_
  refine ⟨_, _, eff_alloc (n := 23) (d := 4) (k := 1000004) zero56 (by decide), fun b4 hb4 => ?_⟩
  have hBb4 := hb4.1
  have hlt_b2_b4 : b2 < b4 := hb4.2 1000002 _ _ _ rfl
  have hlt_b3_b4 : b3 < b4 := hb4.2 1000003 _ _ _ rfl
  refine RunTK.last ?_
  refine RunK.nil ?_
  refine A.sub (Sub.cons (t := 2) rfl (Sub.cons (t := 3) rfl (Sub.cons (t := 4) rfl (Sub.cons (t := 1000002) rfl (Sub.cons (t := 1000003) rfl (Sub.cons (t := 1000004) rfl (Sub.cons (t := 1900000) rfl (Sub.cons (t := 1900001) rfl Sub.nil)))))))) ?_
  refine A.seq ?_
  refine A.regs (by kernel_rfl) (by kernel_rfl) (.inr (by kernel_rfl)) ?_
  refine RunTK.last ?_
  refine RunK.step rfl rfl (ok_loadA (s := 1000002) (by decide) Tryd.underlying56 rfl (size56.of (R8.size _)) rfl rfl) ?_
  refine RunK.step rfl rfl (ok_loadA (s := 1000003) (by decide) Tryd.underlying53 rfl (size53.of (by rw [List.length_map, hl])) rfl rfl) ?_
  refine RunK.step rfl rfl (ok_call (schedule_fn l hl) (Args.cons rfl (Le.refl _) Args.nil)) ?_
  refine RunK.step rfl rfl (ok_callM (rounds_fn h (sched l 64) (sched_length l 64)) (Sub.cons rfl (Sub.cons rfl Sub.nil)) tabs_v (Args.cons rfl (by first | exact Le.refl _ | exact Le.old _ _ | exact le_byt _ _ | exact (Le.old _ _).trans (le_byt _ _) | exact le_lst _ _ | exact (Le.old _ _).trans (le_lst _ _) | exact (Le.old _ _).trans (Le.old _ _) | exact (Le.old _ _).trans ((Le.old _ _).trans (le_byt _ _)) | exact byt_nil_le | exact lst_nil_le | exact bytes_nil_le | exact list_nil_le) (Args.cons rfl (by first | exact Le.refl _ | exact Le.old _ _ | exact le_byt _ _ | exact (Le.old _ _).trans (le_byt _ _) | exact le_lst _ _ | exact (Le.old _ _).trans (le_lst _ _) | exact (Le.old _ _).trans (Le.old _ _) | exact (Le.old _ _).trans ((Le.old _ _).trans (le_byt _ _)) | exact byt_nil_le | exact lst_nil_le | exact bytes_nil_le | exact list_nil_le) Args.nil))) ?_
  refine RunK.step rfl rfl (ok_move rfl) ?_
  refine RunK.nil ?_
  refine A.sub (Sub.cons (t := 2) rfl (Sub.cons (t := 4) rfl (Sub.cons (t := 10) rfl (Sub.cons (t := 11) rfl (Sub.cons (t := 1000002) rfl (Sub.cons (t := 1000003) rfl (Sub.cons (t := 1000004) rfl (Sub.cons (t := 1900000) rfl (Sub.cons (t := 1900001) rfl Sub.nil))))))))) ?_
  refine A.block ?_
  refine A.loop (ι := Nat) (fun i => i ≤ 8) (fun i => [(2, .v (.pointer (some ⟨b2, 0, none⟩))), (4, .v (.pointer (some ⟨b4, 0, none⟩))), (10, .v (aggV ((rounds h K64 (sched l 64) 64).list.map u32V))), (11, .v (.int .i64 ((i : Nat) : Int))), (1000002, blk b2 56 (half h (rounds h K64 (sched l 64) 64) i)), (1000004, blk b4 56 (List.replicate 8 (.int .u32 0))), (1900000, tab 0 (H8.list.map u32V)), (1900001, tab 1 (K64.map u32V))]) (fun i => 8 - i) 0 ?_ ?_ ?_
  · exact Nat.zero_le _
  · exact (Sub.cons (t := 2) rfl (Sub.cons (t := 4) rfl (Sub.cons (t := 10) rfl (Sub.cons (t := 11) rfl (Sub.eq (t := 1000002) _ rfl (rfl) (Sub.cons (t := 1000004) rfl (Sub.cons (t := 1900000) rfl (Sub.cons (t := 1900001) rfl Sub.nil))))))))
  intro i hi
  refine A.regs (by kernel_rfl) (by kernel_rfl) (.inl rfl) ?_
  refine RunTK.last ?_
  refine RunK.step rfl rfl (ok_bin rfl rfl rfl) ?_
  refine RunK.nil ?_
  refine A.sub (Sub.cons (t := 2) rfl (Sub.cons (t := 4) rfl (Sub.cons (t := 10) rfl (Sub.cons (t := 11) rfl (Sub.cons (t := 12) rfl (Sub.cons (t := 1000002) rfl (Sub.cons (t := 1000004) rfl (Sub.cons (t := 1900000) rfl (Sub.cons (t := 1900001) rfl Sub.nil))))))))) ?_
  refine A.seq ?_
  refine A.cond rfl (fun hc12 => ?_) (fun hc12 => ?_)
  · have hlt : i < 8 := by simp at hc12; omega
    refine A.skip ?_
    refine End.normal_then (End.code ?_)
    refine A.seq ?_
    refine A.block ?_
    refine A.regs (by kernel_rfl) (by kernel_rfl) (.inl rfl) ?_
    refine RunTK.last ?_
    refine RunK.step rfl rfl (ok_move rfl) ?_
    refine RunK.step rfl rfl (ok_indexV1 i Tryd.underlying56 Tryd.underlying55 rfl info55 rfl rfl rfl hlt (map_get32 (by show i < 8; omega))) ?_
    refine RunK.step rfl rfl (ok_assign rfl) ?_
    refine RunK.step rfl rfl (ok_assign rfl) ?_
    refine RunK.nil ?_
    refine A.sub (Sub.cons (t := 2) rfl (Sub.cons (t := 4) rfl (Sub.cons (t := 5) rfl (Sub.cons (t := 6) rfl (Sub.cons (t := 10) rfl (Sub.cons (t := 11) rfl (Sub.cons (t := 1000002) rfl (Sub.cons (t := 1000004) rfl (Sub.cons (t := 1900000) rfl (Sub.cons (t := 1900001) rfl Sub.nil)))))))))) ?_
    refine A.reg (by kernel_rfl) (by kernel_rfl) (.inl rfl) ?_
    refine RunTK.eff 6 (by decide) rfl (.inl rfl) ?_
    refine RunK.step rfl rfl (ok_move rfl) ?_
    refine RunK.step rfl rfl (ok_index0 _ Tryd.underlying56 info55 rfl rfl (rfl) (by omega)) ?_
    refine RunK.step rfl rfl (ok_loadV (s := 1000002) (by decide) Tryd.underlying55 rfl rfl rfl (half_get hlt)) ?_
    refine RunK.step rfl rfl (ok_move rfl) ?_
    refine RunK.step rfl rfl (ok_add32 rfl rfl) ?_
    refine RunK.step rfl rfl (ok_index0 _ Tryd.underlying56 info55 rfl rfl (rfl) (by omega)) ?_
    refine RunK.nil ?_
    refine ⟨_, eff_storeS (n := 23) (s := 1000002) info55 rfl rfl rfl hBb2 rfl (by rw [half_length (by omega)]; omega) (LeftS.cons (t := 2) rfl (Surv.v _) (LeftS.cons (t := 4) rfl (Surv.v _) (LeftS.cons (t := 5) rfl (Surv.v _) (LeftS.cons (t := 6) rfl (Surv.v _) (LeftS.cons (t := 10) rfl (Surv.v _) (LeftS.cons (t := 11) rfl (Surv.v _) (LeftS.cons (t := 15) rfl (Surv.v _) (LeftS.cons (t := 16) rfl (Surv.v _) (LeftS.cons (t := 17) rfl (Surv.v _) (LeftS.cons (t := 18) rfl (Surv.v _) (LeftS.cons (t := 19) rfl (Surv.v _) (LeftS.cons (t := 20) rfl (Surv.v _) (LeftS.cons (t := 1000004) rfl (Surv.blk (by omega)) (LeftS.cons (t := 1900000) rfl (Surv.tab (by omega)) (LeftS.cons (t := 1900001) rfl (Surv.tab (by omega)) LeftS.nil))))))))))))))), ?_⟩
    refine RunTK.last ?_
    refine RunK.nil ?_
    refine End.sub (Sub.cons (t := 2) rfl (Sub.cons (t := 4) rfl (Sub.cons (t := 10) rfl (Sub.cons (t := 11) rfl (Sub.cons (t := 1000002) rfl (Sub.cons (t := 1000004) rfl (Sub.cons (t := 1900000) rfl (Sub.cons (t := 1900001) rfl Sub.nil)))))))) ?_
    refine End.normal_block ?_
    refine End.normal_then (End.code ?_)
    refine A.reg (by kernel_rfl) (by kernel_rfl) (.inl rfl) ?_
    refine RunTK.last ?_
    refine RunK.step rfl rfl (ok_bin rfl rfl rfl) ?_; refine RunK.as (.int .i64 ((i + 1 : Nat) : Int)) (by rw [wrap_i64 (by omega) (by omega)]; first | rfl | (congr 1; omega)) ?_
    refine RunK.step rfl rfl (ok_move rfl) ?_
    refine RunK.nil ?_
    refine End.sub (Sub.cons (t := 2) rfl (Sub.cons (t := 4) rfl (Sub.cons (t := 10) rfl (Sub.cons (t := 11) rfl (Sub.cons (t := 1000002) rfl (Sub.cons (t := 1000004) rfl (Sub.cons (t := 1900000) rfl (Sub.cons (t := 1900001) rfl Sub.nil)))))))) ?_
    refine End.normal_then ?_
    refine End.again (i + 1) ?_ ?_ ?_
    · show _ ≤ _; omega
    · show _ - _ < _ - _; omega
    · exact (Sub.cons (t := 2) rfl (Sub.cons (t := 4) rfl (Sub.cons (t := 10) rfl (Sub.cons (t := 11) rfl (Sub.eq (t := 1000002) _ rfl (by rw [half_set hlt]) (Sub.cons (t := 1000004) rfl (Sub.cons (t := 1900000) rfl (Sub.cons (t := 1900001) rfl Sub.nil))))))))
  · obtain rfl : i = 8 := by simp at hc12; omega
    refine A.exit ?_
    refine End.exit_then ?_
    refine End.exit_then ?_
    refine End.exit_here ?_
    refine End.normal_then (End.code ?_)
    refine A.regs (by kernel_rfl) (by kernel_rfl) (.inl rfl) ?_
    refine RunTK.eff 1 (by decide) rfl (.inl rfl) ?_
    refine RunK.step rfl rfl (ok_loadA (s := 1000002) (by decide) Tryd.underlying56 rfl (size56.of (half_length (by omega))) rfl rfl) ?_; refine RunK.as (aggV ((compress h l).list.map u32V)) (rfl) ?_
    refine RunK.nil ?_
    refine ⟨_, eff_storeA (n := 23) (s := 1000004) (size56.of (R8.size _)) rfl rfl (all_u32 _) hBb4 rfl ((R8.size _).symm) (LeftS.cons (t := 2) rfl (Surv.v _) (LeftS.cons (t := 4) rfl (Surv.v _) (LeftS.cons (t := 10) rfl (Surv.v _) (LeftS.cons (t := 11) rfl (Surv.v _) (LeftS.cons (t := 12) rfl (Surv.v _) (LeftS.cons (t := 22) rfl (Surv.v _) (LeftS.cons (t := 1000002) rfl (Surv.blk (by omega)) (LeftS.cons (t := 1900000) rfl (Surv.tab (by omega)) (LeftS.cons (t := 1900001) rfl (Surv.tab (by omega)) LeftS.nil))))))))), ?_⟩
    refine RunTK.last ?_
    refine RunK.nil ?_
    refine A.sub (Sub.cons (t := 4) rfl (Sub.cons (t := 1000002) rfl (Sub.cons (t := 1000004) rfl (Sub.cons (t := 1900000) rfl (Sub.cons (t := 1900001) rfl Sub.nil))))) ?_
    refine A.ret ?_
    exact End.cell1 (s := 1000004) rfl Tryd.underlying56 rfl (size56.of (R8.size _)) rfl rfl (Le.refl _)
theorem New_fn  : Fn Tryd.prog 32 [] (.v (stV [])) := by
  refine Fn.of Tryd.func32 rfl (by kernel_rfl) Tryd.ntmps32 (by simp) (fun w => []) (fun w => Start.nil) fun w₀ => ?_
  refine A.regs (by kernel_rfl) (by kernel_rfl) (.inl rfl) ?_
  refine RunTK.new 0 (by decide) rfl (.inl rfl) ?_
  refine RunK.nil ?_
  refine ⟨_, _, eff_alloc (n := 2) (d := 0) (k := 1000000) zero59 (by decide), fun b0 hb0 => ?_⟩
  have hBb0 := hb0.1
  refine RunTK.last ?_
  refine RunK.nil ?_
  refine A.sub (Sub.cons (t := 0) rfl (Sub.cons (t := 1000000) rfl Sub.nil)) ?_
  refine A.regs (by kernel_rfl) (by kernel_rfl) (.inl rfl) ?_
  refine RunTK.eff 1 (by decide) rfl (.inl rfl) ?_
  refine RunK.step rfl rfl (ok_lit [] (List.replicate 8 (.int .u32 0) ++ List.replicate 64 (.int .u8 0) ++ [.int .u64 0]) (fun _ _ => rfl) (by kernel_rfl)) ?_
  refine RunK.nil ?_
  refine ⟨_, eff_storeA (n := 2) (s := 1000000) (size59.of (by decide)) rfl rfl (by decide) hBb0 rfl (rfl) (LeftS.cons (t := 0) rfl (Surv.v _) (LeftS.cons (t := 1) rfl (Surv.v _) LeftS.nil)), ?_⟩
  refine RunTK.last ?_
  refine RunK.nil ?_
  refine A.sub (Sub.cons (t := 0) rfl (Sub.cons (t := 1000000) rfl Sub.nil)) ?_
  refine A.ret ?_
  exact End.cell1 (s := 1000000) rfl Tryd.underlying59 rfl (size59.of (by decide)) rfl rfl (Le.eq (by rw [stV, stL_nil]))
theorem filled_fn (f : R8) (r : List UInt8) (m : Nat) (hr : r.length = 64) (hm : m ≤ 1000000) : Fn Tryd.prog 34 [.v (aggV (stM f r m))] (.v (.int .i64 ((m % 64 : Nat) : Int))) := by
  refine Fn.of Tryd.func34 rfl (by kernel_rfl) Tryd.ntmps34 (by simp) (fun w => [(0, .v (aggV (stM f r m)))]) (fun w => (Start.v rfl Start.nil)) fun w₀ => ?_
  refine A.regs (by kernel_rfl) (by kernel_rfl) (.inl rfl) ?_
  refine RunTK.new 0 (by decide) rfl (.inl rfl) ?_
  refine RunK.nil ?_
  refine ⟨_, _, eff_box (n := 7) (d := 1) (k := 1000001) rfl (by decide), fun b1 hb1 => ?_⟩
  have hBb1 := hb1.1
  refine RunTK.last ?_
  refine RunK.step rfl rfl (ok_assign rfl) ?_
  refine RunK.nil ?_
  refine A.sub (Sub.cons (t := 1) rfl (Sub.cons (t := 1000001) rfl Sub.nil)) ?_
  refine A.regs (by kernel_rfl) (by kernel_rfl) (.inl rfl) ?_
  refine RunTK.last ?_
  refine RunK.step rfl rfl (ok_field field59_2 (by decide) rfl) ?_
  refine RunK.step rfl rfl (ok_loadV (s := 1000001) (by decide) Tryd.underlying57 rfl rfl rfl (stM_size hr)) ?_
  refine RunK.step rfl rfl (ok_rem rfl rfl (by decide)) ?_; refine RunK.as (.int .u64 ((m % 64 : Nat) : Int)) (by rw [tmod_lit _ (by decide)]; rfl) ?_
  refine RunK.step rfl rfl (ok_conv Tryd.underlying57 Tryd.underlying3 rfl) ?_; refine RunK.as (.int .i64 ((m % 64 : Nat) : Int)) (by rw [wrap_i64 (by omega) (by omega)]) ?_
  refine RunK.step rfl rfl (ok_assign rfl) ?_
  refine RunK.nil ?_
  refine A.sub (Sub.cons (t := 2) rfl (Sub.cons (t := 1000001) rfl Sub.nil)) ?_
  refine A.ret ?_
  exact End.ret1 rfl rfl (by first | exact Le.refl _ | exact Le.old _ _)
theorem compressed_fn (l : List UInt8) (hl : l.length ≤ 1000000) : FnM Tryd.prog 33 tabs [.v (stV l)] (.v (aggV ((chain H8 l (l.length / 64)).list.map u32V))) := by
  refine FnM.of Tryd.func33 rfl (by kernel_rfl) Tryd.ntmps33 (by simp) (by decide) (fun w => [(0, .v (stV l)), (1900000, tab 0 (H8.list.map u32V)), (1900001, tab 1 (K64.map u32V))]) (fun w => (StartM.v rfl (StartM.m (by simp [tabs]) (by decide) (StartM.m (by simp [tabs]) (by decide) StartM.nil)))) fun w₀ hM => ?_
  have htab := tabs_hi hM
  refine A.regs (by kernel_rfl) (by kernel_rfl) (.inl rfl) ?_
  refine RunTK.new 0 (by decide) rfl (.inl rfl) ?_
  refine RunK.nil ?_
  refine ⟨_, _, eff_box (n := 9) (d := 1) (k := 1000001) rfl (by decide), fun b1 hb1 => ?_⟩
  have hBb1 := hb1.1
  refine RunTK.new 1 (by decide) rfl (.inl rfl) ?_
  refine RunK.nil ?_
  refine ⟨_, _, eff_alloc (n := 9) (d := 2) (k := 1000002) zero56 (by decide), fun b2 hb2 => ?_⟩
  have hBb2 := hb2.1
  have hlt_b1_b2 : b1 < b2 := hb2.2 1000001 _ _ _ rfl
  refine RunTK.last ?_
  refine RunK.nil ?_
  refine A.sub (Sub.cons (t := 1) rfl (Sub.cons (t := 2) rfl (Sub.cons (t := 1000001) rfl (Sub.cons (t := 1000002) rfl (Sub.cons (t := 1900000) rfl (Sub.cons (t := 1900001) rfl Sub.nil)))))) ?_
  refine A.seq ?_
  refine A.regs (by kernel_rfl) (by kernel_rfl) (.inl rfl) ?_
  refine RunTK.last ?_
  refine RunK.step rfl rfl (ok_field field59_2 (by decide) rfl) ?_
  refine RunK.step rfl rfl (ok_loadV (s := 1000001) (by decide) Tryd.underlying57 rfl rfl rfl (stL_size l)) ?_
  refine RunK.step rfl rfl (ok_bin rfl rfl rfl) ?_
  refine RunK.nil ?_
  refine A.sub (Sub.cons (t := 1) rfl (Sub.cons (t := 2) rfl (Sub.cons (t := 5) rfl (Sub.cons (t := 1000001) rfl (Sub.cons (t := 1000002) rfl (Sub.cons (t := 1900000) rfl (Sub.cons (t := 1900001) rfl Sub.nil))))))) ?_
  refine A.cond rfl (fun hc5 => ?_) (fun hc5 => ?_)
  · have hs : l.length < 64 := by simp at hc5; omega
    refine A.regs (by kernel_rfl) (by kernel_rfl) (.inl rfl) ?_
    refine RunTK.eff 1 (by decide) rfl (.inl rfl) ?_
    refine RunK.step rfl rfl (ok_loadT (s := 1900000) (by decide) Tryd.underlying56 rfl (size56.of (R8.size _)) rfl rfl) ?_; refine RunK.as (aggV ((chain H8 l (l.length / 64)).list.map u32V)) (by rw [chain_start l hs]) ?_
    refine RunK.nil ?_
    refine ⟨_, eff_storeA (n := 9) (s := 1000002) (size56.of (R8.size _)) rfl rfl (all_u32 _) hBb2 rfl ((R8.size _).symm) (LeftS.cons (t := 1) rfl (Surv.v _) (LeftS.cons (t := 2) rfl (Surv.v _) (LeftS.cons (t := 5) rfl (Surv.v _) (LeftS.cons (t := 6) rfl (Surv.v _) (LeftS.cons (t := 1000001) rfl (Surv.blkT (by decide)) (LeftS.cons (t := 1900000) rfl (Surv.tab (by omega)) (LeftS.cons (t := 1900001) rfl (Surv.tab (by omega)) LeftS.nil))))))), ?_⟩
    refine RunTK.last ?_
    refine RunK.nil ?_
    refine A.sub (Sub.cons (t := 2) rfl (Sub.cons (t := 1000001) rfl (Sub.cons (t := 1000002) rfl (Sub.cons (t := 1900000) rfl (Sub.cons (t := 1900001) rfl Sub.nil))))) ?_
    refine A.ret ?_
    refine End.ret_then ?_
    exact End.cell1 (s := 1000002) rfl Tryd.underlying56 rfl (size56.of (R8.size _)) rfl rfl (Le.refl _)
  · have hs : ¬ l.length < 64 := by simp at hc5; omega
    refine A.skip ?_
    refine End.normal_then (End.code ?_)
    refine A.regs (by kernel_rfl) (by kernel_rfl) (.inl rfl) ?_
    refine RunTK.eff 2 (by decide) rfl (.inl rfl) ?_
    refine RunK.step rfl rfl (ok_field field59_0 (by decide) rfl) ?_
    refine RunK.step rfl rfl (ok_loadP (s := 1000001) (by decide) Tryd.underlying56 rfl size56 rfl rfl (by rw [stL_length]; decide) (stL_full l)) ?_; refine RunK.as (aggV ((chain H8 l (l.length / 64)).list.map u32V)) (by rw [fullR, if_neg hs]) ?_
    refine RunK.nil ?_
    refine ⟨_, eff_storeA (n := 9) (s := 1000002) (size56.of (R8.size _)) rfl rfl (all_u32 _) hBb2 rfl ((R8.size _).symm) (LeftS.cons (t := 1) rfl (Surv.v _) (LeftS.cons (t := 2) rfl (Surv.v _) (LeftS.cons (t := 5) rfl (Surv.v _) (LeftS.cons (t := 7) rfl (Surv.v _) (LeftS.cons (t := 8) rfl (Surv.v _) (LeftS.cons (t := 1000001) rfl (Surv.blkT (by decide)) (LeftS.cons (t := 1900000) rfl (Surv.tab (by omega)) (LeftS.cons (t := 1900001) rfl (Surv.tab (by omega)) LeftS.nil)))))))), ?_⟩
    refine RunTK.last ?_
    refine RunK.nil ?_
    refine A.sub (Sub.cons (t := 2) rfl (Sub.cons (t := 1000001) rfl (Sub.cons (t := 1000002) rfl (Sub.cons (t := 1900000) rfl (Sub.cons (t := 1900001) rfl Sub.nil))))) ?_
    refine A.ret ?_
    exact End.cell1 (s := 1000002) rfl Tryd.underlying56 rfl (size56.of (R8.size _)) rfl rfl (Le.refl _)
theorem ending_fn (l : List UInt8) (hl : l.length ≤ 1000000) : Fn Tryd.prog 36 [.v (stV l)] (byt (endL l.length)) := by
  refine Fn.of Tryd.func36 rfl (by kernel_rfl) Tryd.ntmps36 (by simp) (fun w => [(0, .v (stV l))]) (fun w => (Start.v rfl Start.nil)) fun w₀ => ?_
  refine A.regs (by kernel_rfl) (by kernel_rfl) (.inl rfl) ?_
  refine RunTK.new 0 (by decide) rfl (.inl rfl) ?_
  refine RunK.nil ?_
  refine ⟨_, _, eff_box (n := 17) (d := 1) (k := 1000001) rfl (by decide), fun b1 hb1 => ?_⟩
  have hBb1 := hb1.1
  refine RunTK.last ?_
  refine RunK.step rfl rfl (ok_assign rfl) ?_
  refine RunK.nil ?_
  refine A.sub (Sub.cons (t := 1) rfl (Sub.cons (t := 1000001) rfl Sub.nil)) ?_
  refine A.regs (by kernel_rfl) (by kernel_rfl) (.inl rfl) ?_
  refine RunTK.last ?_
  refine RunK.step rfl rfl (ok_loadA (s := 1000001) (by decide) Tryd.underlying59 rfl (size59.of (stL_length l)) rfl rfl) ?_
  refine RunK.step rfl rfl (ok_call (filled_fn (fullR l) (restL l) l.length (restL_length l) hl) (Args.cons rfl (Le.refl _) Args.nil)) ?_
  refine RunK.step rfl rfl (ok_bin rfl rfl rfl) ?_; refine RunK.as (.int .i64 ((119 - l.length % 64 : Nat) : Int)) (by rw [wrap_i64 (by omega) (by omega)]; congr 1; omega) ?_
  refine RunK.step rfl rfl (ok_rem rfl rfl (by decide)) ?_; refine RunK.as (.int .i64 (((119 - l.length % 64) % 64 : Nat) : Int)) (by rw [tmod_lit _ (by decide)]; rfl) ?_
  refine RunK.step rfl rfl (ok_assign rfl) ?_
  refine RunK.nil ?_
  refine A.sub (Sub.cons (t := 1) rfl (Sub.cons (t := 3) rfl (Sub.cons (t := 1000001) rfl Sub.nil))) ?_
  refine A.regs (by kernel_rfl) (by kernel_rfl) (.inr (by kernel_rfl)) ?_
  refine RunTK.last ?_
  refine RunK.step rfl rfl (ok_build [byteD 128] Tryd.underlying22 info5 rfl (by decide) (by decide) rfl ⟨rfl, rfl, trivial⟩ (fun d hd w x h => by simp only [List.mem_cons, List.not_mem_nil, or_false] at hd; rcases hd with rfl; exact v_one rfl h)) ?_
  refine RunK.step rfl rfl (ok_move rfl) ?_
  refine RunK.step rfl rfl (ok_make ((119 - l.length % 64) % 64) Tryd.underlying22 info5 (by decide) rfl rfl rfl rfl rfl (by omega)) ?_
  refine RunK.step rfl rfl (ok_field field59_2 (by decide) rfl) ?_
  refine RunK.step rfl rfl (ok_loadV (s := 1000001) (by decide) Tryd.underlying57 rfl rfl rfl (stL_size l)) ?_
  refine RunK.step rfl rfl (ok_bin rfl rfl rfl) ?_; refine RunK.as (.int .u64 ((8 * l.length : Nat) : Int)) (by rw [wrap_u64 (by omega) (by omega)]; congr 1) ?_
  refine RunK.step rfl rfl (ok_call (Put64_fn ((8 * l.length : Nat) : Int) (by omega) (by omega)) (Args.cons rfl (Le.refl _) Args.nil)) ?_
  refine RunK.step rfl rfl (ok_build [list [byteD 128] 1, fresh w₀.heap.size 5 (List.replicate ((119 - l.length % 64) % 64) (.int .u8 0)) ((119 - l.length % 64) % 64), bytes (be 8 (8 * l.length)) 8] Tryd.underlying52 info22 rfl (by decide) (by decide) rfl ⟨rfl, rfl, rfl, rfl, rfl, rfl, trivial⟩ (fun d hd w x h => by simp only [List.mem_cons, List.not_mem_nil, or_false] at hd; rcases hd with rfl | rfl | rfl <;> first | exact list_one h | exact freshS_one h | exact bytes_one h)) ?_
  refine RunK.step rfl rfl (ok_call ((Join_fn [[128], List.replicate ((119 - l.length % 64) % 64) 0, be 8 (8 * l.length)] (by simp) (by simp [be_length]; omega)).le (d' := byt (endL l.length)) ((le_byt _ _).trans (Le.eq (by simp [endL])))) (Args.cons rfl (list_lst3 (le_lst _ _) (fresh_zeros (by simp only [maxLen]; omega)) (le_byt _ _)) Args.nil)) ?_
  refine RunK.step rfl rfl (ok_assign rfl) ?_
  refine RunK.nil ?_
  refine A.sub (Sub.cons (t := 2) rfl (Sub.cons (t := 1000001) rfl Sub.nil)) ?_
  refine A.ret ?_
  exact End.ret1 rfl rfl (by first | exact Le.refl _ | exact Le.old _ _)
end Go.Proofs.YtidlikaiileggaaDoor
