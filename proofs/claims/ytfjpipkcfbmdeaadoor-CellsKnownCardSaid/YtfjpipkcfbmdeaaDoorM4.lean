/-
  OWN TEXTS of this seat, put together, part 4: C01c, C02g, St, C02h, Dig, C02d, C02e, C02f, C02i, C02j, C02k, C13b, C13c, LaidN, C12d, C13d, Leave, Cell, Ledg, Parts, LedL, LedM, Disk, CellR, Disk2.
-/
import Derived.Test.YtfjpipkcfbmdeaaDoorM1
import Derived.Test.YtfjpipkcfbmdeaaDoorM3
import Derived.Test.YtfjpipkcfbmdeaaDoorM2
import Derived.Test.YtfjpipkcfbmdeaaDoorTie
import Derived.ProofKit
import Derived.LaidMore
import Derived.Stop.Joined
namespace Go.Proofs.YtfjpipkcfbmdeaaDoor
open Go Go.RowKit
set_option linter.unusedVariables false
set_option maxRecDepth 20000

theorem rot_amount (n : Int) : ∃ s : Nat, s < 32 ∧ n % 32 = (s : Int) ∧ (n % 18446744073709551616 % 32 = (s : Int)) := ⟨(n % 32).toNat, by omega, by omega, by omega⟩

theorem RotateLeft32_fn (v n : Int) (hv0 : 0 ≤ v) (hv : v < 4294967296) : Fn Tryd.prog 87 [.v (.int .u32 v), .v (.int .i64 n)] (.v (.int .u32 (rotB v.toNat (n % 32).toNat))) := by
 obtain ⟨V, rfl⟩ := Int.eq_ofNat_of_zero_le hv0
 obtain ⟨s, hs, h1, h2⟩ := rot_amount n
 obtain ⟨M, hM⟩ := Int.eq_ofNat_of_zero_le (Int.emod_nonneg n (show (18446744073709551616 : Int) ≠ 0 by decide))
 have hMlt : M < 18446744073709551616 := by omega
 have hMs : M % 32 = s := by omega
 rw [h1]
 simp only [Int.toNat_natCast]
 refine Fn.of Tryd.func87 rfl (by kernel_rfl) Tryd.ntmps87 (by simp) (fun w => [(0, .v (.int .u32 (V : Int))), (1, .v (.int .i64 n))]) (fun w => (Start.v rfl (Start.v rfl Start.nil))) fun w₀ => ?_
 refine GS ?_
 refine TL ?_
 refine RA rfl ?_
 refine RN ?_
 refine GS ?_
 refine TL ?_
 refine RM rfl ?_
 refine RS (ok_conv Tryd.underlying3 Tryd.underlying120 rfl) ?_; refine RZ (.int .u64 (M : Int)) (by rw [wrap_u64_int, hM]) ?_
 refine RBS rfl rfl rfl (.int .u64 (s : Int)) (by rw [show IntKind.u64.bits = 64 from rfl, show (31 : Int) = ((31 : Nat) : Int) from rfl, and_u64_nat hMlt (by decide), and31, hMs]) ?_
 refine RA rfl ?_
 refine RN ?_
 refine GS ?_
 refine TL ?_
 refine RM rfl ?_
 refine RM rfl ?_
 refine RS (ok_shl rfl rfl (by omega)) ?_; refine RZ (.int .u32 ((V * 2 ^ s % 4294967296 : Nat) : Int)) (by rw [Int.toNat_natCast, show min s IntKind.u32.bits = s from by simp only [IntKind.bits]; omega, ← wrap_u32_nat]; congr 2) ?_
 refine RM rfl ?_
 refine RM rfl ?_
 refine RBS rfl rfl rfl (.int .u64 ((32 - s : Nat) : Int)) (by rw [wrap_u64 (by omega) (by omega)]; congr 1; omega) ?_
 refine RS (ok_shr rfl rfl (by omega)) ?_; refine RZ (.int .u32 ((V / 2 ^ (32 - s) : Nat) : Int)) (by rw [Int.toNat_natCast, show min (32 - s) IntKind.u32.bits = 32 - s from by simp only [IntKind.bits]; omega, shr_nat]) ?_
 refine RBS rfl rfl rfl (.int .u32 ((rotB V s : Nat) : Int)) (by rw [show IntKind.u32.bits = 32 from rfl, or_u32_nat (Nat.mod_lt _ (by decide)) (Nat.lt_of_le_of_lt (Nat.div_le_self _ _) (by omega)), rotB_go (by omega) hs]) ?_
 refine RA rfl ?_
 refine RN ?_
 refine A.ret ?_
 exact End.ret1 rfl rfl (by first | exact Le.refl _ | exact Le.old _ _)
theorem Rot_fn (v n : Int) (hv0 : 0 ≤ v) (hv : v < 4294967296) : Fn Tryd.prog 85 [.v (.int .u32 v), .v (.int .i64 n)] (.v (.int .u32 (rotB v.toNat (n % 32).toNat))) := by
 refine Fn.of Tryd.func85 rfl (by kernel_rfl) Tryd.ntmps85 (by simp) (fun w => [(0, .v (.int .u32 v)), (1, .v (.int .i64 n))]) (fun w => (Start.v rfl (Start.v rfl Start.nil))) fun w₀ => ?_
 refine GS ?_
 refine TL ?_
 refine RA rfl ?_
 refine RN ?_
 refine GS ?_
 refine TL ?_
 refine RM rfl ?_
 refine RM rfl ?_
 refine RS (ok_call (RotateLeft32_fn v n hv0 hv) (Args.cons rfl LA (Args.cons rfl LA Args.nil))) ?_
 refine RA rfl ?_
 refine RN ?_
 refine A.ret ?_
 exact End.ret1 rfl rfl (by first | exact Le.refl _ | exact Le.old _ _)
end Go.Proofs.YtfjpipkcfbmdeaaDoor
namespace Go.Proofs.YtfjpipkcfbmdeaaDoor
open Go Go.RowKit
set_option linter.unusedVariables false
set_option maxRecDepth 20000
/-- What the package's tables hold. -/
abbrev tabs : Env := [(1900001, tab 1 (H8.list.map u32V)), (1900002, tab 2 (K64.map u32V))]
theorem tabs_v : ∀ p ∈ tabs, vbase ≤ p.1 := fun p hp => by
 simp only [tabs, List.mem_cons, List.not_mem_nil, or_false] at hp
 rcases hp with rfl | rfl <;> decide
theorem tabs_hi {w : World} (h : ∀ p ∈ tabs, p.2.Of w undef) : 2 < w.heap.size := by
 have := h (1900002, tab 2 (K64.map u32V)) (by simp [tabs])
 exact this.1

theorem size110 : SizeIs Tryd.prog 110 64 := by unfold SizeIs; kernel_rfl
theorem rotr_fn (x : UInt32) (n : Nat) (hn0 : 0 < n) (hn : n < 32) : Fn Tryd.prog 83 [.v (u32V x), .v (.int .i64 (n : Int))] (.v (u32V (rotr32 x n))) := by
 have hx := u32_lt x
 refine Fn.of Tryd.func83 rfl (by kernel_rfl) Tryd.ntmps83 (by simp) (fun w => [(0, .v (u32V x)), (1, .v (.int .i64 (n : Int)))]) (fun w => (Start.v rfl (Start.v rfl Start.nil))) fun w₀ => ?_
 refine GS ?_
 refine TL ?_
 refine RA rfl ?_
 refine RN ?_
 refine GS ?_
 refine TL ?_
 refine RM rfl ?_
 refine RM rfl ?_
 refine RS (ok_neg rfl) ?_; refine RZ (.int .i64 (-(n : Int))) (by rw [wrap_i64 (by omega) (by omega)]; congr 1; omega) ?_
 refine RS (ok_call (Rot_fn (x.toNat : Int) (-(n : Int)) (Int.natCast_nonneg _) (by omega)) (A2 rfl rfl)) ?_; refine RZ (u32V (rotr32 x n)) (by rw [rotr32_val, Int.toNat_natCast, show (-(n : Int) % 32).toNat = 32 - n from by omega]) ?_
 refine RA rfl ?_
 refine RN ?_
 refine A.ret ?_
 exact End.ret1 rfl rfl (by first | exact Le.refl _ | exact Le.old _ _)
set_option maxHeartbeats 400000 in
theorem schedule_fn (l : List UInt8) (hl : l.length = 64) : Fn Tryd.prog 81 [.v (aggV (l.map byteV))] (.v (aggV ((sched l 64).map u32V))) := by
 refine Fn.of Tryd.func81 rfl (by kernel_rfl) Tryd.ntmps81 (by simp) (fun w => [(0, .v (aggV (l.map byteV)))]) (fun w => (Start.v rfl Start.nil)) fun w₀ => ?_
 refine GS ?_
 refine TN 0 ?_
 refine RN ?_
 refine ⟨_, _, eff_box (n := 70) (d := 1) (k := 1000001) rfl (by decide), fun b1 hb1 => ?_⟩
 have hBb1 := hb1.1
 refine TN 1 ?_
 refine RN ?_
 refine ⟨_, _, eff_alloc (n := 70) (d := 2) (k := 1000002) zero116 (by decide), fun b2 hb2 => ?_⟩
 have hBb2 := hb2.1
 refine TL ?_
 refine RN ?_
 refine GS ?_
 refine TN 0 ?_
 refine RN ?_
 refine ⟨_, _, eff_alloc (n := 70) (d := 3) (k := 1000003) zero116 (by decide), fun b3 hb3 => ?_⟩
 have hBb3 := hb3.1
 have hlt_b2_b3 : b2 < b3 := hb3.2 1000002 _ _ _ rfl
 refine TL ?_
 refine RN ?_
 refine A.seq ?_
 refine GS ?_
 refine TL ?_
 refine RM rfl ?_
 refine RN ?_
 refine A.block ?_
 refine A.loop (ι := Nat) (fun j => j ≤ 16) (fun j => [(1, .v (.pointer (some ⟨b1, 0, none⟩))), (2, .v (.pointer (some ⟨b2, 0, none⟩))), (3, .v (.pointer (some ⟨b3, 0, none⟩))), (10, .v (.int .i64 ((j : Nat) : Int))), (1000001, blk b1 110 (l.map byteV)), (1000002, blk b2 116 (List.replicate 64 (.int .u32 0))), (1000003, blk b3 116 (table (sched l j) 64))]) (fun j => 16 - j) 0 ?_ ?_ ?_
 ·exact Nat.zero_le _
 ·exact (KC 1 rfl (KC 2 rfl (KC 3 rfl (KC 10 rfl (KC 1000001 rfl (KC 1000002 rfl (KE 1000003 rfl (rfl) KN)))))))
 intro j hj
 refine GS ?_
 refine TL ?_
 refine RB rfl rfl rfl ?_
 refine RN ?_
 refine A.seq ?_
 refine A.cond rfl (fun hc11 => ?_) (fun hc11 => ?_)
 ·have hlt : j < 16 := by simp at hc11; omega
  refine A.skip ?_
  refine EN ?_
  refine A.seq ?_
  refine A.block ?_
  refine GS ?_
  refine TL ?_
  refine RM rfl ?_
  refine RA rfl ?_
  refine RN ?_
  refine GE ?_
  refine TF 12 ?_
  refine RM rfl ?_
  refine RM rfl ?_
  refine RBS rfl rfl rfl (.int .i64 ((4 * j : Nat) : Int)) (by rw [wrap_i64 (by omega) (by omega)]; first | rfl | (congr 1; omega)) ?_
  refine RM rfl ?_
  refine RBS rfl rfl rfl (.int .i64 ((j + 1 : Nat) : Int)) (by rw [wrap_i64 (by omega) (by omega)]; first | rfl | (congr 1; omega)) ?_
  refine RBS rfl rfl rfl (.int .i64 ((4 * j + 4 : Nat) : Int)) (by rw [wrap_i64 (by omega) (by omega)]; first | rfl | (congr 1; omega)) ?_
  refine RS (ok_sliceA (s := 1000001) (4 * j) (4 * j + 4) (by decide) Tryd.underlying110 info5 rfl rfl (.inl ⟨_, _, rfl, rfl⟩) (.inl ⟨_, _, rfl, rfl⟩) (by omega) (by omega) (by rw [List.length_map, hl]) (by decide)) ?_
  refine RS (ok_call (Get32_fn ((l.drop (4 * j)).take 4)) (Args.cons rfl (Le.eq (by rw [byt_vals]; congr 2; rw [List.map_take, List.map_drop, List.drop_take, show 4 * j + 4 - 4 * j = 4 from by omega])) Args.nil)) ?_
  refine RM rfl ?_
  refine RS (ok_extract rfl rfl) ?_; refine RZ (u32V (nextW l (sched l j) j)) (by rw [nextW, if_pos hlt, word, u32V_ofNat, getV, if_pos (by simp; omega), Nat.mod_eq_of_lt (word_lt l j)]) ?_
  refine RS (ok_extract rfl rfl) ?_
  refine RS (ok_index0 _ Tryd.underlying116 info68 rfl rfl (rfl) (by omega)) ?_
  refine RN ?_
  refine ⟨_, eff_storeS (n := 70) (s := 1000003) info68 rfl rfl rfl hBb3 rfl (by rw [table_length (by rw [sched_length]; omega)]; omega) (LV 1 rfl (LV 2 rfl (LV 3 rfl (LV 10 rfl (LT 1000001 rfl (LB 1000002 rfl LN)))))), ?_⟩
  refine TL ?_
  refine RN ?_
  refine End.normal_block ?_
  refine EN ?_
  refine GE ?_
  refine TL ?_
  refine RBS rfl rfl rfl (.int .i64 ((j + 1 : Nat) : Int)) (by rw [wrap_i64 (by omega) (by omega)]; first | rfl | (congr 1; omega)) ?_
  refine RM rfl ?_
  refine RN ?_
  refine End.normal_then ?_
  refine End.again (j + 1) ?_ ?_ ?_
  ·show _ ≤ _; omega
  ·show _ - _ < _ - _; omega
  ·exact (KC 1 rfl (KC 2 rfl (KC 3 rfl (KC 10 rfl (KC 1000001 rfl (KC 1000002 rfl (KE 1000003 rfl (by rw [table_set (sched_length l j) (by omega)]; rfl) KN)))))))
 ·obtain rfl : j = 16 := by simp at hc11; omega
  refine A.exit ?_
  refine End.exit_then ?_
  refine End.exit_then ?_
  refine End.exit_here ?_
  refine EN ?_
  refine A.seq ?_
  refine GS ?_
  refine TL ?_
  refine RA rfl ?_
  refine RN ?_
  refine A.block ?_
  refine A.loop (ι := Nat) (fun j => 16 ≤ j ∧ j ≤ 64) (fun j => [(2, .v (.pointer (some ⟨b2, 0, none⟩))), (3, .v (.pointer (some ⟨b3, 0, none⟩))), (5, .v (.int .i64 ((j : Nat) : Int))), (1000002, blk b2 116 (List.replicate 64 (.int .u32 0))), (1000003, blk b3 116 (table (sched l j) 64))]) (fun j => 64 - j) 16 ?_ ?_ ?_
  ·exact ⟨Nat.le_refl _, by decide⟩
  ·exact (KC 2 rfl (KC 3 rfl (KC 5 rfl (KC 1000002 rfl (KC 1000003 rfl KN)))))
  intro j hj
  refine A.seq ?_
  refine GS ?_
  refine TL ?_
  refine RM rfl ?_
  refine RB rfl rfl rfl ?_
  refine RN ?_
  refine A.cond rfl (fun hc27 => ?_) (fun hc27 => ?_)
  ·have hlt : j < 64 := by simp at hc27; omega
   refine A.skip ?_
   refine EN ?_
   refine A.seq ?_
   refine A.block ?_
   refine GD ?_
   refine TL ?_
   refine RM rfl ?_
   refine RBS rfl rfl rfl (.int .i64 ((j - 15 : Nat) : Int)) (by rw [wrap_i64 (by omega) (by omega)]; first | rfl | (congr 1; omega)) ?_
   refine RS (ok_index0 _ Tryd.underlying116 info68 rfl rfl (rfl) (by omega)) ?_
   refine RS (ok_loadV (s := 1000003) (by decide) Tryd.underlying68 rfl rfl rfl (table_get (by rw [sched_length]; omega))) ?_
   refine RM rfl ?_
   refine RBS rfl rfl rfl (.int .i64 ((j - 2 : Nat) : Int)) (by rw [wrap_i64 (by omega) (by omega)]; first | rfl | (congr 1; omega)) ?_
   refine RS (ok_index0 _ Tryd.underlying116 info68 rfl rfl (rfl) (by omega)) ?_
   refine RS (ok_loadV (s := 1000003) (by decide) Tryd.underlying68 rfl rfl rfl (table_get (by rw [sched_length]; omega))) ?_
   refine RA rfl ?_
   refine RA rfl ?_
   refine RN ?_
   refine GS ?_
   refine TL ?_
   refine RM rfl ?_
   refine RS (ok_call (rotr_fn _ 7 (by decide) (by decide)) (A2 rfl rfl)) ?_
   refine RM rfl ?_
   refine RS (ok_call (rotr_fn _ 18 (by decide) (by decide)) (A2 rfl rfl)) ?_
   refine RS (ok_xor32 rfl rfl) ?_
   refine RM rfl ?_
   refine RS (ok_shr32 3 rfl rfl rfl (by decide)) ?_
   refine RS (ok_xor32 rfl rfl) ?_
   refine RA rfl ?_
   refine RN ?_
   refine GS ?_
   refine TL ?_
   refine RM rfl ?_
   refine RS (ok_call (rotr_fn _ 17 (by decide) (by decide)) (A2 rfl rfl)) ?_
   refine RM rfl ?_
   refine RS (ok_call (rotr_fn _ 19 (by decide) (by decide)) (A2 rfl rfl)) ?_
   refine RS (ok_xor32 rfl rfl) ?_
   refine RM rfl ?_
   refine RS (ok_shr32 10 rfl rfl rfl (by decide)) ?_
   refine RS (ok_xor32 rfl rfl) ?_
   refine RA rfl ?_
   refine RN ?_
   refine A.sub (KC 2 rfl (KC 3 rfl (KC 5 rfl (KC 8 rfl (KC 9 rfl (KC 1000002 rfl (KC 1000003 rfl KN))))))) ?_
   refine A.reg (by kernel_rfl) (by kernel_rfl) (.inr (by kernel_rfl)) ?_
   refine TD 15 ?_
   refine RM rfl ?_
   refine RM rfl ?_
   refine RM rfl ?_
   refine RBS rfl rfl rfl (.int .i64 ((j - 7 : Nat) : Int)) (by rw [wrap_i64 (by omega) (by omega)]; first | rfl | (congr 1; omega)) ?_
   refine RS (ok_index0 _ Tryd.underlying116 info68 rfl rfl (rfl) (by omega)) ?_
   refine RS (ok_loadV (s := 1000003) (by decide) Tryd.underlying68 rfl rfl rfl (table_get (by rw [sched_length]; omega))) ?_
   refine RS (ok_add32 rfl rfl) ?_
   refine RM rfl ?_
   refine RS (ok_add32 rfl rfl) ?_
   refine RM rfl ?_
   refine RBS rfl rfl rfl (.int .i64 ((j - 16 : Nat) : Int)) (by rw [wrap_i64 (by omega) (by omega)]; first | rfl | (congr 1; omega)) ?_
   refine RS (ok_index0 _ Tryd.underlying116 info68 rfl rfl (rfl) (by omega)) ?_
   refine RS (ok_loadV (s := 1000003) (by decide) Tryd.underlying68 rfl rfl rfl (table_get (by rw [sched_length]; omega))) ?_
   refine RS (ok_add32 rfl rfl) ?_; refine RZ (u32V (nextW l (sched l j) j)) (by rw [nextW, if_neg (by omega), sha0, sha1]; congr 1; ac_rfl) ?_
   refine RS (ok_index0 _ Tryd.underlying116 info68 rfl rfl (rfl) (by omega)) ?_
   refine RN ?_
   refine ⟨_, eff_storeS (n := 70) (s := 1000003) info68 rfl rfl rfl hBb3 rfl (by rw [table_length (by rw [sched_length]; omega)]; omega) (LV 2 rfl (LV 3 rfl (LV 5 rfl (LB 1000002 rfl LN)))), ?_⟩
   refine TL ?_
   refine RN ?_
   refine End.normal_block ?_
   refine EN ?_
   refine GE ?_
   refine TL ?_
   refine RM rfl ?_
   refine RBS rfl rfl rfl (.int .i64 ((j + 1 : Nat) : Int)) (by rw [wrap_i64 (by omega) (by omega)]; first | rfl | (congr 1; omega)) ?_
   refine RA rfl ?_
   refine RN ?_
   refine End.normal_then ?_
   refine End.again (j + 1) ?_ ?_ ?_
   ·show _ ∧ _; omega
   ·show _ - _ < _ - _; omega
   ·exact (KC 2 rfl (KC 3 rfl (KC 5 rfl (KC 1000002 rfl (KE 1000003 rfl (by rw [table_set (sched_length l j) hlt]; rfl) KN)))))
  ·obtain rfl : j = 64 := by simp at hc27; omega
   refine A.exit ?_
   refine End.exit_then ?_
   refine End.exit_then ?_
   refine End.exit_here ?_
   refine EN ?_
   refine GS ?_
   refine TF 1 ?_
   refine RS (ok_loadA (s := 1000003) (by decide) Tryd.underlying116 rfl (size116.of (by rw [table_length (by rw [sched_length]; exact Nat.le_refl _)])) rfl rfl) ?_; refine RZ (aggV ((sched l 64).map u32V)) (by rw [table_full (sched_length l 64)]) ?_
   refine RN ?_
   refine ⟨_, eff_storeA (n := 70) (s := 1000002) (size116.of (by rw [List.length_map, sched_length])) rfl rfl (all_u32 _) hBb2 rfl (by rw [List.length_map, sched_length, List.length_replicate]) (LV 2 rfl (LB 1000003 rfl LN)), ?_⟩
   refine TL ?_
   refine RN ?_
   refine A.ret ?_
   exact End.cell1 (s := 1000002) rfl Tryd.underlying116 rfl (size116.of (by rw [List.length_map, sched_length])) rfl rfl (Le.refl _)
set_option maxHeartbeats 400000 in
theorem rounds_fn (h : R8) (ws : List UInt32) (hw : ws.length = 64) : FnM Tryd.prog 80 tabs [.v (aggV (h.list.map u32V)), .v (aggV (ws.map u32V))] (.v (aggV ((rounds h K64 ws 64).list.map u32V))) := by
 refine FnM.of Tryd.func80 rfl (by kernel_rfl) Tryd.ntmps80 (by simp) (by decide) (fun w => [(0, .v (aggV (h.list.map u32V))), (1, .v (aggV (ws.map u32V))), (1900001, tab 1 (H8.list.map u32V)), (1900002, tab 2 (K64.map u32V))]) (fun w => (StartM.v rfl (StartM.v rfl (StartM.m (by simp [tabs]) (by decide) (StartM.m (by simp [tabs]) (by decide) StartM.nil))))) fun w₀ hM => ?_
 have htab := tabs_hi hM
 refine GS ?_
 refine TN 0 ?_
 refine RN ?_
 refine ⟨_, _, eff_box (n := 105) (d := 2) (k := 1000002) rfl (by decide), fun b2 hb2 => ?_⟩
 have hBb2 := hb2.1
 refine TN 1 ?_
 refine RN ?_
 refine ⟨_, _, eff_box (n := 105) (d := 3) (k := 1000003) rfl (by decide), fun b3 hb3 => ?_⟩
 have hBb3 := hb3.1
 refine TN 2 ?_
 refine RN ?_
 refine ⟨_, _, eff_alloc (n := 105) (d := 4) (k := 1000004) zero109 (by decide), fun b4 hb4 => ?_⟩
 have hBb4 := hb4.1
 have hlt_b2_b4 : b2 < b4 := hb4.2 1000002 _ _ _ rfl
 refine TL ?_
 refine RN ?_
 refine GD ?_
 refine TL ?_
 refine RS (ok_index0 (0) Tryd.underlying109 info68 rfl rfl (rfl) (by decide)) ?_
 refine RS (ok_loadV (s := 1000002) (by decide) Tryd.underlying68 rfl rfl rfl (rfl)) ?_
 refine RS (ok_index0 (1) Tryd.underlying109 info68 rfl rfl (rfl) (by decide)) ?_
 refine RS (ok_loadV (s := 1000002) (by decide) Tryd.underlying68 rfl rfl rfl (rfl)) ?_
 refine RS (ok_index0 (2) Tryd.underlying109 info68 rfl rfl (rfl) (by decide)) ?_
 refine RS (ok_loadV (s := 1000002) (by decide) Tryd.underlying68 rfl rfl rfl (rfl)) ?_
 refine RS (ok_index0 (3) Tryd.underlying109 info68 rfl rfl (rfl) (by decide)) ?_
 refine RS (ok_loadV (s := 1000002) (by decide) Tryd.underlying68 rfl rfl rfl (rfl)) ?_
 refine RS (ok_index0 (4) Tryd.underlying109 info68 rfl rfl (rfl) (by decide)) ?_
 refine RS (ok_loadV (s := 1000002) (by decide) Tryd.underlying68 rfl rfl rfl (rfl)) ?_
 refine RS (ok_index0 (5) Tryd.underlying109 info68 rfl rfl (rfl) (by decide)) ?_
 refine RS (ok_loadV (s := 1000002) (by decide) Tryd.underlying68 rfl rfl rfl (rfl)) ?_
 refine RS (ok_index0 (6) Tryd.underlying109 info68 rfl rfl (rfl) (by decide)) ?_
 refine RS (ok_loadV (s := 1000002) (by decide) Tryd.underlying68 rfl rfl rfl (rfl)) ?_
 refine RS (ok_index0 (7) Tryd.underlying109 info68 rfl rfl (rfl) (by decide)) ?_
 refine RS (ok_loadV (s := 1000002) (by decide) Tryd.underlying68 rfl rfl rfl (rfl)) ?_
 refine RA rfl ?_
 refine RA rfl ?_
 refine RA rfl ?_
 refine RA rfl ?_
 refine RA rfl ?_
 refine RA rfl ?_
 refine RA rfl ?_
 refine RA rfl ?_
 refine RN ?_
 refine A.sub (KC 3 rfl (KC 4 rfl (KC 5 rfl (KC 6 rfl (KC 7 rfl (KC 8 rfl (KC 9 rfl (KC 10 rfl (KC 11 rfl (KC 12 rfl (KC 1000002 rfl (KC 1000003 rfl (KC 1000004 rfl (KC 1900001 rfl (KC 1900002 rfl KN))))))))))))))) ?_
 refine A.seq ?_
 refine GS ?_
 refine TL ?_
 refine RS (ok_loadT (s := 1900002) (by decide) Tryd.underlying116 rfl (size116.of (by rw [List.length_map, K64_lit])) rfl rfl) ?_
 refine RM rfl ?_
 refine RN ?_
 refine A.block ?_
 refine A.loop (ι := Nat) (fun i => i ≤ 64) (fun i => [(3, .v (.pointer (some ⟨b3, 0, none⟩))), (4, .v (.pointer (some ⟨b4, 0, none⟩))), (5, .v (u32V (rounds h K64 ws i).a)), (6, .v (u32V (rounds h K64 ws i).b)), (7, .v (u32V (rounds h K64 ws i).c)), (8, .v (u32V (rounds h K64 ws i).d)), (9, .v (u32V (rounds h K64 ws i).e)), (10, .v (u32V (rounds h K64 ws i).f)), (11, .v (u32V (rounds h K64 ws i).g)), (12, .v (u32V (rounds h K64 ws i).h)), (33, .v (aggV (K64.map u32V))), (34, .v (.int .i64 ((i : Nat) : Int))), (1000003, blk b3 116 (ws.map u32V)), (1000004, blk b4 109 (List.replicate 8 (.int .u32 0))), (1900001, tab 1 (H8.list.map u32V)), (1900002, tab 2 (K64.map u32V))]) (fun i => 64 - i) 0 ?_ ?_ ?_
 ·exact Nat.zero_le _
 ·exact (KC 3 rfl (KC 4 rfl (KC 5 rfl (KC 6 rfl (KC 7 rfl (KC 8 rfl (KC 9 rfl (KC 10 rfl (KC 11 rfl (KC 12 rfl (KC 33 rfl (KC 34 rfl (KC 1000003 rfl (KC 1000004 rfl (KC 1900001 rfl (KC 1900002 rfl KN))))))))))))))))
 intro i hi
 refine GS ?_
 refine TL ?_
 refine RB rfl rfl rfl ?_
 refine RN ?_
 refine A.seq ?_
 refine A.cond rfl (fun hc35 => ?_) (fun hc35 => ?_)
 ·have hlt : i < 64 := by simp at hc35; omega
  refine A.skip ?_
  refine EN ?_
  refine A.seq ?_
  refine A.block ?_
  refine GS ?_
  refine TL ?_
  refine RM rfl ?_
  refine RS (ok_indexV1 i Tryd.underlying116 Tryd.underlying68 rfl info68 rfl rfl rfl hlt (map_get32 (by rw [K64_lit]; omega))) ?_
  refine RA rfl ?_
  refine RA rfl ?_
  refine RN ?_
  refine GD ?_
  refine TL ?_
  refine RM rfl ?_
  refine RM rfl ?_
  refine RS (ok_call (rotr_fn _ 6 (by decide) (by decide)) (A2 rfl rfl)) ?_
  refine RM rfl ?_
  refine RS (ok_call (rotr_fn _ 11 (by decide) (by decide)) (A2 rfl rfl)) ?_
  refine RS (ok_xor32 rfl rfl) ?_
  refine RM rfl ?_
  refine RS (ok_call (rotr_fn _ 25 (by decide) (by decide)) (A2 rfl rfl)) ?_
  refine RS (ok_xor32 rfl rfl) ?_
  refine RS (ok_add32 rfl rfl) ?_
  refine RM rfl ?_
  refine RM rfl ?_
  refine RS (ok_and32 rfl rfl) ?_
  refine RM rfl ?_
  refine RS (ok_not32 rfl) ?_
  refine RM rfl ?_
  refine RS (ok_and32 rfl rfl) ?_
  refine RS (ok_xor32 rfl rfl) ?_
  refine RS (ok_add32 rfl rfl) ?_
  refine RM rfl ?_
  refine RS (ok_add32 rfl rfl) ?_
  refine RM rfl ?_
  refine RS (ok_index0 _ Tryd.underlying116 info68 rfl rfl (rfl) (by omega)) ?_
  refine RS (ok_loadV (s := 1000003) (by decide) Tryd.underlying68 rfl rfl rfl (map_get32 (by omega))) ?_
  refine RS (ok_add32 rfl rfl) ?_
  refine RA rfl ?_
  refine RN ?_
  refine A.sub (KC 3 rfl (KC 4 rfl (KC 5 rfl (KC 6 rfl (KC 7 rfl (KC 8 rfl (KC 9 rfl (KC 10 rfl (KC 11 rfl (KC 15 rfl (KC 33 rfl (KC 34 rfl (KC 1000003 rfl (KC 1000004 rfl (KC 1900001 rfl (KC 1900002 rfl KN)))))))))))))))) ?_
  refine GS ?_
  refine TL ?_
  refine RM rfl ?_
  refine RS (ok_call (rotr_fn _ 2 (by decide) (by decide)) (A2 rfl rfl)) ?_
  refine RM rfl ?_
  refine RS (ok_call (rotr_fn _ 13 (by decide) (by decide)) (A2 rfl rfl)) ?_
  refine RS (ok_xor32 rfl rfl) ?_
  refine RM rfl ?_
  refine RS (ok_call (rotr_fn _ 22 (by decide) (by decide)) (A2 rfl rfl)) ?_
  refine RS (ok_xor32 rfl rfl) ?_
  refine RM rfl ?_
  refine RM rfl ?_
  refine RS (ok_and32 rfl rfl) ?_
  refine RM rfl ?_
  refine RM rfl ?_
  refine RS (ok_and32 rfl rfl) ?_
  refine RS (ok_xor32 rfl rfl) ?_
  refine RM rfl ?_
  refine RM rfl ?_
  refine RS (ok_and32 rfl rfl) ?_
  refine RS (ok_xor32 rfl rfl) ?_
  refine RS (ok_add32 rfl rfl) ?_
  refine RA rfl ?_
  refine RN ?_
  refine GE ?_
  refine TL ?_
  refine RM rfl ?_
  refine RM rfl ?_
  refine RM rfl ?_
  refine RM rfl ?_
  refine RM rfl ?_
  refine RS (ok_add32 rfl rfl) ?_
  refine RM rfl ?_
  refine RM rfl ?_
  refine RM rfl ?_
  refine RM rfl ?_
  refine RM rfl ?_
  refine RS (ok_add32 rfl rfl) ?_
  refine RA rfl ?_
  refine RA rfl ?_
  refine RA rfl ?_
  refine RA rfl ?_
  refine RA rfl ?_
  refine RA rfl ?_
  refine RA rfl ?_
  refine RA rfl ?_
  refine RN ?_
  refine End.sub (KC 3 rfl (KC 4 rfl (KC 5 rfl (KC 6 rfl (KC 7 rfl (KC 8 rfl (KC 9 rfl (KC 10 rfl (KC 11 rfl (KC 12 rfl (KC 33 rfl (KC 34 rfl (KC 1000003 rfl (KC 1000004 rfl (KC 1900001 rfl (KC 1900002 rfl KN)))))))))))))))) ?_
  refine End.normal_block ?_
  refine EN ?_
  refine GE ?_
  refine TL ?_
  refine RBS rfl rfl rfl (.int .i64 ((i + 1 : Nat) : Int)) (by rw [wrap_i64 (by omega) (by omega)]; first | rfl | (congr 1; omega)) ?_
  refine RM rfl ?_
  refine RN ?_
  refine End.normal_then ?_
  refine End.again (i + 1) ?_ ?_ ?_
  ·show _ ≤ _; omega
  ·show _ - _ < _ - _; omega
  ·exact (KC 3 rfl (KC 4 rfl (KC 5 rfl (KC 6 rfl (KC 7 rfl (KC 8 rfl (KC 9 rfl (KC 10 rfl (KC 11 rfl (KC 12 rfl (KC 33 rfl (KC 34 rfl (KC 1000003 rfl (KC 1000004 rfl (KC 1900001 rfl (KC 1900002 rfl KN))))))))))))))))
 ·obtain rfl : i = 64 := by simp at hc35; omega
  refine A.exit ?_
  refine End.exit_then ?_
  refine End.exit_then ?_
  refine End.exit_here ?_
  refine EN ?_
  refine GS ?_
  refine TF 9 ?_
  refine RM rfl ?_
  refine RM rfl ?_
  refine RM rfl ?_
  refine RM rfl ?_
  refine RM rfl ?_
  refine RM rfl ?_
  refine RM rfl ?_
  refine RM rfl ?_
  refine RS (ok_litA [_, _, _, _, _, _, _, _] Tryd.underlying109 info68 zero109 rfl ⟨rfl, rfl, rfl, rfl, rfl, rfl, rfl, rfl, rfl, rfl, rfl, rfl, rfl, rfl, rfl, rfl, trivial⟩ rfl) ?_; refine RZ (aggV ((rounds h K64 ws 64).list.map u32V)) (rfl) ?_
  refine RN ?_
  refine ⟨_, eff_storeA (n := 105) (s := 1000004) (size109.of (R8.size _)) rfl rfl (all_u32 _) hBb4 rfl ((R8.size _).symm) (LV 4 rfl (LT 1000003 rfl (LeftS.cons (t := 1900001) rfl (Surv.tab (by omega)) (LeftS.cons (t := 1900002) rfl (Surv.tab (by omega)) LN)))), ?_⟩
  refine TL ?_
  refine RN ?_
  refine A.ret ?_
  exact End.cell1 (s := 1000004) rfl Tryd.underlying109 rfl (size109.of (R8.size _)) rfl rfl (Le.refl _)
end Go.Proofs.YtfjpipkcfbmdeaaDoor
namespace Go.Proofs.YtfjpipkcfbmdeaaDoor
open Go Go.RowKit

/-- Place i of the part block: the last byte that came to that place, or zero. -/
def restAt (l : List UInt8) (i : Nat) : UInt8 := if (l.length + 63 - i) / 64 = 0 then 0 else l.getD (64 * ((l.length + 63 - i) / 64 - 1) + i) 0
def restL (l : List UInt8) : List UInt8 := (List.range 64).map (restAt l)
def fullR (l : List UInt8) : R8 := if l.length < 64 then ⟨0, 0, 0, 0, 0, 0, 0, 0⟩ else chain H8 l (l.length / 64)
def stM (f : R8) (r : List UInt8) (n : Nat) : List Value := f.list.map u32V ++ (r.map byteV ++ [.int .u64 (n : Int)])
def stL (l : List UInt8) : List Value := stM (fullR l) (restL l) l.length
def stV (l : List UInt8) : Value := aggV (stL l)
theorem restL_length (l : List UInt8) : (restL l).length = 64 := by simp [restL]
theorem restL_get (l : List UInt8) {i : Nat} (h : i < 64) : (restL l)[i]? = some (restAt l i) := by simp [restL, h]
theorem stM_length {f : R8} {r : List UInt8} {n : Nat} (hr : r.length = 64) : (stM f r n).length = 73 := by simp [stM, hr, R8.list]
theorem stM_full (f : R8) (r : List UInt8) (n : Nat) : ((stM f r n).drop 0).take 8 = f.list.map u32V := by
  rw [List.drop_zero, stM, List.take_left' (by simp [R8.list])]
theorem stM_rest {f : R8} {r : List UInt8} {n : Nat} (hr : r.length = 64) : ((stM f r n).drop 8).take 64 = r.map byteV := by
  rw [stM, List.drop_left' (by simp [R8.list]), List.take_left' (by simp [hr])]
theorem stM_size {f : R8} {r : List UInt8} {n : Nat} (hr : r.length = 64) : (stM f r n)[72]? = some (.int .u64 (n : Int)) := by
  rw [stM, List.getElem?_append_right (by simp [R8.list]), List.getElem?_append_right (by simp [R8.list, hr])]
  simp [R8.list, hr]
theorem stM_setSize {f : R8} {r : List UInt8} {n m : Nat} (hr : r.length = 64) : (stM f r n).set 72 (.int .u64 (m : Int)) = stM f r m := by
  rw [stM, List.set_append_right _ _ (by simp [R8.list]), List.set_append_right _ _ (by simp [R8.list, hr])]
  simp [R8.list, hr, stM]
theorem stM_setFull {f f' : R8} {r : List UInt8} {n : Nat} : (stM f r n).take 0 ++ f'.list.map u32V ++ (stM f r n).drop (0 + (f'.list.map u32V).length) = stM f' r n := by
  rw [R8.size, List.take_zero, List.nil_append, Nat.zero_add, stM, List.drop_left' (by simp [R8.list]), stM]
theorem stM_ones {f : R8} {r : List UInt8} {n : Nat} : (stM f r n).all (·.oneCell') = true := by
  simp [stM, List.all_append, u32V, byteV, Value.oneCell']
theorem stL_length (l : List UInt8) : (stL l).length = 73 := stM_length (restL_length l)
theorem stL_full (l : List UInt8) : ((stL l).drop 0).take 8 = (fullR l).list.map u32V := stM_full _ _ _
theorem stL_rest (l : List UInt8) : ((stL l).drop 8).take 64 = (restL l).map byteV := stM_rest (restL_length l)
theorem stL_size (l : List UInt8) : (stL l)[72]? = some (.int .u64 (l.length : Int)) := stM_size (restL_length l)
theorem stL_nil : stL [] = List.replicate 8 (.int .u32 0) ++ List.replicate 64 (.int .u8 0) ++ [.int .u64 0] := by kernel_rfl
theorem stL_ones (l : List UInt8) : (stL l).all (·.oneCell') = true := stM_ones

theorem chain_append (s : R8) (l b : List UInt8) : ∀ k, 64 * k ≤ l.length → chain s (l ++ b) k = chain s l k
  | 0, _ => rfl
  | k + 1, h => by
    have h1 := chain_append s l b k (by omega)
    rw [chain, chain, h1, List.drop_append_of_le_length (by omega), List.take_append_of_le_length (by simp; omega)]
/-- What is known of the full blocks, whether there is one or not. -/
theorem chain_start (l : List UInt8) (h : l.length < 64) : chain H8 l (l.length / 64) = H8 := by rw [Nat.div_eq_of_lt h]; rfl
theorem restAt_grow (l b : List UInt8) (i : Nat) (hi : i < 64) (hb : l.length % 64 + b.length ≤ 64) :
    restAt (l ++ b) i = if i < l.length % 64 then restAt l i else if i < l.length % 64 + b.length then b.getD (i - l.length % 64) 0 else restAt l i := by
  have hlen : (l ++ b).length = l.length + b.length := by simp
  by_cases h1 : i < l.length % 64
  · rw [if_pos h1]
    have h2 : (l.length + b.length + 63 - i) / 64 = (l.length + 63 - i) / 64 := by omega
    have h3 : ¬ (l.length + 63 - i) / 64 = 0 := by omega
    have h4 : 64 * ((l.length + 63 - i) / 64 - 1) + i < l.length := by omega
    rw [restAt, restAt, hlen, h2, if_neg h3, if_neg h3, List.getD_eq_getElem?_getD, List.getD_eq_getElem?_getD, List.getElem?_append_left h4]
  · rw [if_neg h1]
    by_cases h2 : i < l.length % 64 + b.length
    · rw [if_pos h2]
      have h3 : (l.length + b.length + 63 - i) / 64 = l.length / 64 + 1 := by omega
      have h4 : 64 * (l.length / 64 + 1 - 1) + i = l.length + (i - l.length % 64) := by omega
      rw [restAt, hlen, h3, if_neg (by omega), h4, List.getD_eq_getElem?_getD, List.getElem?_append_right (by omega), List.getD_eq_getElem?_getD]
      congr 2
      omega
    · rw [if_neg h2]
      have h3 : (l.length + b.length + 63 - i) / 64 = (l.length + 63 - i) / 64 := by omega
      by_cases h5 : (l.length + 63 - i) / 64 = 0
      · rw [restAt, restAt, hlen, h3, if_pos h5, if_pos h5]
      · have h4 : 64 * ((l.length + 63 - i) / 64 - 1) + i < l.length := by omega
        rw [restAt, restAt, hlen, h3, if_neg h5, if_neg h5, List.getD_eq_getElem?_getD, List.getD_eq_getElem?_getD, List.getElem?_append_left h4]
theorem restL_step (l b : List UInt8) (hb : l.length % 64 + b.length ≤ 64) : (restL l).take (l.length % 64) ++ b ++ (restL l).drop (l.length % 64 + b.length) = restL (l ++ b) := by
  have hk : l.length % 64 < 64 := Nat.mod_lt _ (by decide)
  apply List.ext_getElem?
  intro i
  rcases Nat.lt_or_ge i 64 with hi | hi
  · rw [restL_get _ hi, restAt_grow l b i hi hb]
    by_cases h1 : i < l.length % 64
    · rw [if_pos h1, List.append_assoc, List.getElem?_append_left (by simp [restL_length]; omega), List.getElem?_take, if_pos h1, restL_get _ hi]
    · rw [if_neg h1]
      by_cases h2 : i < l.length % 64 + b.length
      · rw [if_pos h2, List.append_assoc, List.getElem?_append_right (by simp [restL_length]; omega)]
        have h3 : i - ((restL l).take (l.length % 64)).length = i - l.length % 64 := by simp [restL_length]; omega
        rw [h3, List.getElem?_append_left (by omega), List.getD_eq_getElem?_getD, List.getElem?_eq_getElem (by omega)]
        rfl
      · rw [if_neg h2, List.getElem?_append_right (by simp [restL_length]; omega), List.getElem?_drop]
        have h3 : l.length % 64 + b.length + (i - ((restL l).take (l.length % 64) ++ b).length) = i := by simp [restL_length]; omega
        rw [h3, restL_get _ hi]
  · rw [List.getElem?_eq_none (by simp [restL_length]; omega), List.getElem?_eq_none (by rw [restL_length]; exact hi)]
/-- The bytes that fill no block yet. -/
theorem restL_take (l : List UInt8) : (restL l).take (l.length % 64) = l.drop (64 * (l.length / 64)) := by
  have hk : l.length % 64 < 64 := Nat.mod_lt _ (by decide)
  apply List.ext_getElem?
  intro i
  rw [List.getElem?_take, List.getElem?_drop]
  split
  · rename_i hi
    rw [restL_get _ (by omega), restAt]
    have h3 : (l.length + 63 - i) / 64 = l.length / 64 + 1 := by omega
    rw [h3, if_neg (by omega), Nat.add_sub_cancel, List.getD_eq_getElem?_getD, List.getElem?_eq_getElem (by omega)]
    rfl
  · rw [List.getElem?_eq_none (by omega)]
/-- A block that is full. -/
theorem restL_block (l : List UInt8) (h : l.length % 64 = 0) (h0 : 0 < l.length) : restL l = (l.drop (64 * (l.length / 64 - 1))).take 64 := by
  apply List.ext_getElem?
  intro i
  rw [List.getElem?_take, List.getElem?_drop]
  split
  · rename_i hi
    rw [restL_get _ hi, restAt]
    have h3 : (l.length + 63 - i) / 64 = l.length / 64 := by omega
    rw [h3, if_neg (by omega), List.getD_eq_getElem?_getD, List.getElem?_eq_getElem (by omega)]
    rfl
  · rw [List.getElem?_eq_none (by rw [restL_length]; omega)]
theorem fullR_same (l b : List UInt8) (h : (l.length + b.length) / 64 = l.length / 64) : fullR (l ++ b) = fullR l := by
  unfold fullR
  rw [List.length_append, h, chain_append _ _ _ _ (by omega)]
  by_cases h1 : l.length < 64
  · rw [if_pos h1, if_pos (by omega)]
  · rw [if_neg h1, if_neg (by omega)]
theorem fullR_step (l b : List UInt8) (h : l.length % 64 + b.length = 64) : fullR (l ++ b) = compress (chain H8 l (l.length / 64)) (restL (l ++ b)) := by
  have hk : l.length % 64 < 64 := Nat.mod_lt _ (by decide)
  have h1 : (l ++ b).length / 64 = l.length / 64 + 1 := by simp; omega
  rw [fullR, if_neg (by simp; omega), h1, chain, chain_append _ _ _ _ (by omega), restL_block _ (by simp; omega) (by simp; omega), h1, Nat.add_sub_cancel]
/-- Bytes are copied to where the part block goes on. -/
theorem st_copy (L r : List UInt8) : (stL L).take (8 + L.length % 64) ++ (r.take (64 - L.length % 64)).map byteV ++ (stL L).drop (8 + L.length % 64 + min r.length (64 - L.length % 64)) = stM (fullR L) (restL (L ++ r.take (64 - L.length % 64))) L.length := by
  have hk : L.length % 64 < 64 := Nat.mod_lt _ (by decide)
  have hb : (r.take (64 - L.length % 64)).length = min r.length (64 - L.length % 64) := by rw [List.length_take, Nat.min_comm]
  have h8 : ((fullR L).list.map u32V).length = 8 := R8.size _
  rw [← restL_step L (r.take (64 - L.length % 64)) (by rw [hb]; omega), hb]
  have h1 : (stL L).take (8 + L.length % 64) = (fullR L).list.map u32V ++ ((restL L).take (L.length % 64)).map byteV := by
    rw [stL, stM, List.take_append, h8, Nat.add_sub_cancel_left, List.take_of_length_le (by rw [h8]; omega), List.take_append_of_le_length (by simp [restL_length]; omega), List.map_take]
  have h2 : (stL L).drop (8 + L.length % 64 + min r.length (64 - L.length % 64)) = ((restL L).drop (L.length % 64 + min r.length (64 - L.length % 64))).map byteV ++ [.int .u64 (L.length : Int)] := by
    rw [stL, stM, List.drop_append, h8, List.drop_eq_nil_of_le (by rw [h8]; omega), List.nil_append, show 8 + L.length % 64 + min r.length (64 - L.length % 64) - 8 = L.length % 64 + min r.length (64 - L.length % 64) from by omega,
      List.drop_append_of_le_length (by simp [restL_length]; omega), List.map_drop]
  rw [h1, h2, stM]
  simp
/-- What is left of a string behind its full blocks, with its ending. -/
theorem padded_tail (l e : List UInt8) : l ++ e = l.take (64 * (l.length / 64)) ++ (l.drop (64 * (l.length / 64)) ++ e) := by
  rw [← List.append_assoc, List.take_append_drop]
/-- The blocks behind the first k. -/
theorem chain_tail (s : R8) (a t : List UInt8) (k : Nat) (ha : a.length = 64 * k) : ∀ i, chain (chain s a k) t i = chain s (a ++ t) (k + i)
  | 0 => by rw [Nat.add_zero, chain_append _ _ _ _ (by omega)]; rfl
  | i + 1 => by
    have h1 : (a ++ t).drop (64 * (k + i)) = t.drop (64 * i) := by
      rw [List.drop_append, show a.drop (64 * (k + i)) = [] from List.drop_eq_nil_of_le (by omega), List.nil_append, show 64 * (k + i) - a.length = 64 * i from by omega]
    rw [chain, chain_tail s a t k ha i, ← Nat.add_assoc, chain, h1]
theorem tableB_more {bs c : List UInt8} {m : Nat} (h : bs.length + c.length ≤ m) : (tableB bs m).take bs.length ++ c.map byteV ++ (tableB bs m).drop (bs.length + c.length) = tableB (bs ++ c) m := by
  have h1 : m - bs.length = c.length + (m - (bs ++ c).length) := by rw [List.length_append]; omega
  rw [tableB, List.map_append, List.take_left' (by simp), List.drop_append, List.drop_eq_nil_of_le (by simp), List.nil_append, List.length_map, Nat.add_sub_cancel_left, h1, List.map_replicate, List.drop_replicate, Nat.add_sub_cancel_left, tableB, List.map_append, List.map_append, List.map_replicate]
theorem flatBe_take : ∀ (xs : List UInt32) (i : Nat), i < xs.length → (xs.flatMap fun x => be 4 x.toNat).take (4 * (i + 1)) = (xs.flatMap fun x => be 4 x.toNat).take (4 * i) ++ be 4 (xs.getD i 0).toNat
  | [], i, h => by simp at h
  | x :: xs, 0, _ => by
    rw [List.flatMap_cons, List.take_left' (by rw [be_length]), Nat.mul_zero, List.take_zero]; rfl
  | x :: xs, i + 1, h => by
    have hb : (be 4 x.toNat).length = 4 := be_length _ _
    have h1 : ∀ k, 4 ≤ k → (be 4 x.toNat ++ xs.flatMap fun x => be 4 x.toNat).take k = be 4 x.toNat ++ (xs.flatMap fun x => be 4 x.toNat).take (k - 4) := fun k hk => by
      rw [List.take_append, hb, show (be 4 x.toNat).take k = be 4 x.toNat from List.take_of_length_le (by omega)]
    rw [List.flatMap_cons, h1 _ (by omega), h1 _ (by omega), show 4 * (i + 1 + 1) - 4 = 4 * (i + 1) from by omega, show 4 * (i + 1) - 4 = 4 * i from by omega,
      flatBe_take xs i (by simpa using h), List.append_assoc]
    rfl
theorem sha_copy (l : List UInt8) {i : Nat} (h : i < 8) : (tableB ((sha l).take (4 * i)) 32).take (0 + 4 * i) ++ ((be 4 ((shaR l).list.getD i 0).toNat).take (32 - 4 * i)).map byteV ++ (tableB ((sha l).take (4 * i)) 32).drop (0 + 4 * i + min (be 4 ((shaR l).list.getD i 0).toNat).length (32 - 4 * i)) = tableB ((sha l).take (4 * (i + 1))) 32 := by
  have hb : (be 4 ((shaR l).list.getD i 0).toNat).length = 4 := be_length _ _
  have hl : ((sha l).take (4 * i)).length = 4 * i := by rw [List.length_take, sha_length]; omega
  have h1 : (sha l).take (4 * (i + 1)) = (sha l).take (4 * i) ++ be 4 ((shaR l).list.getD i 0).toNat := flatBe_take (shaR l).list i h
  have := tableB_more (bs := (sha l).take (4 * i)) (c := be 4 ((shaR l).list.getD i 0).toNat) (m := 32) (by rw [hl, hb]; omega)
  rw [h1, ← this, hl, hb, Nat.zero_add, show (be 4 ((shaR l).list.getD i 0).toNat).take (32 - 4 * i) = be 4 ((shaR l).list.getD i 0).toNat from List.take_of_length_le (by omega), Nat.min_eq_left (by omega)]
/-- What follows a string of n bytes, up to the end of a block. -/
def endL (n : Nat) : List UInt8 := 128 :: (List.replicate ((119 - n % 64) % 64) 0 ++ be 8 (8 * n))
theorem endL_length (n : Nat) : (endL n).length = 1 + (119 - n % 64) % 64 + 8 := by simp [endL, be_length]; omega
def tailL (l : List UInt8) : List UInt8 := l.drop (64 * (l.length / 64)) ++ endL l.length
theorem tailL_length (l : List UInt8) : (tailL l).length = l.length % 64 + (1 + (119 - l.length % 64) % 64 + 8) := by
  rw [tailL, List.length_append, List.length_drop, endL_length]; omega
theorem tailL_mod (l : List UInt8) : (tailL l).length = 64 * ((tailL l).length / 64) := by
  rw [tailL_length]; omega
theorem tailL_sha (l : List UInt8) : chain (chain H8 l (l.length / 64)) (tailL l) ((tailL l).length / 64) = shaR l := by
  have ha : (l.take (64 * (l.length / 64))).length = 64 * (l.length / 64) := by rw [List.length_take]; omega
  have h1 : chain H8 l (l.length / 64) = chain H8 (l.take (64 * (l.length / 64))) (l.length / 64) := by
    have := chain_append H8 (l.take (64 * (l.length / 64))) (l.drop (64 * (l.length / 64))) (l.length / 64) (by omega)
    rwa [List.take_append_drop] at this
  have h2 : padded l = l.take (64 * (l.length / 64)) ++ tailL l := padded_tail l (endL l.length)
  have h3 : (padded l).length / 64 = l.length / 64 + (tailL l).length / 64 := by
    rw [h2, List.length_append, ha]; omega
  rw [h1, chain_tail _ _ _ _ ha, ← h2, ← h3]; rfl
theorem tailL_block (l : List UInt8) {ys : List Value} {i : Nat} (h : i < (tailL l).length / 64) : (((tailL l).map byteV ++ ys).drop (64 * i)).take 64 = (((tailL l).drop (64 * i)).take 64).map byteV := by
  rw [List.drop_append_of_le_length (by simp; omega), List.take_append_of_le_length (by simp; omega), List.map_take, List.map_drop]
end Go.Proofs.YtfjpipkcfbmdeaaDoor
namespace Go.Proofs.YtfjpipkcfbmdeaaDoor
open Go Go.RowKit
set_option linter.unusedVariables false
set_option maxRecDepth 20000

theorem zero112 : ZeroIs Tryd.prog 112 (List.replicate 8 (.int .u32 0) ++ List.replicate 64 (.int .u8 0) ++ [.int .u64 0]) := by unfold ZeroIs; kernel_rfl
theorem size112 : SizeIs Tryd.prog 112 73 := by unfold SizeIs; kernel_rfl
theorem field112_0 : FieldIs Tryd.prog 112 0 0 8 := by unfold FieldIs; kernel_rfl
theorem field112_1 : FieldIs Tryd.prog 112 1 8 64 := by unfold FieldIs; kernel_rfl
theorem field112_2 : FieldIs Tryd.prog 112 2 72 1 := by unfold FieldIs; kernel_rfl
/-- The first i words are sums already. -/
def half (s t : R8) (i : Nat) : List Value := ((s.add t).list.take i ++ s.list.drop i).map u32V
theorem half_length {s t : R8} {i : Nat} (h : i ≤ 8) : (half s t i).length = 8 := by
 have h1 : s.list.length = 8 := rfl
 have h2 : (s.add t).list.length = 8 := rfl
 simp [half, h1, h2]; omega
theorem half_get {s t : R8} {i : Nat} (h : i < 8) : (half s t i)[i]? = some (u32V (s.list.getD i 0)) := by
 rcases i with _ | _ | _ | _ | _ | _ | _ | _ | i
 all_goals first | rfl | omega
theorem half_set {s t : R8} {i : Nat} (h : i < 8) : (half s t i).set i (u32V (s.list.getD i 0 + t.list.getD i 0)) = half s t (i + 1) := by
 rcases i with _ | _ | _ | _ | _ | _ | _ | _ | i
 all_goals first | rfl | omega

set_option maxHeartbeats 400000 in
theorem Compress_fn (h : R8) (l : List UInt8) (hl : l.length = 64) : FnM Tryd.prog 69 tabs [.v (aggV (h.list.map u32V)), .v (aggV (l.map byteV))] (.v (aggV ((compress h l).list.map u32V))) := by
 refine FnM.of Tryd.func69 rfl (by kernel_rfl) Tryd.ntmps69 (by simp) (by decide) (fun w => [(0, .v (aggV (h.list.map u32V))), (1, .v (aggV (l.map byteV))), (1900001, tab 1 (H8.list.map u32V)), (1900002, tab 2 (K64.map u32V))]) (fun w => (StartM.v rfl (StartM.v rfl (StartM.m (by simp [tabs]) (by decide) (StartM.m (by simp [tabs]) (by decide) StartM.nil))))) fun w₀ hM => ?_
 have htab := tabs_hi hM
 refine GS ?_
 refine TN 0 ?_
 refine RN ?_
 refine ⟨_, _, eff_box (n := 23) (d := 2) (k := 1000002) rfl (by decide), fun b2 hb2 => ?_⟩
 have hBb2 := hb2.1
 refine TN 1 ?_
 refine RN ?_
 refine ⟨_, _, eff_box (n := 23) (d := 3) (k := 1000003) rfl (by decide), fun b3 hb3 => ?_⟩
 have hBb3 := hb3.1
 refine TN 2 ?_
 refine RN ?_
 refine ⟨_, _, eff_alloc (n := 23) (d := 4) (k := 1000004) zero109 (by decide), fun b4 hb4 => ?_⟩
 have hBb4 := hb4.1
 have hlt_b2_b4 : b2 < b4 := hb4.2 1000002 _ _ _ rfl
 refine TL ?_
 refine RN ?_
 refine A.seq ?_
 refine GD ?_
 refine TL ?_
 refine RS (ok_loadA (s := 1000002) (by decide) Tryd.underlying109 rfl (size109.of (R8.size _)) rfl rfl) ?_
 refine RS (ok_loadA (s := 1000003) (by decide) Tryd.underlying110 rfl (size110.of (by rw [List.length_map, hl])) rfl rfl) ?_
 refine RS (ok_call (schedule_fn l hl) (A1 rfl)) ?_
 refine RS (ok_callM (rounds_fn h (sched l 64) (sched_length l 64)) (Sub.cons rfl (Sub.cons rfl KN)) tabs_v (Args.cons rfl LA (Args.cons rfl LA Args.nil))) ?_
 refine RM rfl ?_
 refine RN ?_
 refine A.block ?_
 refine A.loop (ι := Nat) (fun i => i ≤ 8) (fun i => [(2, .v (.pointer (some ⟨b2, 0, none⟩))), (4, .v (.pointer (some ⟨b4, 0, none⟩))), (10, .v (aggV ((rounds h K64 (sched l 64) 64).list.map u32V))), (11, .v (.int .i64 ((i : Nat) : Int))), (1000002, blk b2 109 (half h (rounds h K64 (sched l 64) 64) i)), (1000004, blk b4 109 (List.replicate 8 (.int .u32 0))), (1900001, tab 1 (H8.list.map u32V)), (1900002, tab 2 (K64.map u32V))]) (fun i => 8 - i) 0 ?_ ?_ ?_
 ·exact Nat.zero_le _
 ·exact (KC 2 rfl (KC 4 rfl (KC 10 rfl (KC 11 rfl (KE 1000002 rfl (rfl) (KC 1000004 rfl (KC 1900001 rfl (KC 1900002 rfl KN))))))))
 intro i hi
 refine GS ?_
 refine TL ?_
 refine RB rfl rfl rfl ?_
 refine RN ?_
 refine A.seq ?_
 refine A.cond rfl (fun hc12 => ?_) (fun hc12 => ?_)
 ·have hlt : i < 8 := by simp at hc12; omega
  refine A.skip ?_
  refine EN ?_
  refine A.seq ?_
  refine A.block ?_
  refine GS ?_
  refine TL ?_
  refine RM rfl ?_
  refine RS (ok_indexV1 i Tryd.underlying109 Tryd.underlying68 rfl info68 rfl rfl rfl hlt (map_get32 (by show i < 8; omega))) ?_
  refine RA rfl ?_
  refine RA rfl ?_
  refine RN ?_
  refine GE ?_
  refine TF 6 ?_
  refine RM rfl ?_
  refine RS (ok_index0 _ Tryd.underlying109 info68 rfl rfl (rfl) (by omega)) ?_
  refine RS (ok_loadV (s := 1000002) (by decide) Tryd.underlying68 rfl rfl rfl (half_get hlt)) ?_
  refine RM rfl ?_
  refine RS (ok_add32 rfl rfl) ?_
  refine RS (ok_index0 _ Tryd.underlying109 info68 rfl rfl (rfl) (by omega)) ?_
  refine RN ?_
  refine ⟨_, eff_storeS (n := 23) (s := 1000002) info68 rfl rfl rfl hBb2 rfl (by rw [half_length (by omega)]; omega) (LV 2 rfl (LV 4 rfl (LV 10 rfl (LV 11 rfl (LB 1000004 rfl (LeftS.cons (t := 1900001) rfl (Surv.tab (by omega)) (LeftS.cons (t := 1900002) rfl (Surv.tab (by omega)) LN))))))), ?_⟩
  refine TL ?_
  refine RN ?_
  refine End.normal_block ?_
  refine EN ?_
  refine GE ?_
  refine TL ?_
  refine RBS rfl rfl rfl (.int .i64 ((i + 1 : Nat) : Int)) (by rw [wrap_i64 (by omega) (by omega)]; first | rfl | (congr 1; omega)) ?_
  refine RM rfl ?_
  refine RN ?_
  refine End.normal_then ?_
  refine End.again (i + 1) ?_ ?_ ?_
  ·show _ ≤ _; omega
  ·show _ - _ < _ - _; omega
  ·exact (KC 2 rfl (KC 4 rfl (KC 10 rfl (KC 11 rfl (KE 1000002 rfl (by rw [half_set hlt]) (KC 1000004 rfl (KC 1900001 rfl (KC 1900002 rfl KN))))))))
 ·obtain rfl : i = 8 := by simp at hc12; omega
  refine A.exit ?_
  refine End.exit_then ?_
  refine End.exit_then ?_
  refine End.exit_here ?_
  refine EN ?_
  refine GS ?_
  refine TF 1 ?_
  refine RS (ok_loadA (s := 1000002) (by decide) Tryd.underlying109 rfl (size109.of (half_length (by omega))) rfl rfl) ?_; refine RZ (aggV ((compress h l).list.map u32V)) (rfl) ?_
  refine RN ?_
  refine ⟨_, eff_storeA (n := 23) (s := 1000004) (size109.of (R8.size _)) rfl rfl (all_u32 _) hBb4 rfl ((R8.size _).symm) (LV 4 rfl (LB 1000002 rfl (LeftS.cons (t := 1900001) rfl (Surv.tab (by omega)) (LeftS.cons (t := 1900002) rfl (Surv.tab (by omega)) LN)))), ?_⟩
  refine TL ?_
  refine RN ?_
  refine A.ret ?_
  exact End.cell1 (s := 1000004) rfl Tryd.underlying109 rfl (size109.of (R8.size _)) rfl rfl (Le.refl _)
theorem New_fn  : Fn Tryd.prog 51 [] (.v (stV [])) := by
 refine Fn.of Tryd.func51 rfl (by kernel_rfl) Tryd.ntmps51 (by simp) (fun w => []) (fun w => Start.nil) fun w₀ => ?_
 refine GS ?_
 refine TN 0 ?_
 refine RN ?_
 refine ⟨_, _, eff_alloc (n := 2) (d := 0) (k := 1000000) zero112 (by decide), fun b0 hb0 => ?_⟩
 have hBb0 := hb0.1
 refine TL ?_
 refine RN ?_
 refine GS ?_
 refine TF 1 ?_
 refine RS (ok_lit [] (List.replicate 8 (.int .u32 0) ++ List.replicate 64 (.int .u8 0) ++ [.int .u64 0]) (fun _ _ => rfl) (by kernel_rfl)) ?_
 refine RN ?_
 refine ⟨_, eff_storeA (n := 2) (s := 1000000) (size112.of (by decide)) rfl rfl (by decide) hBb0 rfl (rfl) (LV 0 rfl LN), ?_⟩
 refine TL ?_
 refine RN ?_
 refine A.ret ?_
 exact End.cell1 (s := 1000000) rfl Tryd.underlying112 rfl (size112.of (by decide)) rfl rfl (Le.eq (by rw [stV, stL_nil]))
theorem filled_fn (f : R8) (r : List UInt8) (m : Nat) (hr : r.length = 64) (hm : m ≤ 1000000) : Fn Tryd.prog 68 [.v (aggV (stM f r m))] (.v (.int .i64 ((m % 64 : Nat) : Int))) := by
 refine Fn.of Tryd.func68 rfl (by kernel_rfl) Tryd.ntmps68 (by simp) (fun w => [(0, .v (aggV (stM f r m)))]) (fun w => (Start.v rfl Start.nil)) fun w₀ => ?_
 refine GS ?_
 refine TN 0 ?_
 refine RN ?_
 refine ⟨_, _, eff_box (n := 7) (d := 1) (k := 1000001) rfl (by decide), fun b1 hb1 => ?_⟩
 have hBb1 := hb1.1
 refine TL ?_
 refine RA rfl ?_
 refine RN ?_
 refine GS ?_
 refine TL ?_
 refine RS (ok_field field112_2 (by decide) rfl) ?_
 refine RS (ok_loadV (s := 1000001) (by decide) Tryd.underlying28 rfl rfl rfl (stM_size hr)) ?_
 refine RS (ok_rem rfl rfl (by decide)) ?_; refine RZ (.int .u64 ((m % 64 : Nat) : Int)) (by rw [tmod_lit _ (by decide)]; rfl) ?_
 refine RS (ok_conv Tryd.underlying28 Tryd.underlying3 rfl) ?_; refine RZ (.int .i64 ((m % 64 : Nat) : Int)) (by rw [wrap_i64 (by omega) (by omega)]) ?_
 refine RA rfl ?_
 refine RN ?_
 refine A.ret ?_
 exact End.ret1 rfl rfl (by first | exact Le.refl _ | exact Le.old _ _)
theorem compressed_fn (l : List UInt8) (hl : l.length ≤ 1000000) : FnM Tryd.prog 67 tabs [.v (stV l)] (.v (aggV ((chain H8 l (l.length / 64)).list.map u32V))) := by
 refine FnM.of Tryd.func67 rfl (by kernel_rfl) Tryd.ntmps67 (by simp) (by decide) (fun w => [(0, .v (stV l)), (1900001, tab 1 (H8.list.map u32V)), (1900002, tab 2 (K64.map u32V))]) (fun w => (StartM.v rfl (StartM.m (by simp [tabs]) (by decide) (StartM.m (by simp [tabs]) (by decide) StartM.nil)))) fun w₀ hM => ?_
 have htab := tabs_hi hM
 refine GS ?_
 refine TN 0 ?_
 refine RN ?_
 refine ⟨_, _, eff_box (n := 9) (d := 1) (k := 1000001) rfl (by decide), fun b1 hb1 => ?_⟩
 have hBb1 := hb1.1
 refine TN 1 ?_
 refine RN ?_
 refine ⟨_, _, eff_alloc (n := 9) (d := 2) (k := 1000002) zero109 (by decide), fun b2 hb2 => ?_⟩
 have hBb2 := hb2.1
 refine TL ?_
 refine RN ?_
 refine A.seq ?_
 refine GS ?_
 refine TL ?_
 refine RS (ok_field field112_2 (by decide) rfl) ?_
 refine RS (ok_loadV (s := 1000001) (by decide) Tryd.underlying28 rfl rfl rfl (stL_size l)) ?_
 refine RB rfl rfl rfl ?_
 refine RN ?_
 refine A.cond rfl (fun hc5 => ?_) (fun hc5 => ?_)
 ·have hs : l.length < 64 := by simp at hc5; omega
  refine GS ?_
  refine TF 1 ?_
  refine RS (ok_loadT (s := 1900001) (by decide) Tryd.underlying109 rfl (size109.of (R8.size _)) rfl rfl) ?_; refine RZ (aggV ((chain H8 l (l.length / 64)).list.map u32V)) (by rw [chain_start l hs]) ?_
  refine RN ?_
  refine ⟨_, eff_storeA (n := 9) (s := 1000002) (size109.of (R8.size _)) rfl rfl (all_u32 _) hBb2 rfl ((R8.size _).symm) (LV 2 rfl (LT 1000001 rfl (LeftS.cons (t := 1900001) rfl (Surv.tab (by omega)) (LeftS.cons (t := 1900002) rfl (Surv.tab (by omega)) LN)))), ?_⟩
  refine TL ?_
  refine RN ?_
  refine A.ret ?_
  refine End.ret_then ?_
  exact End.cell1 (s := 1000002) rfl Tryd.underlying109 rfl (size109.of (R8.size _)) rfl rfl (Le.refl _)
 ·have hs : ¬ l.length < 64 := by simp at hc5; omega
  refine A.skip ?_
  refine EN ?_
  refine GS ?_
  refine TF 2 ?_
  refine RS (ok_field field112_0 (by decide) rfl) ?_
  refine RS (ok_loadP (s := 1000001) (by decide) Tryd.underlying109 rfl size109 rfl rfl (by rw [stL_length]; decide) (stL_full l)) ?_; refine RZ (aggV ((chain H8 l (l.length / 64)).list.map u32V)) (by rw [fullR, if_neg hs]) ?_
  refine RN ?_
  refine ⟨_, eff_storeA (n := 9) (s := 1000002) (size109.of (R8.size _)) rfl rfl (all_u32 _) hBb2 rfl ((R8.size _).symm) (LV 2 rfl (LT 1000001 rfl (LeftS.cons (t := 1900001) rfl (Surv.tab (by omega)) (LeftS.cons (t := 1900002) rfl (Surv.tab (by omega)) LN)))), ?_⟩
  refine TL ?_
  refine RN ?_
  refine A.ret ?_
  exact End.cell1 (s := 1000002) rfl Tryd.underlying109 rfl (size109.of (R8.size _)) rfl rfl (Le.refl _)
theorem ending_fn (l : List UInt8) (hl : l.length ≤ 1000000) : Fn Tryd.prog 70 [.v (stV l)] (byt (endL l.length)) := by
 refine Fn.of Tryd.func70 rfl (by kernel_rfl) Tryd.ntmps70 (by simp) (fun w => [(0, .v (stV l))]) (fun w => (Start.v rfl Start.nil)) fun w₀ => ?_
 refine GS ?_
 refine TN 0 ?_
 refine RN ?_
 refine ⟨_, _, eff_box (n := 17) (d := 1) (k := 1000001) rfl (by decide), fun b1 hb1 => ?_⟩
 have hBb1 := hb1.1
 refine TL ?_
 refine RA rfl ?_
 refine RN ?_
 refine GS ?_
 refine TL ?_
 refine RS (ok_loadA (s := 1000001) (by decide) Tryd.underlying112 rfl (size112.of (stL_length l)) rfl rfl) ?_
 refine RS (ok_call (filled_fn (fullR l) (restL l) l.length (restL_length l) hl) (A1 rfl)) ?_
 refine RBS rfl rfl rfl (.int .i64 ((119 - l.length % 64 : Nat) : Int)) (by rw [wrap_i64 (by omega) (by omega)]; congr 1; omega) ?_
 refine RS (ok_rem rfl rfl (by decide)) ?_; refine RZ (.int .i64 (((119 - l.length % 64) % 64 : Nat) : Int)) (by rw [tmod_lit _ (by decide)]; rfl) ?_
 refine RA rfl ?_
 refine RN ?_
 refine GD ?_
 refine TL ?_
 refine RS (ok_build [byteD 128] Tryd.underlying91 info5 rfl (by decide) (by decide) rfl ⟨rfl, rfl, trivial⟩ (fun d hd w x h => by simp only [List.mem_cons, List.not_mem_nil, or_false] at hd; rcases hd with rfl; exact v_one rfl h)) ?_
 refine RM rfl ?_
 refine RS (ok_make ((119 - l.length % 64) % 64) Tryd.underlying91 info5 (by decide) rfl rfl rfl rfl rfl (by omega)) ?_
 refine RS (ok_field field112_2 (by decide) rfl) ?_
 refine RS (ok_loadV (s := 1000001) (by decide) Tryd.underlying28 rfl rfl rfl (stL_size l)) ?_
 refine RBS rfl rfl rfl (.int .u64 ((8 * l.length : Nat) : Int)) (by rw [wrap_u64 (by omega) (by omega)]; congr 1) ?_
 refine RS (ok_call (Put64_fn ((8 * l.length : Nat) : Int) (by omega) (by omega)) (A1 rfl)) ?_
 refine RS (ok_build [list [byteD 128] 1, fresh w₀.heap.size 5 (List.replicate ((119 - l.length % 64) % 64) (.int .u8 0)) ((119 - l.length % 64) % 64), bytes (be 8 (8 * l.length)) 8] Tryd.underlying108 info91 rfl (by decide) (by decide) rfl ⟨rfl, rfl, rfl, rfl, rfl, rfl, trivial⟩ (fun d hd w x h => by simp only [List.mem_cons, List.not_mem_nil, or_false] at hd; rcases hd with rfl | rfl | rfl <;> first | exact list_one h | exact freshS_one h | exact bytes_one h)) ?_
 refine RS (ok_call ((Join_fn [[128], List.replicate ((119 - l.length % 64) % 64) 0, be 8 (8 * l.length)] (by simp) (by simp [be_length]; omega)).le (d' := byt (endL l.length)) ((le_byt _ _).trans (Le.eq (by simp [endL])))) (Args.cons rfl (list_lst3 (le_lst _ _) (fresh_zeros (by simp only [maxLen]; omega)) (le_byt _ _)) Args.nil)) ?_
 refine RA rfl ?_
 refine RN ?_
 refine A.ret ?_
 exact End.ret1 rfl rfl (by first | exact Le.refl _ | exact Le.old _ _)
end Go.Proofs.YtfjpipkcfbmdeaaDoor
namespace Go.Proofs.YtfjpipkcfbmdeaaDoor
open Go Go.RowKit
variable {κ : Cx}

/-! ### There is something of which it is known -/
def exD {ι : Type} (P : ι → Prop) (d : ι → D) : D :=
  .p (fun B w x => ∃ i, P i ∧ (d i).OfB B w x) (fun _ _ _ _ g ⟨i, h, k⟩ => ⟨i, h, k.keep g⟩) (fun _ _ _ _ g ⟨i, h, k⟩ => ⟨i, h, k.up g⟩)
theorem Le.ex {ι : Type} {P : ι → Prop} {d : ι → D} (i : ι) (h : P i) : Le (d i) (exD P d) := fun _ _ _ hx => ⟨i, h, hx⟩
/-! ### Digits -/
/-! ### Prime numbers by trial -/
end Go.Proofs.YtfjpipkcfbmdeaaDoor
namespace Go.Proofs.YtfjpipkcfbmdeaaDoor
open Go Go.RowKit
set_option linter.unusedVariables false
set_option maxRecDepth 20000

end Go.Proofs.YtfjpipkcfbmdeaaDoor
namespace Go.Proofs.YtfjpipkcfbmdeaaDoor
open Go Go.RowKit
set_option linter.unusedVariables false
set_option maxRecDepth 20000

end Go.Proofs.YtfjpipkcfbmdeaaDoor
namespace Go.Proofs.YtfjpipkcfbmdeaaDoor
open Go Go.RowKit
set_option linter.unusedVariables false
set_option maxRecDepth 20000

end Go.Proofs.YtfjpipkcfbmdeaaDoor
namespace Go.Proofs.YtfjpipkcfbmdeaaDoor
open Go Go.RowKit
set_option linter.unusedVariables false
set_option maxRecDepth 20000
theorem block_len (L r : List UInt8) (h : (L.length + min r.length (64 - L.length % 64)) % 64 = 0) (h0 : 0 < r.length) : L.length % 64 + (r.take (64 - L.length % 64)).length = 64 := by
 have hk : L.length % 64 < 64 := Nat.mod_lt _ (by decide)
 rw [List.length_take]; omega
theorem part_len (L r : List UInt8) (h : ¬ (L.length + min r.length (64 - L.length % 64)) % 64 = 0) : (L.length + (r.take (64 - L.length % 64)).length) / 64 = L.length / 64 := by
 have hk : L.length % 64 < 64 := Nat.mod_lt _ (by decide)
 rw [List.length_take]; omega

set_option maxHeartbeats 1000000 in
theorem Write_fn (l b : List UInt8) (hl : l.length + b.length ≤ 1000000) : FnM Tryd.prog 52 tabs [.v (stV l), byt b] (.v (stV (l ++ b))) := by
 refine FnM.of Tryd.func52 rfl (by kernel_rfl) Tryd.ntmps52 (by simp) (by decide) (fun w => [(0, .v (stV l)), (1, old w.heap.size (byt b)), (1900001, tab 1 (H8.list.map u32V)), (1900002, tab 2 (K64.map u32V))]) (fun w => (StartM.v rfl (StartM.old rfl (StartM.m (by simp [tabs]) (by decide) (StartM.m (by simp [tabs]) (by decide) StartM.nil))))) fun w₀ hM => ?_
 have htab := tabs_hi hM
 refine GS ?_
 refine TN 0 ?_
 refine RN ?_
 refine ⟨_, _, eff_box (n := 36) (d := 2) (k := 1000002) rfl (by decide), fun b2 hb2 => ?_⟩
 have hBb2 := hb2.1
 refine TN 1 ?_
 refine RN ?_
 refine ⟨_, _, eff_alloc (n := 36) (d := 4) (k := 1000004) zero112 (by decide), fun b4 hb4 => ?_⟩
 have hBb4 := hb4.1
 have hlt_b2_b4 : b2 < b4 := hb4.2 1000002 _ _ _ rfl
 refine TL ?_
 refine RN ?_
 refine A.seq ?_
 refine A.block ?_
 refine A.loop (ι := Nat) (fun c => c ≤ b.length) (fun c => [(1, old w₀.heap.size (byt (b.drop c))), (2, .v (.pointer (some ⟨b2, 0, none⟩))), (4, .v (.pointer (some ⟨b4, 0, none⟩))), (1000002, blk b2 112 (stL (l ++ b.take c))), (1000004, blk b4 112 (List.replicate 8 (.int .u32 0) ++ List.replicate 64 (.int .u8 0) ++ [.int .u64 0])), (1900001, tab 1 (H8.list.map u32V)), (1900002, tab 2 (K64.map u32V))]) (fun c => b.length - c) 0 ?_ ?_ ?_
 ·exact Nat.zero_le _
 ·exact (KE 1 rfl (by rw [List.drop_zero]) (KC 2 rfl (KC 4 rfl (KE 1000002 rfl (by rw [List.take_zero, List.append_nil]) (KC 1000004 rfl (KC 1900001 rfl (KC 1900002 rfl KN)))))))
 intro c hc
 obtain ⟨L, hL⟩ : ∃ L, l ++ b.take c = L := ⟨_, rfl⟩
 obtain ⟨r, hr⟩ : ∃ r, b.drop c = r := ⟨_, rfl⟩
 have hLl : L.length = l.length + c := by rw [← hL]; simp; omega
 have hrl' : r.length = b.length - c := by rw [← hr]; simp
 rw [hL, hr]
 refine A.seq ?_
 refine GS ?_
 refine TL ?_
 refine RM rfl ?_
 refine RS (ok_lenB Tryd.underlying91 rfl (Le.old _ _)) ?_
 refine RB rfl rfl rfl ?_
 refine RN ?_
 refine A.cond rfl (fun hc9 => ?_) (fun hc9 => ?_)
 ·have hrl : 0 < r.length := by simp at hc9; omega
  refine A.skip ?_
  refine EN ?_
  refine A.block ?_
  refine GS ?_
  refine TN 2 ?_
  refine RS (ok_loadA (s := 1000002) (by decide) Tryd.underlying112 rfl (size112.of (stL_length _)) rfl rfl) ?_
  refine RS (ok_callM (compressed_fn L (by omega)) (Sub.cons rfl (Sub.cons rfl KN)) tabs_v (Args.cons rfl LA Args.nil)) ?_
  refine RN ?_
  refine ⟨_, _, eff_alloc (n := 36) (d := 5) (k := 1000005) zero109 (by decide), fun b5 hb5 => ?_⟩
  have hBb5 := hb5.1
  refine TF 3 ?_
  refine RN ?_
  refine ⟨_, eff_storeA (n := 36) (s := 1000005) (size109.of (R8.size _)) rfl rfl (all_u32 _) hBb5 rfl ((R8.size _).symm) (LO 1 rfl (LV 2 rfl (LV 4 rfl (LV 5 rfl (LT 1000002 rfl (LT 1000004 rfl (LeftS.cons (t := 1900001) rfl (Surv.tab (by omega)) (LeftS.cons (t := 1900002) rfl (Surv.tab (by omega)) LN)))))))), ?_⟩
  refine TL ?_
  refine RN ?_
  refine GS ?_
  refine TF 5 ?_
  refine RS (ok_field field112_1 (by decide) rfl) ?_
  refine RS (ok_loadA (s := 1000002) (by decide) Tryd.underlying112 rfl (size112.of (stL_length _)) rfl rfl) ?_
  refine RS (ok_call (filled_fn (fullR L) (restL L) L.length (restL_length L) (by omega)) (A1 rfl)) ?_
  refine RS (ok_sliceX (l := L.length % 64) (h := 64) (m := 64) Tryd.underlying110 info5 rfl (.inl ⟨_, _, rfl, rfl⟩) (.inr ⟨rfl, rfl, rfl⟩) (.inr ⟨rfl, rfl⟩) (by omega) (by omega) (by omega) (.inl (by omega))) ?_
  refine RM rfl ?_
  refine RN ?_
  refine ⟨_, eff_copyS (n := 36) (s := 1000002) (l := r) Tryd.underlying91 info5 rfl rfl (Le.old _ _) hBb2 rfl (by rw [stL_length]; omega) (by decide) (LO 1 rfl (LV 2 rfl (LV 4 rfl (LV 5 rfl (LB 1000004 rfl (LT 1000005 rfl (LeftS.cons (t := 1900001) rfl (Surv.tab (by omega)) (LeftS.cons (t := 1900002) rfl (Surv.tab (by omega)) LN)))))))), ?_⟩
  refine TL ?_
  refine RA rfl ?_
  refine RN ?_
  refine A.sub (KC 1 rfl (KC 2 rfl (KC 4 rfl (KC 5 rfl (KC 6 rfl (KE 1000002 rfl (show blk b2 112 _ = blk b2 112 (stM (fullR L) (restL (L ++ r.take (64 - L.length % 64))) L.length) from congrArg _ (st_copy L r)) (KC 1000004 rfl (KC 1000005 rfl (KC 1900001 rfl (KC 1900002 rfl KN)))))))))) ?_
  refine GS ?_
  refine TL ?_
  refine RM rfl ?_
  refine RM rfl ?_
  refine RS ((ok_sliceO (l := min r.length (64 - L.length % 64)) (h := r.length) (f := byt r) (ds := r.map byteD) Tryd.underlying91 info5 rfl (Le.refl _) (.inl ⟨_, _, rfl, rfl⟩) (.inr ⟨rfl, by simp⟩) (by omega) (by simp)).le (d' := old w₀.heap.size (byt (r.drop (min r.length (64 - L.length % 64))))) (Le.eq (by rw [byt, List.map_drop, List.take_of_length_le (by simp)]))) ?_
  refine RA rfl ?_
  refine RN ?_
  refine GS ?_
  refine TF 6 ?_
  refine RS (ok_field field112_2 (by decide) rfl) ?_
  refine RS (ok_loadV (s := 1000002) (by decide) Tryd.underlying28 rfl rfl rfl (stM_size (restL_length _))) ?_
  refine RM rfl ?_
  refine RS (ok_conv Tryd.underlying3 Tryd.underlying28 rfl) ?_; refine RZ (.int .u64 ((min r.length (64 - L.length % 64) : Nat) : Int)) (by rw [wrapN_u64 (by omega)]) ?_
  refine RBS rfl rfl rfl (.int .u64 ((L.length + min r.length (64 - L.length % 64) : Nat) : Int)) (by rw [wrap_u64 (by omega) (by omega)]; congr 1) ?_
  refine RS (ok_field field112_2 (by decide) rfl) ?_
  refine RN ?_
  refine ⟨_, eff_storeS (n := 36) (s := 1000002) info28 rfl rfl rfl hBb2 rfl (by rw [stM_length (restL_length _)]; decide) (LO 1 rfl (LV 2 rfl (LV 4 rfl (LV 5 rfl (LB 1000004 rfl (LT 1000005 rfl (LeftS.cons (t := 1900001) rfl (Surv.tab (by omega)) (LeftS.cons (t := 1900002) rfl (Surv.tab (by omega)) LN)))))))), ?_⟩
  refine TL ?_
  refine RN ?_
  refine A.sub (KC 1 rfl (KC 2 rfl (KC 4 rfl (KC 5 rfl (KE 1000002 rfl (show blk b2 112 _ = blk b2 112 (stM (fullR L) (restL (L ++ r.take (64 - L.length % 64))) (L.length + min r.length (64 - L.length % 64))) from congrArg _ (stM_setSize (restL_length _))) (KC 1000004 rfl (KC 1000005 rfl (KC 1900001 rfl (KC 1900002 rfl KN))))))))) ?_
  refine GS ?_
  refine TL ?_
  refine RS (ok_loadA (s := 1000002) (by decide) Tryd.underlying112 rfl (size112.of (stM_length (restL_length _))) rfl rfl) ?_
  refine RS (ok_call (filled_fn (fullR L) (restL (L ++ r.take (64 - L.length % 64))) (L.length + min r.length (64 - L.length % 64)) (restL_length _) (by omega)) (A1 rfl)) ?_
  refine RB rfl rfl rfl ?_
  refine RN ?_
  refine A.cond rfl (fun hc29 => ?_) (fun hc29 => ?_)
  ·refine GE ?_
   refine TF 5 ?_
   refine RS (ok_loadA (s := 1000005) (by decide) Tryd.underlying109 rfl (size109.of (R8.size _)) rfl rfl) ?_
   refine RS (ok_field field112_1 (by decide) rfl) ?_
   refine RS (ok_loadP (s := 1000002) (by decide) Tryd.underlying110 rfl size110 rfl rfl (by rw [stM_length (restL_length _)]; decide) (stM_rest (restL_length _))) ?_
   refine RS (ok_callM (Compress_fn (chain H8 L (L.length / 64)) (restL (L ++ r.take (64 - L.length % 64))) (restL_length _)) (Sub.cons rfl (Sub.cons rfl KN)) tabs_v (Args.cons rfl LA (Args.cons rfl LA Args.nil))) ?_
   refine RS (ok_field field112_0 (by decide) rfl) ?_
   refine RN ?_
   refine ⟨_, eff_storeP (n := 36) (s := 1000002) (size109.of (R8.size _)) rfl rfl (all_u32 _) hBb2 rfl (by rw [stM_length (restL_length _), R8.size]; decide) (LO 1 rfl (LV 2 rfl (LV 4 rfl (LB 1000004 rfl (LT 1000005 rfl (LeftS.cons (t := 1900001) rfl (Surv.tab (by omega)) (LeftS.cons (t := 1900002) rfl (Surv.tab (by omega)) LN))))))), ?_⟩
   refine TL ?_
   refine RN ?_
   refine End.sub (KC 1 rfl (KC 2 rfl (KC 4 rfl (KE 1000002 rfl (show blk b2 112 _ = blk b2 112 (stL (L ++ r.take (64 - L.length % 64))) from congrArg _ (by rw [stM_setFull, stL, fullR_step L _ (block_len L r (by have := beq_iff_eq.1 hc29; omega) (by omega)), List.length_append, List.length_take, Nat.min_comm (64 - L.length % 64)])) (KC 1000004 rfl (KC 1000005 rfl (KC 1900001 rfl (KC 1900002 rfl KN)))))))) ?_
   refine End.normal_block ?_
   refine End.normal_then ?_
   refine End.again (c + min r.length (64 - L.length % 64)) ?_ ?_ ?_
   ·show _ ≤ _; omega
   ·show _ - _ < _ - _; omega
   ·exact (KE 1 rfl (by rw [← List.drop_drop, hr]) (KC 2 rfl (KC 4 rfl (KE 1000002 rfl (by rw [List.take_add, hr, ← List.append_assoc, hL, Nat.min_comm r.length, ← List.take_eq_take_min]) (KC 1000004 rfl (KC 1900001 rfl (KC 1900002 rfl KN)))))))
  ·have hst : stM (fullR L) (restL (L ++ r.take (64 - L.length % 64))) (L.length + min r.length (64 - L.length % 64)) = stL (L ++ r.take (64 - L.length % 64)) := by
    rw [stL, fullR_same L _ (part_len L r (by have := beq_eq_false_iff_ne.1 hc29; omega)), List.length_append, List.length_take, Nat.min_comm (64 - L.length % 64)]
   rw [hst]
   refine A.skip ?_
   refine End.normal_block ?_
   refine End.normal_then ?_
   refine End.again (c + min r.length (64 - L.length % 64)) ?_ ?_ ?_
   ·show _ ≤ _; omega
   ·show _ - _ < _ - _; omega
   ·exact (KE 1 rfl (by rw [← List.drop_drop, hr]) (KC 2 rfl (KC 4 rfl (KE 1000002 rfl (by rw [List.take_add, hr, ← List.append_assoc, hL, Nat.min_comm r.length, ← List.take_eq_take_min]) (KC 1000004 rfl (KC 1900001 rfl (KC 1900002 rfl KN)))))))
 ·have hr0 : r = [] := by simpa using hc9
  refine A.exit ?_
  refine End.exit_then ?_
  refine End.exit_then ?_
  refine End.exit_here ?_
  refine EN ?_
  refine GS ?_
  refine TF 1 ?_
  refine RS (ok_loadA (s := 1000002) (by decide) Tryd.underlying112 rfl (size112.of (stL_length _)) rfl rfl) ?_
  refine RN ?_
  refine ⟨_, eff_storeA (n := 36) (s := 1000004) (size112.of (stL_length _)) rfl rfl (stL_ones _) hBb4 rfl ((stL_length _).symm) (LV 4 rfl (LB 1000002 rfl (LeftS.cons (t := 1900001) rfl (Surv.tab (by omega)) (LeftS.cons (t := 1900002) rfl (Surv.tab (by omega)) LN)))), ?_⟩
  refine TL ?_
  refine RN ?_
  refine A.ret ?_
  exact End.cell1 (s := 1000004) rfl Tryd.underlying112 rfl (size112.of (stL_length _)) rfl rfl (Le.v (by rw [← hL, stV]; simp [List.drop_eq_nil_iff.1 (hr.trans hr0), List.take_of_length_le]))
end Go.Proofs.YtfjpipkcfbmdeaaDoor
namespace Go.Proofs.YtfjpipkcfbmdeaaDoor
open Go Go.RowKit
set_option linter.unusedVariables false
set_option maxRecDepth 20000

theorem Chunk_fnB (g m c : Nat) : FnB Tryd.prog 71 [.v (.slice (some ⟨g, 0, none⟩) m c), .v (.int .i64 64)] (fun B => closD B 82 91 3 (.slice (some ⟨g, 0, none⟩) m c) (.int .i64 64)) := by
 refine FnB.of Tryd.func71 rfl (by kernel_rfl) Tryd.ntmps71 (by simp) (fun w => [(0, .v (.slice (some ⟨g, 0, none⟩) m c)), (1, .v (.int .i64 64))]) (fun w => (Start.v rfl (Start.v rfl Start.nil))) fun w₀ => ?_
 refine GS ?_
 refine TN 0 ?_
 refine RN ?_
 refine ⟨_, _, eff_box1 (n := 9) (d := 2) (k := 1000002) rfl rfl (by decide), fun b2 hb2 => ?_⟩
 have hBb2 := hb2.1
 refine TN 1 ?_
 refine RN ?_
 refine ⟨_, _, eff_box1 (n := 9) (d := 3) (k := 1000003) rfl rfl (by decide), fun b3 hb3 => ?_⟩
 have hBb3 := hb3.1
 have hlt_b2_b3 : b2 < b3 := hb3.2 1000002 _ _ _ rfl
 refine TL ?_
 refine RA rfl ?_
 refine RN ?_
 refine A.seq ?_
 refine GS ?_
 refine TL ?_
 refine RS (ok_loadV (s := 1000003) (by decide) Tryd.underlying3 rfl rfl rfl (rfl)) ?_
 refine RBS rfl rfl rfl (.bool false) (rfl) ?_
 refine RN ?_
 refine A.no rfl ?_
 refine A.skip ?_
 refine EN ?_
 refine GS ?_
 refine TL ?_
 refine RS (ok_makeFunc2 rfl rfl) ?_
 refine RA rfl ?_
 refine RN ?_
 refine A.ret ?_
 exact End.clos rfl hBb2 hlt_b2_b3 rfl (k₁ := 1000002) (k₂ := 1000003) rfl rfl
theorem Chunk1_seq {w₀ : World} {N m l p q g cap : Nat} {J : Nat → World → Prop} {arg : Nat → D} (hm : m = 64 * N) (hcap : m ≤ cap) (hmax : cap ≤ maxLen) (harg : ∀ i, i < N → arg i = .v (.slice (some ⟨g, 64 * i, none⟩) 64 64))
  (hq : Seqs Tryd.prog w₀ N l arg (fun _ => [(1000091, blk p 91 [.slice (some ⟨g, 0, none⟩) m cap]), (1000092, blk q 3 [.int .i64 64])]) J) {w : World} (h0 : J 0 w) :
  Calls Tryd.prog 82 (.func (.yield l) #[] #[] :: [.pointer (some ⟨p, 0, none⟩), .pointer (some ⟨q, 0, none⟩)] : List Value).toArray w fun e W => (∃ v, e = .returned v) ∧ J N W := by
 have hmx : maxLen = 9223372036854775807 := rfl
 obtain ⟨hb, hs, hV⟩ := hq.holds 0 w h0
 refine Calls.within (n := 31) (E := [(0, .v (.func (.yield l) #[] #[])), (1, .v (.pointer (some ⟨p, 0, none⟩))), (2, .v (.pointer (some ⟨q, 0, none⟩))), (1000090, jD (J 0)), (1000091, blk p 91 [.slice (some ⟨g, 0, none⟩) m cap]), (1000092, blk q 3 [.int .i64 64])]) Tryd.func82 rfl Tryd.ntmps82 (by simp) (by decide) hb hs ?_ ?_
 ·intro x hx
  simp only [List.mem_cons, List.not_mem_nil, or_false] at hx
  rcases hx with rfl | rfl | rfl | rfl | rfl | rfl
  ·exact .inr ⟨_, rfl, rfl⟩
  ·exact .inr ⟨_, rfl, rfl⟩
  ·exact .inr ⟨_, rfl, rfl⟩
  ·exact .inl ⟨vle rfl, jD_mk h0⟩
  ·exact .inl ⟨vle rfl, hV _ (by simp)⟩
  ·exact .inl ⟨vle rfl, hV _ (by simp)⟩
 refine GS ?_
 refine TL ?_
 refine RA rfl ?_
 refine RN ?_
 refine A.block ?_
 refine A.loop (ι := Nat) (fun i => i ≤ N) (fun i => [(0, .v (.func (.yield l) #[] #[])), (1, .v (.pointer (some ⟨p, 0, none⟩))), (2, .v (.pointer (some ⟨q, 0, none⟩))), (4, .v (.int .i64 ((64 * i : Nat) : Int))), (1000090, jD (J i)), (1000091, blk p 91 [.slice (some ⟨g, 0, none⟩) m cap]), (1000092, blk q 3 [.int .i64 64])]) (fun i => N - i) 0 ?_ ?_ ?_
 ·exact Nat.zero_le _
 ·exact (KC 0 rfl (KC 1 rfl (KC 2 rfl (KC 4 rfl (KC 1000090 rfl (KC 1000091 rfl (KC 1000092 rfl KN)))))))
 intro i hi
 refine A.seq ?_
 refine GS ?_
 refine TL ?_
 refine RM rfl ?_
 refine RS (ok_loadV (s := 1000091) (by decide) Tryd.underlying91 rfl rfl rfl (rfl)) ?_
 refine RS (ok_lenV Tryd.underlying91 rfl) ?_
 refine RB rfl rfl rfl ?_
 refine RN ?_
 refine A.cond rfl (fun hc9 => ?_) (fun hc9 => ?_)
 ·have hlt : i < N := by simp at hc9; omega
  refine A.skip ?_
  refine EN ?_
  refine A.seq ?_
  refine A.block ?_
  refine GD ?_
  refine TL ?_
  refine RS (ok_loadV (s := 1000092) (by decide) Tryd.underlying3 rfl rfl rfl (rfl)) ?_
  refine RS (ok_loadV (s := 1000091) (by decide) Tryd.underlying91 rfl rfl rfl (rfl)) ?_
  refine RM rfl ?_
  refine RS (ok_sliceS (l := 64 * i) (h := m) (m := cap) Tryd.underlying91 info5 rfl (.inl ⟨_, _, rfl, rfl⟩) (.inr ⟨rfl, rfl, rfl⟩) (.inr ⟨rfl, rfl⟩) (by omega) (by omega) (by omega) (.inl (by omega))) ?_
  refine RS (ok_lenV Tryd.underlying91 rfl) ?_
  refine RS (ok_min rfl rfl) ?_; refine RZ (.int .i64 ((64 : Nat) : Int)) (by congr 1; omega) ?_
  refine RA rfl ?_
  refine RN ?_
  refine GS ?_
  refine TF 10 ?_
  refine RM rfl ?_
  refine RS (ok_loadV (s := 1000091) (by decide) Tryd.underlying91 rfl rfl rfl (rfl)) ?_
  refine RM rfl ?_
  refine RM rfl ?_
  refine RM rfl ?_
  refine RBS rfl rfl rfl (.int .i64 ((64 * i + 64 : Nat) : Int)) (by rw [wrap_i64 (by omega) (by omega)]; first | rfl | (congr 1; omega)) ?_
  refine RM rfl ?_
  refine RM rfl ?_
  refine RBS rfl rfl rfl (.int .i64 ((64 * i + 64 : Nat) : Int)) (by rw [wrap_i64 (by omega) (by omega)]; first | rfl | (congr 1; omega)) ?_
  refine RS (ok_sliceS (l := 64 * i) (h := 64 * i + 64) (m := 64 * i + 64) Tryd.underlying91 info5 rfl (.inl ⟨_, _, rfl, rfl⟩) (.inl ⟨_, _, rfl, rfl⟩) (.inl ⟨_, _, rfl, rfl⟩) (by omega) (by omega) (by omega) (.inl (by omega))) ?_; refine RZ (.slice (some ⟨g, 64 * i, none⟩) 64 64) (by rw [Nat.zero_add, show 64 * i + 64 - 64 * i = 64 from by omega]) ?_
  refine RN ?_
  refine ⟨_, eff_yield (vJ := 1000090) hq i hlt rfl rfl rfl (Le.eq (harg i hlt).symm) (by decide) (fun p hp => by simp only [List.mem_cons, List.not_mem_nil, or_false] at hp; rcases hp with rfl | rfl <;> exact vle rfl) (by decide) (Left.cons (t := 0) rfl (Stays.v _ _) (Left.cons (t := 1) rfl (Stays.v _ _) (Left.cons (t := 2) rfl (Stays.v _ _) (Left.cons (t := 4) rfl (Stays.v _ _) Left.nil)))), ?_⟩
  refine TL ?_
  refine RS (ok_not rfl) ?_; refine RZ (.bool false) (rfl) ?_
  refine RN ?_
  refine A.no rfl ?_
  refine A.skip ?_
  refine End.normal_block ?_
  refine EN ?_
  refine GE ?_
  refine TL ?_
  refine RM rfl ?_
  refine RS (ok_loadV (s := 1000092) (by decide) Tryd.underlying3 rfl rfl rfl (rfl)) ?_
  refine RBS rfl rfl rfl (.int .i64 ((64 * (i + 1) : Nat) : Int)) (by rw [wrap_i64 (by omega) (by omega)]; first | rfl | (congr 1; omega)) ?_
  refine RA rfl ?_
  refine RN ?_
  refine End.sub (KC 0 rfl (KC 1 rfl (KC 2 rfl (KC 4 rfl (KC 1000090 rfl (KC 1000091 rfl (KC 1000092 rfl KN))))))) ?_
  refine End.normal_then ?_
  refine End.again (i + 1) ?_ ?_ ?_
  ·show _ ≤ _; omega
  ·show _ - _ < _ - _; omega
  ·exact (KC 0 rfl (KC 1 rfl (KC 2 rfl (KC 4 rfl (KC 1000090 rfl (KC 1000091 rfl (KC 1000092 rfl KN)))))))
 ·obtain rfl : i = N := by simp at hc9; omega
  refine A.exit ?_
  refine End.exit_then ?_
  refine End.exit_then ?_
  refine End.exit_here ?_
  exact End.seq (vJ := 1000090) hq rfl rfl
set_option maxHeartbeats 1000000 in
theorem Sum_fn (l : List UInt8) (hl : l.length ≤ 1000000) : FnM Tryd.prog 53 tabs [.v (stV l)] (.v (aggV ((sha l).map byteV))) := by
 refine FnM.of Tryd.func53 rfl (by kernel_rfl) Tryd.ntmps53 (by simp) (by decide) (fun w => [(0, .v (stV l)), (1900001, tab 1 (H8.list.map u32V)), (1900002, tab 2 (K64.map u32V))]) (fun w => (StartM.v rfl (StartM.m (by simp [tabs]) (by decide) (StartM.m (by simp [tabs]) (by decide) StartM.nil)))) fun w₀ hM => ?_
 have htab := tabs_hi hM
 refine GS ?_
 refine TN 0 ?_
 refine RN ?_
 refine ⟨_, _, eff_box (n := 42) (d := 1) (k := 1000001) rfl (by decide), fun b1 hb1 => ?_⟩
 have hBb1 := hb1.1
 refine TN 1 ?_
 refine RN ?_
 refine ⟨_, _, eff_alloc (n := 42) (d := 2) (k := 1000002) zero27 (by decide), fun b2 hb2 => ?_⟩
 have hBb2 := hb2.1
 refine TL ?_
 refine RN ?_
 refine GS ?_
 refine TL ?_
 refine RS (ok_loadA (s := 1000001) (by decide) Tryd.underlying112 rfl (size112.of (stL_length l)) rfl rfl) ?_
 refine RS (ok_call (filled_fn (fullR l) (restL l) l.length (restL_length l) hl) (A1 rfl)) ?_
 refine RA rfl ?_
 refine RN ?_
 refine GD ?_
 refine TL ?_
 refine RS (ok_field field112_1 (by decide) rfl) ?_
 refine RM rfl ?_
 refine RM rfl ?_
 refine RS (ok_sliceX (l := 0) (h := l.length % 64) (m := l.length % 64) Tryd.underlying110 info5 rfl (.inr ⟨rfl, rfl⟩) (.inl ⟨_, _, rfl, rfl⟩) (.inl ⟨_, _, rfl, rfl⟩) (by omega) (by omega) (by omega) (.inr rfl)) ?_
 refine RS (ok_loadA (s := 1000001) (by decide) Tryd.underlying112 rfl (size112.of (stL_length l)) rfl rfl) ?_
 refine RS (ok_call (ending_fn l hl) (A1 rfl)) ?_
 refine RS ((ok_appendCap (s := 1000001) (m := l.length % 64) (us := (l.drop (64 * (l.length / 64))).map byteV) (vs := (endL l.length).map byteV) (by decide) Tryd.underlying91 info5 (by decide) rfl rfl rfl (by rw [← restL_take, List.map_take, ← stL_rest, List.take_take, Nat.min_eq_left (by omega)]) (by rw [stL_length]; omega) rfl (Le.eq (byt_vals _)) (by rw [List.length_map, endL_length]; omega) (by rw [List.length_map, endL_length]; omega)).le (d' := own w₀.heap.size 5 (tailL l).length ((tailL l).map byteV)) (Le.eq (by rw [tailL_length, List.length_map, endL_length, ← List.map_append]; rfl))) ?_
 refine RA rfl ?_
 refine RN ?_
 refine A.openOwn (t := 4) (k := 1000090) rfl (by rw [tailL_length]; omega) fun g cap ys hBg hcap1 hcap2 hgl hgx => ?_
 refine GS ?_
 refine TN 2 ?_
 refine RS (ok_loadA (s := 1000001) (by decide) Tryd.underlying112 rfl (size112.of (stL_length l)) rfl rfl) ?_
 refine RS (ok_callM (compressed_fn l hl) (Sub.cons rfl (Sub.cons rfl KN)) tabs_v (Args.cons rfl LA Args.nil)) ?_
 refine RN ?_
 refine ⟨_, _, eff_alloc (n := 42) (d := 5) (k := 1000005) zero109 (by decide), fun b5 hb5 => ?_⟩
 have hBb5 := hb5.1
 refine TF 3 ?_
 refine RN ?_
 refine ⟨_, eff_storeA (n := 42) (s := 1000005) (size109.of (R8.size _)) rfl rfl (all_u32 _) hBb5 rfl (by first | exact (R8.size _).trans (R8.size _).symm | rfl) (LV 2 rfl (LV 4 rfl (LV 5 rfl (LT 1000001 rfl (LT 1000002 rfl (LT 1000090 rfl (LeftS.cons (t := 1900001) rfl (Surv.tab (by omega)) (LeftS.cons (t := 1900002) rfl (Surv.tab (by omega)) LN)))))))), ?_⟩
 refine TL ?_
 refine RN ?_
 refine A.seq ?_
 refine GS ?_
 refine TL ?_
 refine RM rfl ?_
 refine RS (ok_callB (Chunk_fnB g (tailL l).length cap) (fun _ _ => closD_mono _ _) (A2 rfl rfl)) ?_
 refine RN ?_
 refine A.openClos (t := 22) (k₁ := 1000091) (k₂ := 1000092) rfl fun p q hBp hpq => ?_
 refine A.block ?_
 refine A.range (gf := 82) (N := (tailL l).length / 64) (vL := 1000098) (vD := 1000099) (tp := 23) (lb := [.pointer (some ⟨p, 0, none⟩), .pointer (some ⟨q, 0, none⟩)]) (S := [(2, .v (.pointer (some ⟨b2, 0, none⟩))), (5, .v (.pointer (some ⟨b5, 0, none⟩)))])
  (V := fun i => [(1000002, blk b2 27 (List.replicate 32 (.int .u8 0))), (1000005, blk b5 109 ((chain (chain H8 l (l.length / 64)) (tailL l) i).list.map u32V)), (1000090, blk g 5 ((tailL l).map byteV ++ ys)), (1000091, blk p 91 [.slice (some ⟨g, 0, none⟩) (tailL l).length cap]), (1000092, blk q 3 [.int .i64 64]), (1900001, tab 1 (H8.list.map u32V)), (1900002, tab 2 (K64.map u32V))])
  (Eb := fun i => (6, .v (.slice (some ⟨g, 64 * i, none⟩) 64 64)) :: (23, .v (.slice (some ⟨g, 64 * i, none⟩) 64 64)) :: ([(1000002, blk b2 27 (List.replicate 32 (.int .u8 0))), (1000005, blk b5 109 ((chain (chain H8 l (l.length / 64)) (tailL l) i).list.map u32V)), (1000090, blk g 5 ((tailL l).map byteV ++ ys)), (1000091, blk p 91 [.slice (some ⟨g, 0, none⟩) (tailL l).length cap]), (1000092, blk q 3 [.int .i64 64]), (1900001, tab 1 (H8.list.map u32V)), (1900002, tab 2 (K64.map u32V))] ++ [(2, .v (.pointer (some ⟨b2, 0, none⟩))), (5, .v (.pointer (some ⟨b5, 0, none⟩)))]))
  (arg := fun i => .v (.slice (some ⟨g, 64 * i, none⟩) 64 64)) rfl ⟨_, Tryd.func82, by kernel_rfl, rfl⟩ (by decide) (by decide) (KC 1000002 rfl (KC 1000005 rfl (KC 1000090 rfl (KC 1000091 rfl (KC 1000092 rfl (KC 1900001 rfl (KC 1900002 rfl (KC 2 rfl (KC 5 rfl KN)))))))))
  (fun x hx => by simp only [List.mem_cons, List.not_mem_nil, or_false] at hx; rcases hx with rfl | rfl <;> exact ⟨vlt rfl, .inl ⟨_, rfl⟩⟩)
  (fun i x hx => by simp only [List.mem_cons, List.not_mem_nil, or_false] at hx; rcases hx with rfl | rfl | rfl | rfl | rfl | rfl | rfl <;> exact vle rfl)
  (fun i l' _ x hx => by simp only [List.mem_cons, List.not_mem_nil, or_false] at hx; rcases hx with rfl | rfl | rfl | rfl | rfl | rfl | rfl <;> first | exact Firm.blk | exact Firm.tab)
  (fun i l' _ x hx => by simp only [List.mem_cons, List.mem_append, List.not_mem_nil, or_false] at hx; rcases hx with rfl | rfl | (rfl | rfl | rfl | rfl | rfl | rfl | rfl) | rfl | rfl <;> first | exact Firm.blk | exact Firm.tab | exact Firm.v _ _)
  (fun J l' w hq h0 => Chunk1_seq (g := g) (cap := cap) (tailL_mod l) hcap1 hcap2 (fun i _ => rfl) (hq.sub fun i x hx => by simp only [List.mem_cons, List.not_mem_nil, or_false] at hx ⊢; rcases hx with rfl | rfl <;> simp) h0)
  (fun i l' a w _ h => assign_one (by decide) (by decide) (by decide) h) ?_ ?_
 ·intro i l' D rr mm hi
  refine A.block ?_
  refine A.reg (by kernel_rfl) (by kernel_rfl) (.inr (by kernel_rfl)) ?_
  refine TD 5 ?_
  refine RS (ok_loadA (s := 1000005) (by decide) Tryd.underlying109 rfl (size109.of (R8.size _)) rfl rfl) ?_
  refine RM rfl ?_
  refine RS (ok_arrayAt Tryd.underlying110 rfl (by decide)) ?_
  refine RS (ok_loadP (s := 1000090) (by decide) Tryd.underlying110 rfl size110 rfl rfl (by have := tailL_mod l; simp; omega) (tailL_block l hi)) ?_
  refine RS (ok_callM (Compress_fn (chain (chain H8 l (l.length / 64)) (tailL l) i) (((tailL l).drop (64 * i)).take 64) (by have := tailL_mod l; simp; omega)) (Sub.cons rfl (Sub.cons rfl KN)) tabs_v (Args.cons rfl LA (Args.cons rfl LA Args.nil))) ?_; refine RZ (aggV ((chain (chain H8 l (l.length / 64)) (tailL l) (i + 1)).list.map u32V)) (rfl) ?_
  refine RN ?_
  refine ⟨_, eff_storeA (n := 42) (s := 1000005) (size109.of (R8.size _)) rfl rfl (all_u32 _) hBb5 rfl (by first | exact (R8.size _).trans (R8.size _).symm | rfl) (LT 1000002 rfl (LT 1000090 rfl (LT 1000091 rfl (LT 1000092 rfl (LeftS.cons (t := 1000098) rfl (Surv.rec rfl) (LeftS.cons (t := 1000099) rfl (Surv.rec rfl) (LeftS.cons (t := 1900001) rfl (Surv.tab (by omega)) (LeftS.cons (t := 1900002) rfl (Surv.tab (by omega)) LN)))))))), ?_⟩
  refine TL ?_
  refine RN ?_
  refine End.normal_block ?_
  exact End.round (KC 1000098 rfl (KC 1000099 rfl (KC 1000002 rfl (KC 1000005 rfl (KC 1000090 rfl (KC 1000091 rfl (KC 1000092 rfl (KC 1900001 rfl (KC 1900002 rfl KN))))))))) (fun x hx => by simp only [List.mem_cons, List.not_mem_nil, or_false] at hx; rcases hx with rfl | rfl | rfl | rfl | rfl | rfl | rfl | rfl | rfl <;> exact vle rfl) (by decide)
 ·intro D hD
  refine End.normal_block ?_
  refine EN ?_
  refine GS ?_
  refine TN 0 ?_
  refine RN ?_
  refine ⟨_, _, eff_alloc (n := 42) (d := 7) (k := 1000007) zero27 (by decide), fun b7 hb7 => ?_⟩
  have hBb7 := hb7.1
  have hlt_b2_b7 : b2 < b7 := hb7.2 1000002 _ _ _ rfl
  refine TL ?_
  refine RN ?_
  refine A.seq ?_
  refine GS ?_
  refine TL ?_
  refine RS (ok_loadA (s := 1000005) (by decide) Tryd.underlying109 rfl (size109.of (R8.size _)) rfl rfl) ?_; refine RZ (aggV ((shaR l).list.map u32V)) (by rw [tailL_sha]) ?_
  refine RM rfl ?_
  refine RN ?_
  refine A.block ?_
  refine A.loop (ι := Nat) (fun i => i ≤ 8) (fun i => [(2, .v (.pointer (some ⟨b2, 0, none⟩))), (7, .v (.pointer (some ⟨b7, 0, none⟩))), (29, .v (aggV ((shaR l).list.map u32V))), (30, .v (.int .i64 ((i : Nat) : Int))), (1000002, blk b2 27 (List.replicate 32 (.int .u8 0))), (1000007, blk b7 27 (tableB ((sha l).take (4 * i)) 32)), (1000099, recD D (.deferred (some [])) 0), (1900001, tab 1 (H8.list.map u32V)), (1900002, tab 2 (K64.map u32V))]) (fun i => 8 - i) 0 ?_ ?_ ?_
  ·exact Nat.zero_le _
  ·exact (KC 2 rfl (KC 7 rfl (KC 29 rfl (KC 30 rfl (KC 1000002 rfl (KE 1000007 rfl (by rw [Nat.mul_zero, List.take_zero, ← tableB_nil]) (KC 1000099 rfl (KC 1900001 rfl (KC 1900002 rfl KN)))))))))
  intro i hi
  refine GS ?_
  refine TL ?_
  refine RB rfl rfl rfl ?_
  refine RN ?_
  refine A.seq ?_
  refine A.cond rfl (fun hc31 => ?_) (fun hc31 => ?_)
  ·have hlt : i < 8 := by simp at hc31; omega
   refine A.skip ?_
   refine EN ?_
   refine A.seq ?_
   refine A.block ?_
   refine GS ?_
   refine TL ?_
   refine RM rfl ?_
   refine RS (ok_indexV1 i Tryd.underlying109 Tryd.underlying68 rfl info68 rfl rfl rfl hlt (map_get32 (by show i < 8; omega))) ?_
   refine RA rfl ?_
   refine RA rfl ?_
   refine RN ?_
   refine A.reg (by kernel_rfl) (by kernel_rfl) (.inr (by kernel_rfl)) ?_
   refine TD 5 ?_
   refine RM rfl ?_
   refine RBS rfl rfl rfl (.int .i64 ((4 * i : Nat) : Int)) (by rw [wrap_i64 (by omega) (by omega)]; first | rfl | (congr 1; omega)) ?_
   refine RS (ok_sliceX (l := 4 * i) (h := 32) (m := 32) Tryd.underlying27 info5 rfl (.inl ⟨_, _, rfl, rfl⟩) (.inr ⟨rfl, rfl, rfl⟩) (.inr ⟨rfl, rfl⟩) (by omega) (by omega) (by omega) (.inl (by omega))) ?_
   refine RM rfl ?_
   refine RS (ok_call (Put32_fn ((((shaR l).list.getD i 0).toNat : Nat) : Int) (Int.natCast_nonneg _) (by have := u32_lt ((shaR l).list.getD i 0); omega)) (A1 rfl)) ?_
   refine RN ?_
   refine ⟨_, eff_copyS (n := 42) (s := 1000007) (l := be 4 ((shaR l).list.getD i 0).toNat) Tryd.underlying91 info5 rfl rfl (le_byt _ _) hBb7 rfl (by rw [tableB_length (by simp [sha_length]; omega)]; omega) (by decide) (LV 2 rfl (LV 7 rfl (LV 29 rfl (LV 30 rfl (LB 1000002 rfl (LeftS.cons (t := 1000099) rfl (Surv.rec rfl) (LeftS.cons (t := 1900001) rfl (Surv.tab (by omega)) (LeftS.cons (t := 1900002) rfl (Surv.tab (by omega)) LN)))))))), ?_⟩
   refine TL ?_
   refine RN ?_
   refine End.sub (KC 2 rfl (KC 7 rfl (KC 29 rfl (KC 30 rfl (KC 1000002 rfl (KE 1000007 rfl (show blk b7 27 _ = blk b7 27 (tableB ((sha l).take (4 * (i + 1))) 32) from congrArg _ (sha_copy l hlt)) (KC 1000099 rfl (KC 1900001 rfl (KC 1900002 rfl KN))))))))) ?_
   refine End.normal_block ?_
   refine EN ?_
   refine GE ?_
   refine TL ?_
   refine RBS rfl rfl rfl (.int .i64 ((i + 1 : Nat) : Int)) (by rw [wrap_i64 (by omega) (by omega)]; first | rfl | (congr 1; omega)) ?_
   refine RM rfl ?_
   refine RN ?_
   refine End.normal_then ?_
   refine End.again (i + 1) ?_ ?_ ?_
   ·show _ ≤ _; omega
   ·show _ - _ < _ - _; omega
   ·exact (KC 2 rfl (KC 7 rfl (KC 29 rfl (KC 30 rfl (KC 1000002 rfl (KC 1000007 rfl (KC 1000099 rfl (KC 1900001 rfl (KC 1900002 rfl KN)))))))))
  ·obtain rfl : i = 8 := by simp at hc31; omega
   refine A.exit ?_
   refine End.exit_then ?_
   refine End.exit_then ?_
   refine End.exit_here ?_
   refine EN ?_
   refine GS ?_
   refine TF 1 ?_
   refine RS (ok_loadA (s := 1000007) (by decide) Tryd.underlying27 rfl (size27.of (by rw [tableB_length (by simp [sha_length])])) rfl rfl) ?_; refine RZ (aggV ((sha l).map byteV)) (by rw [tableB_full (by simp [sha_length]), List.take_of_length_le (by rw [sha_length]; decide)]) ?_
   refine RN ?_
   refine ⟨_, eff_storeA (n := 42) (s := 1000002) (size27.of (by rw [List.length_map, sha_length])) rfl rfl (all_bytes _) hBb2 rfl (by rw [List.length_map, sha_length, List.length_replicate]) (LV 2 rfl (LB 1000007 rfl (LeftS.cons (t := 1000099) rfl (Surv.rec rfl) (LeftS.cons (t := 1900001) rfl (Surv.tab (by omega)) (LeftS.cons (t := 1900002) rfl (Surv.tab (by omega)) LN))))), ?_⟩
   refine TL ?_
   refine RN ?_
   refine A.ret ?_
   exact End.cell1C (D := D) (vD := 1000099) rfl hD rfl Tryd.underlying27 rfl (size27.of (by rw [List.length_map, sha_length])) rfl (s := 1000002) rfl (fun _ => rfl)
end Go.Proofs.YtfjpipkcfbmdeaaDoor
namespace Go.Proofs.YtfjpipkcfbmdeaaDoor
open Go Go.RowKit
set_option linter.unusedVariables false
set_option maxRecDepth 20000

set_option maxHeartbeats 400000 in
theorem Of_fn (ps : List (List UInt8)) (l : List UInt8) (hl : ps.flatten = l) (hps : ps.length ≤ 1000000) (htot : l.length ≤ 1000000) : FnM Tryd.prog 38 tabs [lst (ps.map byt)] (.v (aggV ((sha l).map byteV))) := by
 subst hl
 refine FnM.of Tryd.func38 rfl (by kernel_rfl) Tryd.ntmps38 (by simp) (by decide) (fun w => [(0, old w.heap.size (lst (ps.map byt))), (1900001, tab 1 (H8.list.map u32V)), (1900002, tab 2 (K64.map u32V))]) (fun w => (StartM.old rfl (StartM.m (by simp [tabs]) (by decide) (StartM.m (by simp [tabs]) (by decide) StartM.nil)))) fun w₀ hM => ?_
 have htab := tabs_hi hM
 refine GS ?_
 refine TN 0 ?_
 refine RN ?_
 refine ⟨_, _, eff_alloc (n := 19) (d := 2) (k := 1000002) zero27 (by decide), fun b2 hb2 => ?_⟩
 have hBb2 := hb2.1
 refine TL ?_
 refine RN ?_
 refine GS ?_
 refine TN 1 ?_
 refine RS (ok_call New_fn Args.nil) ?_
 refine RN ?_
 refine ⟨_, _, eff_alloc (n := 19) (d := 3) (k := 1000003) zero112 (by decide), fun b3 hb3 => ?_⟩
 have hBb3 := hb3.1
 refine TF 2 ?_
 refine RN ?_
 refine ⟨_, eff_storeA (n := 19) (s := 1000003) (size112.of (stL_length _)) rfl rfl (stL_ones _) hBb3 rfl (by first | exact (stL_length _).trans (stL_length _).symm | exact (stL_length _).symm) (LO 0 rfl (LV 2 rfl (LV 3 rfl (LT 1000002 rfl (LeftS.cons (t := 1900001) rfl (Surv.tab (by omega)) (LeftS.cons (t := 1900002) rfl (Surv.tab (by omega)) LN)))))), ?_⟩
 refine TL ?_
 refine RN ?_
 refine A.seq ?_
 refine GS ?_
 refine TL ?_
 refine RM rfl ?_
 refine RS (ok_len Tryd.underlying108 rfl LA) ?_; refine RZ (.int .i64 (ps.length : Int)) (by simp) ?_
 refine RM rfl ?_
 refine RN ?_
 refine A.block ?_
 refine A.loop (ι := Nat) (fun i => i ≤ ps.length) (fun i => [(2, .v (.pointer (some ⟨b2, 0, none⟩))), (3, .v (.pointer (some ⟨b3, 0, none⟩))), (7, old w₀.heap.size (lst (ps.map byt))), (8, .v (.int .i64 (ps.length : Int))), (9, .v (.int .i64 (i : Int))), (1000002, blk b2 27 (List.replicate 32 (.int .u8 0))), (1000003, blk b3 112 (stL ((ps.take i).flatten))), (1900001, tab 1 (H8.list.map u32V)), (1900002, tab 2 (K64.map u32V))]) (fun i => ps.length - i) 0 ?_ ?_ ?_
 ·exact Nat.zero_le _
 ·exact (KC 2 rfl (KC 3 rfl (KC 7 rfl (KC 8 rfl (KC 9 rfl (KC 1000002 rfl (KC 1000003 rfl (KC 1900001 rfl (KC 1900002 rfl KN)))))))))
 intro i hi
 refine GS ?_
 refine TL ?_
 refine RB rfl rfl rfl ?_
 refine RN ?_
 refine A.seq ?_
 refine A.cond rfl (fun hc10 => ?_) (fun hc10 => ?_)
 ·have hlt : i < ps.length := by simpa using hc10
  have hget : ps[i]? = some ps[i] := List.getElem?_eq_getElem hlt
  have hT := flatten_take_le ps (i + 1)
  rw [flatten_take_succ hget, List.length_append] at hT
  refine A.skip ?_
  refine EN ?_
  refine A.seq ?_
  refine A.block ?_
  refine GS ?_
  refine TL ?_
  refine RS (ok_index (d := byt ps[i]) Tryd.underlying108 info91 rfl LA rfl (by omega) (by simp [hlt])) ?_
  refine RS (ok_load Tryd.underlying91 rfl rfl) ?_
  refine RA rfl ?_
  refine RN ?_
  refine GE ?_
  refine TF 3 ?_
  refine RS (ok_loadA (s := 1000003) (by decide) Tryd.underlying112 rfl (size112.of (stL_length _)) rfl rfl) ?_
  refine RM rfl ?_
  refine RS (ok_callM (Write_fn ((ps.take i).flatten) ps[i] (by omega)) (Sub.cons rfl (Sub.cons rfl KN)) tabs_v (Args.cons rfl LA (Args.cons rfl LA Args.nil))) ?_; refine RZ (aggV (stL ((ps.take (i + 1)).flatten))) (by rw [flatten_take_succ hget]; rfl) ?_
  refine RN ?_
  refine ⟨_, eff_storeA (n := 19) (s := 1000003) (size112.of (stL_length _)) rfl rfl (stL_ones _) hBb3 rfl (by first | exact (stL_length _).trans (stL_length _).symm | exact (stL_length _).symm) (LV 2 rfl (LV 3 rfl (LO 7 rfl (LV 8 rfl (LV 9 rfl (LT 1000002 rfl (LeftS.cons (t := 1900001) rfl (Surv.tab (by omega)) (LeftS.cons (t := 1900002) rfl (Surv.tab (by omega)) LN)))))))), ?_⟩
  refine TL ?_
  refine RN ?_
  refine End.normal_block ?_
  refine EN ?_
  refine GE ?_
  refine TL ?_
  refine RBS rfl rfl rfl (.int .i64 ((i + 1 : Nat) : Int)) (by rw [wrap_i64 (by omega) (by omega)]; first | rfl | (congr 1; omega)) ?_
  refine RM rfl ?_
  refine RN ?_
  refine End.normal_then ?_
  refine End.again (i + 1) ?_ ?_ ?_
  ·show _ ≤ _; omega
  ·show _ - _ < _ - _; omega
  ·exact (KC 2 rfl (KC 3 rfl (KC 7 rfl (KC 8 rfl (KC 9 rfl (KC 1000002 rfl (KC 1000003 rfl (KC 1900001 rfl (KC 1900002 rfl KN)))))))))
 ·have hi2 : i = ps.length := by simp at hc10; omega
  subst hi2
  refine A.exit ?_
  refine End.exit_then ?_
  refine End.exit_then ?_
  refine End.exit_here ?_
  refine EN ?_
  refine GS ?_
  refine TF 2 ?_
  refine RS (ok_loadA (s := 1000003) (by decide) Tryd.underlying112 rfl (size112.of (stL_length _)) rfl rfl) ?_; refine RZ (stV ps.flatten) (by rw [List.take_length]; rfl) ?_
  refine RS (ok_callM (Sum_fn ps.flatten htot) (Sub.cons rfl (Sub.cons rfl KN)) tabs_v (Args.cons rfl LA Args.nil)) ?_
  refine RN ?_
  refine ⟨_, eff_storeA (n := 19) (s := 1000002) (size27.of (by rw [List.length_map, sha_length])) rfl rfl (all_bytes _) hBb2 rfl (by rw [List.length_map, sha_length, List.length_replicate]) (LV 2 rfl (LT 1000003 rfl (LeftS.cons (t := 1900001) rfl (Surv.tab (by omega)) (LeftS.cons (t := 1900002) rfl (Surv.tab (by omega)) LN)))), ?_⟩
  refine TL ?_
  refine RN ?_
  refine A.ret ?_
  exact End.cell1 (s := 1000002) rfl Tryd.underlying27 rfl (size27.of (by rw [List.length_map, sha_length])) rfl rfl (Le.refl _)
end Go.Proofs.YtfjpipkcfbmdeaaDoor
namespace Go.Proofs.YtfjpipkcfbmdeaaDoor
open Go Go.RowKit
set_option linter.unusedVariables false
set_option maxRecDepth 20000
set_option linter.unusedSimpArgs false
/-! Parts of bytes. -/
def EntT.of (l : List UInt8) : EntT := ⟨pX l, pD l⟩
def EntT.any (l : List UInt8) : EntT := if (EntT.of l).ck = 0 then EntT.of l else EntT.zero
/-! The node of bytes. -/
def szN (l : List UInt8) : Int := if l.length = 0 then 6 else if 5 < (pX l).toNat then 1 else if l.length < NodT.sz (pX l).toNat then 6 else if NodT.sz (pX l).toNat < l.length then 5 else 0
theorem szN_ok {l : List UInt8} (h : szN l = 0) : 0 < l.length ∧ (pX l).toNat ≤ 5 ∧ l.length = NodT.sz (pX l).toNat := by
 unfold szN at h
 split at h
 ·cases h
 ·split at h
  ·cases h
  ·split at h
   ·cases h
   ·split at h
    ·cases h
    ·omega
theorem lenR {l : List UInt8} (h : szN l = 0) (h0 : (pX l).toNat = 0) : l.length = 185 ∧ (l.drop 5).length = 4 * 45 := by
 have h1 := (szN_ok h).2.2
 rw [h0] at h1
 refine ⟨h1, ?_⟩
 rw [List.length_drop, h1]; rfl
theorem lenE {l : List UInt8} (h : szN l = 0) (h0 : ¬ (pX l).toNat = 0) : l.length = 137 ∧ (l.drop 5).length = 4 * 33 := by
 have h1 := (szN_ok h).2.2
 unfold NodT.sz at h1
 rw [if_neg h0] at h1
 refine ⟨h1, ?_⟩
 rw [List.length_drop, h1]
theorem zr_get {i : Nat} : (zerosR.getD i RecT.zero) = RecT.zero := by
 unfold zerosR
 rw [List.getD_eq_getElem?_getD, List.getElem?_replicate]; split <;> rfl
theorem ze_get {i : Nat} : (zerosE.getD i EntT.zero) = EntT.zero := by
 unfold zerosE
 rw [List.getD_eq_getElem?_getD, List.getElem?_replicate]; split <;> rfl
/-! A node out of its own bytes. -/
/-! Whether a node fits. -/
/-! Parts that are replaced. -/
/-! How many are used. -/
theorem buildX0 (a : UInt8) : Tryd.prog.built 78 [(0, byteV a)] = some (NodT.emp a 0).v.toArray := by kernel_rfl
theorem buildX (a : UInt8) (j : Nat) : Tryd.prog.built 78 [(0, byteV a), (1, .int .u32 (j : Int))] = some (NodT.emp a j).v.toArray := by kernel_rfl

abbrev tabN : Env := (1900000, tab 0 sizV) :: tabs
theorem tabN_v : ∀ p ∈ tabN, vbase ≤ p.1 := fun p hp => (List.mem_cons.1 hp).elim (fun h => by subst h; decide) (tabs_v p)
theorem tabN_hi {w : World} (h : ∀ p ∈ tabN, p.2.Of w undef) : 2 < w.heap.size := tabs_hi fun p hp => h p (List.mem_cons_of_mem _ hp)
end Go.Proofs.YtfjpipkcfbmdeaaDoor
namespace Go.Proofs.YtfjpipkcfbmdeaaDoor
open Go Go.RowKit
set_option linter.unusedVariables false
set_option maxRecDepth 20000
set_option linter.unusedSimpArgs false

theorem nDigest_ok (x : NodT) (hx : x.Fit) (hk : x.ck = 0) : FnM Tryd.prog 26 tabN [.v (aggV x.v)] (.v (.tuple #[aggV ((sha x.bl).map byteV), .int .i64 0])) := by
 refine FnM.of Tryd.func26 rfl (by kernel_rfl) Tryd.ntmps26 (by simp) (by decide) (fun w => [(0, .v (aggV x.v)), (1900000, tab 0 (sizV)), (1900001, tab 1 (H8.list.map u32V)), (1900002, tab 2 (K64.map u32V))]) (fun w => (StartM.v rfl (StartM.m (by simp [tabN]) (by decide) (StartM.m (by simp [tabN]) (by decide) (StartM.m (by simp [tabN]) (by decide) StartM.nil))))) fun w₀ hM => ?_
 have htab := tabN_hi hM
 refine GS ?_
 refine TN 0 ?_
 refine RN ?_
 refine ⟨_, _, eff_box (n := 18) (d := 1) (k := 1000001) rfl (by decide), fun b1 hb1 => ?_⟩
 have hBb1 := hb1.1
 refine TN 1 ?_
 refine RN ?_
 refine ⟨_, _, eff_alloc (n := 18) (d := 2) (k := 1000002) zero27 (by decide), fun b2 hb2 => ?_⟩
 have hBb2 := hb2.1
 refine TL ?_
 refine RA rfl ?_
 refine RN ?_
 refine GS ?_
 refine TL ?_
 refine RS (ok_loadA (s := 1000001) (by decide) Tryd.underlying78 rfl (size78.of (hx.len)) rfl rfl) ?_
 refine RS (ok_callM (nPut_ok x hx hk) (Sub.cons rfl KN) tabS_v (A1 rfl)) ?_
 refine RM rfl ?_
 refine RS (ok_extract rfl rfl) ?_
 refine RS (ok_extract rfl rfl) ?_
 refine RA rfl ?_
 refine RA rfl ?_
 refine RN ?_
 refine A.seq ?_
 refine GS ?_
 refine TL ?_
 refine RM rfl ?_
 refine RBS rfl rfl rfl (.bool false) (by first | rfl | (simp; done) | (simp; omega) | (simp [*]; done) | (simp [*]; omega)) ?_
 refine RN ?_
 refine A.no rfl ?_
 refine A.skip ?_
 refine EN ?_
 refine GS ?_
 refine TF 3 ?_
 refine RM rfl ?_
 refine RS (ok_build [bytes x.bl (NodT.sz x.l.toNat)] Tryd.underlying108 info91 rfl (by decide) (by decide) rfl ⟨rfl, rfl, trivial⟩ (fun d hd w x h => by simp only [List.mem_cons, List.not_mem_nil, or_false] at hd; subst hd; exact list_one h)) ?_
 refine RS (ok_callM (Of_fn [x.bl] x.bl (by simp) (Nat.le_of_ble_eq_true rfl) (by rw [hx.bl_length]; have := sz_le x.l.toNat; omega)) (Sub.cons rfl (Sub.cons rfl KN)) tabs_v (Args.cons rfl (list_lst1 (le_byt _ _)) Args.nil)) ?_
 refine RN ?_
 refine ⟨_, eff_storeA (n := 18) (s := 1000002) (size27.of (by rw [List.length_map, sha_length])) rfl rfl (all_bytes _) hBb2 rfl (by rw [List.length_map, sha_length]; rfl) (LV 2 rfl (LT 1000001 rfl (LeftS.cons (t := 1900000) rfl (Surv.tab (by omega)) (LeftS.cons (t := 1900001) rfl (Surv.tab (by omega)) (LeftS.cons (t := 1900002) rfl (Surv.tab (by omega)) LN))))), ?_⟩
 refine TL ?_
 refine RA rfl ?_
 refine RN ?_
 refine A.ret ?_
 exact End.cellV (s := 1000002) rfl Tryd.underlying27 rfl (size27.of (by rw [List.length_map, sha_length])) rfl rfl rfl
theorem nEmpty_fn (a : UInt8) (j : Nat) (hj : j < 4294967296) : Fn Tryd.prog 27 [.v (byteV a), .v (.int .u32 (j : Int))] (.v (aggV (NodT.emp a j).v)) := by
 refine Fn.of Tryd.func27 rfl (by kernel_rfl) Tryd.ntmps27 (by simp) (fun w => [(0, .v (byteV a)), (1, .v (.int .u32 (j : Int)))]) (fun w => (Start.v rfl (Start.v rfl Start.nil))) fun w₀ => ?_
 refine GS ?_
 refine TN 0 ?_
 refine RN ?_
 refine ⟨_, _, eff_alloc (n := 8) (d := 4) (k := 1000004) zero78 (by decide), fun b4 hb4 => ?_⟩
 have hBb4 := hb4.1
 refine TL ?_
 refine RN ?_
 refine GS ?_
 refine TF 3 ?_
 refine RM rfl ?_
 refine RM rfl ?_
 refine RS (ok_litS [(0, byteV a), (1, .int .u32 (j : Int))] (NodT.emp a j).v ⟨rfl, rfl, rfl, rfl, trivial⟩ (buildX _ _)) ?_
 refine RN ?_
 refine ⟨_, eff_storeA (n := 8) (s := 1000004) (size78.of ((NodT.emp_fit a hj).len)) rfl rfl (by first | exact NodT.one _ | exact RecT.one _ | exact EntT.one _ | exact RecT.all1 _ | exact EntT.all1 _ | exact all_byte _ | exact all_bytes _) hBb4 rfl (by first | rfl | (rw [(NodT.emp_fit a hj).len]; rfl)) (LV 4 rfl LN), ?_⟩
 refine TL ?_
 refine RN ?_
 refine A.ret ?_
 exact End.cell1 (s := 1000004) rfl Tryd.underlying78 rfl (size78.of ((NodT.emp_fit a hj).len)) rfl rfl (Le.refl _)
end Go.Proofs.YtfjpipkcfbmdeaaDoor
namespace Go.Proofs.YtfjpipkcfbmdeaaDoor
open Go Go.RowKit Go.ChangeShapes Go.WideShapes Go.ChangeAt
theorem own' : ownKnob Tryd.prog.godebug = none := by kernel_rfl
theorem laidOut' : laidOutB Tryd.prog = true := by kernel_rfl
abbrev LAID : List (String × DataW Unit) := [("caisson/digests.constants", Rows.laid_caisson_digests_constants), ("caisson/digests.initial", Rows.laid_caisson_digests_initial), ("caisson/nodes.sizes", Rows.laid_caisson_nodes_sizes)]
theorem door_met (os : Os) (args : Array Value) : laidMetH Tryd.prog LAID ((World.doorLaid Tryd.prog 400 os).forCall (fun _ _ => 0) ⟨#[], args, []⟩).memory :=
  laidMetH_of_parts3 (fuel := 8) (laidMet_of_run' 8 (by kernel_rfl) (by kernel_rfl)) (by kernel_rfl) (by kernel_rfl)
theorem tabs_of_laid {W : World} (h : laidMetH Tryd.prog LAID W) : ∀ p ∈ tabN, p.2.Of W undef := by
  rw [MakeChecks.laidMetH_plain _ _ _ (by kernel_rfl)] at h
  obtain ⟨ps, hl, _, hr⟩ := h
  have hr' := fun b off hp => (hr b off hp).1
  intro p hp
  simp only [tabN, tabs, List.mem_cons, List.not_mem_nil, or_false] at hp
  rcases hp with rfl | rfl | rfl
  · have := tab_of_laid hl hr' (nm := "caisson/nodes.sizes") (d := Rows.laid_caisson_nodes_sizes) (by simp [LAID]) (g := 0) (by kernel_rfl) (T := 100) (by kernel_rfl) Tryd.underlying100 Tryd.underlying3 (by kernel_rfl) (by kernel_rfl) (by decide) (ns := [185, 137, 137, 137, 137, 137]) (by kernel_rfl)
    exact this
  · have := tab_of_laid hl hr' (nm := "caisson/digests.initial") (d := Rows.laid_caisson_digests_initial) (by simp [LAID]) (g := 1) (by kernel_rfl) (T := 109) (by kernel_rfl) Tryd.underlying109 Tryd.underlying68 (by kernel_rfl) (by kernel_rfl) (by decide) (ns := (H8.list).map fun x => (x.toNat : Int)) (by kernel_rfl)
    rw [List.map_map] at this
    exact this
  · have := tab_of_laid hl hr' (nm := "caisson/digests.constants") (d := Rows.laid_caisson_digests_constants) (by simp [LAID]) (g := 2) (by kernel_rfl) (T := 116) (by kernel_rfl) Tryd.underlying116 Tryd.underlying68 (by kernel_rfl) (by kernel_rfl) (by decide) (ns := (K64).map fun x => (x.toNat : Int)) (by kernel_rfl)
    rw [List.map_map] at this
    exact this
end Go.Proofs.YtfjpipkcfbmdeaaDoor
namespace Go.Proofs.YtfjpipkcfbmdeaaDoor
open Go Go.RowKit
set_option linter.unusedVariables false
set_option maxRecDepth 20000
/-- The number of blocks that a law is about. -/
def nn (k : Nat) : Nat := 1 + k % 4096
theorem nn1 (k : Nat) : 1 ≤ nn k := Nat.le_add_right _ _
theorem nn2 (k : Nat) : nn k ≤ 4096 := by unfold nn; omega
theorem un_one {n h : Nat} (hh : h ≤ hg n) (h0 : un n (h + 1) = 1) : h = hg n := by
 rcases Nat.lt_or_ge h (hg n) with h1 | h1
 ·have := un_big (n := n) (k := h + 1) (by omega) (by omega)
  omega
 ·omega
theorem NOf_fn (k : Nat) (hk : k < 65536) : Fn Tryd.prog 9 [.v (aggV [.int .u16 (k : Int)])] (.v (nI (nn k))) := by
 refine Fn.of Tryd.func9 rfl (by kernel_rfl) Tryd.ntmps9 (by simp) (fun w => [(0, .v (aggV [.int .u16 (k : Int)]))]) (fun w => (Start.v rfl Start.nil)) fun w₀ => ?_
 refine GS ?_
 refine TN 0 ?_
 refine RN ?_
 refine ⟨_, _, eff_box (n := 8) (d := 1) (k := 1000001) rfl (by decide), fun b1 hb1 => ?_⟩
 have hBb1 := hb1.1
 refine TL ?_
 refine RA rfl ?_
 refine RN ?_
 refine GS ?_
 refine TL ?_
 refine RS (ok_field field24_0 (by decide) rfl) ?_
 refine RS (ok_loadV (s := 1000001) (by decide) Tryd.underlying22 rfl rfl rfl (rfl)) ?_
 refine RS (ok_conv Tryd.underlying22 Tryd.underlying3 rfl) ?_; refine RZ (nI (k)) (wrap_eq (by omega) (by omega)) ?_
 refine RS (ok_rem rfl rfl (by decide)) ?_; refine RZ (nI (k % 4096)) (by rw [tmod_lit _ (by decide)]; rfl) ?_
 refine RBS rfl rfl rfl (nI (nn k)) (wrap_eq (by unfold nn; omega) (by have := nn2 k; omega)) ?_
 refine RA rfl ?_
 refine RN ?_
 refine A.ret ?_
 exact End.ret1 rfl rfl (by first | exact Le.refl _ | exact Le.old _ _)
theorem rCount_fn (n : Nat) (h1 : 1 ≤ n) (h2 : n ≤ 4096) (l : Nat) (hl : l ≤ hg n) : Fn Tryd.prog 29 [.v (nI (n)), .v (nI (l))] (.v (nI (un n (l + 1)))) := by
 have hh := hg_le n
 refine Fn.of Tryd.func29 rfl (by kernel_rfl) Tryd.ntmps29 (by simp) (fun w => [(0, .v (nI (n))), (1, .v (nI (l)))]) (fun w => (Start.v rfl (Start.v rfl Start.nil))) fun w₀ => ?_
 refine GS ?_
 refine TL ?_
 refine RA rfl ?_
 refine RN ?_
 refine GS ?_
 refine TL ?_
 refine RM rfl ?_
 refine RA rfl ?_
 refine RN ?_
 refine A.seq ?_
 refine GS ?_
 refine TL ?_
 refine RA rfl ?_
 refine RN ?_
 refine A.block ?_
 refine A.loop (ι := Nat) (fun i => i ≤ l + 1) (fun i => [(0, .v (nI (n))), (1, .v (nI (l))), (5, .v (nI (un n i))), (6, .v (nI (i)))]) (fun i => l + 1 - i) 0 ?_ ?_ ?_
 ·exact Nat.zero_le _
 ·exact (KC 0 rfl (KC 1 rfl (KC 5 rfl (KC 6 rfl KN))))
 intro i hi
 have hu0 := un_le h1 (i)
 have hv0 := un_pos h1 (i)
 have hu1 := un_le h1 (i + 1)
 have hv1 := un_pos h1 (i + 1)
 refine A.seq ?_
 refine GS ?_
 refine TL ?_
 refine RM rfl ?_
 refine RM rfl ?_
 refine RB rfl rfl rfl ?_
 refine RN ?_
 refine A.cond rfl (fun hc10 => ?_) (fun hc10 => ?_)
 ·have hlt : i ≤ l := by simp at hc10; omega
  refine A.skip ?_
  refine EN ?_
  refine A.seq ?_
  refine A.block ?_
  refine A.seq ?_
  by_cases hi0 : 0 < i
  ·refine GS ?_
   refine TL ?_
   refine RM rfl ?_
   refine RBS rfl rfl rfl (.bool true) (by first | rfl | (simp; done) | (simp; omega) | (simp [*]; done) | (simp [*]; omega)) ?_
   refine RM rfl ?_
   refine RQ (ok_move rfl) ?_
   refine RQ (ok_bin rfl rfl rfl) ?_; refine RZ (.bool false) (by have := un_big (n := n) (k := i) (by omega) (by omega); simp; omega) ?_
   refine RP rfl rfl ?_
   refine RN ?_
   refine A.no rfl ?_
   refine A.skip ?_
   refine EN ?_
   refine GE ?_
   refine TL ?_
   refine RM rfl ?_
   refine RBS rfl rfl rfl (nI (un n i + 3)) (wrap_eq (by omega) (by omega)) ?_
   refine RS (ok_div rfl rfl (by decide)) ?_; refine RZ (nI (un n (i + 1))) (by rw [tdiv_lit _ (by decide)]; exact wrap_eq rfl (by omega)) ?_
   refine RA rfl ?_
   refine RN ?_
   refine End.normal_block ?_
   refine EN ?_
   refine GE ?_
   refine TL ?_
   refine RM rfl ?_
   refine RBS rfl rfl rfl (nI (i + 1)) (wrap_eq (by omega) (by omega)) ?_
   refine RA rfl ?_
   refine RN ?_
   refine End.normal_then ?_
   refine End.again (i + 1) ?_ ?_ ?_
   ·show _ ≤ _; omega
   ·show _ - _ < _ - _; omega
   ·exact (KC 0 rfl (KC 1 rfl (KC 5 rfl (KC 6 rfl KN))))
  ·refine GS ?_
   refine TL ?_
   refine RM rfl ?_
   refine RBS rfl rfl rfl (.bool false) (by first | rfl | (simp; done) | (simp; omega) | (simp [*]; done) | (simp [*]; omega)) ?_
   refine RM rfl ?_
   refine RK ?_
   refine RK ?_
   refine RP rfl rfl ?_
   refine RN ?_
   refine A.no rfl ?_
   refine A.skip ?_
   refine EN ?_
   refine GE ?_
   refine TL ?_
   refine RM rfl ?_
   refine RBS rfl rfl rfl (nI (un n i + 3)) (wrap_eq (by omega) (by omega)) ?_
   refine RS (ok_div rfl rfl (by decide)) ?_; refine RZ (nI (un n (i + 1))) (by rw [tdiv_lit _ (by decide)]; exact wrap_eq rfl (by omega)) ?_
   refine RA rfl ?_
   refine RN ?_
   refine End.normal_block ?_
   refine EN ?_
   refine GE ?_
   refine TL ?_
   refine RM rfl ?_
   refine RBS rfl rfl rfl (nI (i + 1)) (wrap_eq (by omega) (by omega)) ?_
   refine RA rfl ?_
   refine RN ?_
   refine End.normal_then ?_
   refine End.again (i + 1) ?_ ?_ ?_
   ·show _ ≤ _; omega
   ·show _ - _ < _ - _; omega
   ·exact (KC 0 rfl (KC 1 rfl (KC 5 rfl (KC 6 rfl KN))))
 ·have hie : i = l + 1 := by simp at hc10; omega
  refine A.exit ?_
  refine End.exit_then ?_
  refine End.exit_then ?_
  refine End.exit_here ?_
  refine EN ?_
  refine GS ?_
  refine TL ?_
  refine RM rfl ?_; refine RZ (nI (un n (l + 1))) (by rw [hie]) ?_
  refine RA rfl ?_
  refine RN ?_
  refine A.ret ?_
  exact End.ret1 rfl rfl (by first | exact Le.refl _ | exact Le.old _ _)
theorem rHeight_fn (n : Nat) (h1 : 1 ≤ n) (h2 : n ≤ 4096)  : Fn Tryd.prog 13 [.v (nI (n))] (.v (nI (hg n))) := by
 have hh := hg_le n
 refine Fn.of Tryd.func13 rfl (by kernel_rfl) Tryd.ntmps13 (by simp) (fun w => [(0, .v (nI (n)))]) (fun w => (Start.v rfl Start.nil)) fun w₀ => ?_
 refine GS ?_
 refine TL ?_
 refine RA rfl ?_
 refine RN ?_
 refine GS ?_
 refine TL ?_
 refine RA rfl ?_
 refine RN ?_
 refine A.seq ?_
 refine A.block ?_
 refine A.loop (ι := Nat) (fun h => h ≤ hg n) (fun h => [(0, .v (nI (n))), (3, .v (nI (h)))]) (fun h => hg n - h) 0 ?_ ?_ ?_
 ·exact Nat.zero_le _
 ·exact (KC 0 rfl (KC 3 rfl KN))
 intro h hle
 refine A.seq ?_
 refine GS ?_
 refine TL ?_
 refine RM rfl ?_
 refine RM rfl ?_
 refine RS (ok_call (rCount_fn n h1 h2 h hle) (A2 rfl rfl)) ?_
 refine RB rfl rfl rfl ?_
 refine RN ?_
 refine A.cond rfl (fun hc7 => ?_) (fun hc7 => ?_)
 ·have hlt : h < hg n := by
   have h3 := un_root h1 h2
   have h4 : un n (h + 1) ≠ 1 := by simp at hc7; omega
   rcases Nat.lt_or_ge h (hg n) with h5 | h5
   ·exact h5
   ·obtain rfl : h = hg n := by omega
    exact absurd h3 h4
  refine A.skip ?_
  refine EN ?_
  refine A.block ?_
  refine GE ?_
  refine TL ?_
  refine RM rfl ?_
  refine RBS rfl rfl rfl (nI (h + 1)) (wrap_eq (by omega) (by omega)) ?_
  refine RA rfl ?_
  refine RN ?_
  refine End.normal_block ?_
  refine End.normal_then ?_
  refine End.again (h + 1) ?_ ?_ ?_
  ·show _ ≤ _; omega
  ·show _ - _ < _ - _; omega
  ·exact (KC 0 rfl (KC 3 rfl KN))
 ·have hie : h = hg n := un_one hle (by simp at hc7; omega)
  refine A.exit ?_
  refine End.exit_then ?_
  refine End.exit_then ?_
  refine End.exit_here ?_
  refine EN ?_
  refine GS ?_
  refine TL ?_
  refine RM rfl ?_; refine RZ (nI (hg n)) (by rw [hie]) ?_
  refine RA rfl ?_
  refine RN ?_
  refine A.ret ?_
  exact End.ret1 rfl rfl (by first | exact Le.refl _ | exact Le.old _ _)
end Go.Proofs.YtfjpipkcfbmdeaaDoor
namespace Go.Proofs.YtfjpipkcfbmdeaaDoor
open Go Go.RowKit
set_option linter.unusedVariables false
set_option maxRecDepth 20000
set_option linter.unusedSimpArgs false
theorem be4 (v : Nat) : be 4 v = [UInt8.ofNat (v / 16777216), UInt8.ofNat (v / 65536), UInt8.ofNat (v / 256), UInt8.ofNat v] := by simp [be, List.range, List.range.loop]
theorem add_u8 (s : UInt8) (n : Nat) : Value.int .u8 (IntKind.u8.wrap (((s.toNat : Nat) : Int) + (((UInt8.ofNat n).toNat : Nat) : Int))) = byteV (UInt8.ofNat (s.toNat + n)) := by
 rw [← Int.natCast_add, wrap_u8_nat, byteV]
 congr 3
 apply UInt8.toNat_inj.1
 rw [UInt8.toNat_ofNat', UInt8.toNat_ofNat', UInt8.toNat_ofNat', Nat.add_mod_mod]
section
variable {P : Program} {n : Nat} {w₀ : World} {E : Env}
end
set_option maxHeartbeats 2000000 in
theorem rBytes_R (x : NodT) (hx : x.Fit) (h0 : x.l.toNat = 0) : Fn Tryd.prog 40 [.v (aggV x.v)] (byt x.bl) := by
 refine Fn.of Tryd.func40 rfl (by kernel_rfl) Tryd.ntmps40 (by simp) (fun w => [(0, .v (aggV x.v))]) (fun w => (Start.v rfl Start.nil)) fun w₀ => ?_
 refine GS ?_
 refine TN 0 ?_
 refine RN ?_
 refine ⟨_, _, eff_box (n := 45) (d := 1) (k := 1000001) rfl (by decide), fun b1 hb1 => ?_⟩
 have hBb1 := hb1.1
 refine TL ?_
 refine RA rfl ?_
 refine RN ?_
 refine GS ?_
 refine TL ?_
 refine RS (ok_field field78_0 (by decide) rfl) ?_
 refine RS (ok_loadV (s := 1000001) (by decide) Tryd.underlying5 rfl rfl rfl (rfl)) ?_
 refine RS (ok_field field78_1 (by decide) rfl) ?_
 refine RS (ok_loadV (s := 1000001) (by decide) Tryd.underlying68 rfl rfl rfl (rfl)) ?_
 refine RS (ok_shr rfl rfl (by decide)) ?_; refine RZ (nW (x.j / 16777216)) (by rw [show min (24 : Int).toNat IntKind.u32.bits = 24 from rfl, shr_nat]) ?_
 refine RS (ok_conv Tryd.underlying68 Tryd.underlying5 rfl) ?_; refine RZ (byteV (UInt8.ofNat (x.j / 16777216))) (by rw [wrap_u8_nat]; rfl) ?_
 refine RS (ok_field field78_1 (by decide) rfl) ?_
 refine RS (ok_loadV (s := 1000001) (by decide) Tryd.underlying68 rfl rfl rfl (rfl)) ?_
 refine RS (ok_shr rfl rfl (by decide)) ?_; refine RZ (nW (x.j / 65536)) (by rw [show min (16 : Int).toNat IntKind.u32.bits = 16 from rfl, shr_nat]) ?_
 refine RS (ok_conv Tryd.underlying68 Tryd.underlying5 rfl) ?_; refine RZ (byteV (UInt8.ofNat (x.j / 65536))) (by rw [wrap_u8_nat]; rfl) ?_
 refine RS (ok_field field78_1 (by decide) rfl) ?_
 refine RS (ok_loadV (s := 1000001) (by decide) Tryd.underlying68 rfl rfl rfl (rfl)) ?_
 refine RS (ok_shr rfl rfl (by decide)) ?_; refine RZ (nW (x.j / 256)) (by rw [show min (8 : Int).toNat IntKind.u32.bits = 8 from rfl, shr_nat]) ?_
 refine RS (ok_conv Tryd.underlying68 Tryd.underlying5 rfl) ?_; refine RZ (byteV (UInt8.ofNat (x.j / 256))) (by rw [wrap_u8_nat]; rfl) ?_
 refine RS (ok_field field78_1 (by decide) rfl) ?_
 refine RS (ok_loadV (s := 1000001) (by decide) Tryd.underlying68 rfl rfl rfl (rfl)) ?_
 refine RS (ok_conv Tryd.underlying68 Tryd.underlying5 rfl) ?_; refine RZ (byteV (UInt8.ofNat (x.j))) (by rw [wrap_u8_nat]; rfl) ?_
 refine RS (ok_buildOwn [byteV x.l, byteV (UInt8.ofNat (x.j / 16777216)), byteV (UInt8.ofNat (x.j / 65536)), byteV (UInt8.ofNat (x.j / 256)), byteV (UInt8.ofNat x.j)] Tryd.underlying91 info5 rfl (by decide) (by decide) rfl ⟨rfl, rfl, rfl, rfl, rfl, rfl, rfl, rfl, rfl, rfl, trivial⟩ (fun d hd => by simp only [List.mem_cons, List.not_mem_nil, or_false] at hd; rcases hd with rfl | rfl | rfl | rfl | rfl <;> rfl)) ?_
 refine RA rfl ?_
 refine RN ?_
 refine A.seq ?_
 refine GS ?_
 refine TL ?_
 refine RA rfl ?_
 refine RN ?_
 refine A.block ?_
 refine A.loop (ι := Nat) (fun i => i ≤ 4) (fun i => [(1, .v (ptr b1)), (3, own w₀.heap.size 5 (5 + 45 * i) (((x.l :: be 4 x.j) ++ (x.R.take i).flatMap RecT.l).map byteV)), (4, .v (nI (i))), (1000001, blk b1 78 x.v)]) (fun i => 4 - i) 0 ?_ ?_ ?_
 ·exact Nat.zero_le _
 ·exact (KC 1 rfl (KE 3 rfl (show own _ _ _ _ = own _ _ _ _ from congrArg _ (by rw [List.take_zero, List.flatMap_nil, List.append_nil, be4]; rfl)) (KE 4 rfl (by rfl) (KC 1000001 rfl KN))))
 intro i hG
 refine A.seq ?_
 refine GS ?_
 refine TL ?_
 refine RM rfl ?_
 refine RB rfl rfl rfl ?_
 refine RN ?_
 refine A.cond rfl (fun hc24 => ?_) (fun hc24 => ?_)
 ·have hi : i < 4 := by simp at hc24; omega
  refine A.skip ?_
  refine EN ?_
  refine A.seq ?_
  refine A.block ?_
  refine GS ?_
  refine TL ?_
  refine RS (ok_field field78_0 (by decide) rfl) ?_
  refine RS (ok_loadV (s := 1000001) (by decide) Tryd.underlying5 rfl rfl rfl (rfl)) ?_
  refine RBS rfl rfl rfl (.bool true) (by simp [h0]) ?_
  refine RN ?_
  refine A.yes rfl ?_
  refine GE ?_
  refine TF 6 ?_
  refine RM rfl ?_
  refine RM rfl ?_
  refine RS (ok_field field78_2 (by decide) rfl) ?_
  refine RS (ok_indexN (i) Tryd.underlying73 size72 rfl rfl (rfl) (hi)) ?_
  refine RS (ok_loadP (s := 1000001) (by decide) Tryd.underlying72 rfl size72 rfl rfl (by rw [hx.len]; omega) (hx.rec_at hi)) ?_
  refine RS (ok_call (refRecord_fn (x.r i).x (x.r i).s (x.r i).c (x.r i).t (hx.r i).t (hx.r i).s (hx.r i).c) (A1 rfl)) ?_
  refine RN ?_
  refine ⟨_, eff_appendS (vs := ((x.r i).l.map byteV)) Tryd.underlying91 info5 (by decide) rfl rfl rfl (Le.eq (byt_vals _)) (by simp [byteV, Value.oneCell']) (by rw [List.length_map, (hx.r i).lenL]; omega) (by decide) (fun g hg => (LV 1 rfl (LV 4 rfl (LT 1000001 rfl LN)))), ?_⟩
  refine TL ?_
  refine RA rfl ?_
  refine RN ?_
  refine End.normal_block ?_
  refine EN ?_
  refine GE ?_
  refine TL ?_
  refine RM rfl ?_
  refine RBS rfl rfl rfl (nI (i + 1)) (wrap_eq (by omega) (by omega)) ?_
  refine RA rfl ?_
  refine RN ?_
  refine End.normal_then ?_
  refine End.again (i + 1) ?_ ?_ ?_
  ·show _ ≤ _; omega
  ·show _ - _ < _ - _; omega
  ·exact (KC 1 rfl (KE 3 rfl (show own _ _ _ _ = own _ _ _ _ from by rw [List.length_map, (hx.r i).lenL, take_flat hx.lr hi (z := RecT.zero), ← List.append_assoc, List.map_append (l₁ := (x.l :: be 4 x.j) ++ _), show 5 + 45 * (i + 1) = 5 + 45 * i + 45 from by omega]; rfl) (KC 4 rfl (KC 1000001 rfl KN))))
 ·have hi2 : i = 4 := by simp at hc24; omega
  refine A.exit ?_
  refine End.exit_then ?_
  refine End.exit_then ?_
  refine End.exit_here ?_
  refine EN ?_
  refine GS ?_
  refine TL ?_
  refine RM rfl ?_
  refine RA rfl ?_
  refine RN ?_
  refine A.ret ?_
  subst hi2
  exact End.ret1 rfl rfl ((own_byt (by rw [List.take_of_length_le (Nat.le_of_eq hx.lr), List.length_append, flat_length (RecT.lensL hx.fr), hx.lr, List.length_cons, be_length])).trans (Le.eq (congrArg byt (by rw [List.take_of_length_le (Nat.le_of_eq hx.lr)]; unfold NodT.bl; rw [if_pos h0]; rfl))))
set_option maxHeartbeats 2000000 in
theorem rBytes_E (x : NodT) (hx : x.Fit) (h0 : ¬ x.l.toNat = 0) : Fn Tryd.prog 40 [.v (aggV x.v)] (byt x.bl) := by
 refine Fn.of Tryd.func40 rfl (by kernel_rfl) Tryd.ntmps40 (by simp) (fun w => [(0, .v (aggV x.v))]) (fun w => (Start.v rfl Start.nil)) fun w₀ => ?_
 refine GS ?_
 refine TN 0 ?_
 refine RN ?_
 refine ⟨_, _, eff_box (n := 45) (d := 1) (k := 1000001) rfl (by decide), fun b1 hb1 => ?_⟩
 have hBb1 := hb1.1
 refine TL ?_
 refine RA rfl ?_
 refine RN ?_
 refine GS ?_
 refine TL ?_
 refine RS (ok_field field78_0 (by decide) rfl) ?_
 refine RS (ok_loadV (s := 1000001) (by decide) Tryd.underlying5 rfl rfl rfl (rfl)) ?_
 refine RS (ok_field field78_1 (by decide) rfl) ?_
 refine RS (ok_loadV (s := 1000001) (by decide) Tryd.underlying68 rfl rfl rfl (rfl)) ?_
 refine RS (ok_shr rfl rfl (by decide)) ?_; refine RZ (nW (x.j / 16777216)) (by rw [show min (24 : Int).toNat IntKind.u32.bits = 24 from rfl, shr_nat]) ?_
 refine RS (ok_conv Tryd.underlying68 Tryd.underlying5 rfl) ?_; refine RZ (byteV (UInt8.ofNat (x.j / 16777216))) (by rw [wrap_u8_nat]; rfl) ?_
 refine RS (ok_field field78_1 (by decide) rfl) ?_
 refine RS (ok_loadV (s := 1000001) (by decide) Tryd.underlying68 rfl rfl rfl (rfl)) ?_
 refine RS (ok_shr rfl rfl (by decide)) ?_; refine RZ (nW (x.j / 65536)) (by rw [show min (16 : Int).toNat IntKind.u32.bits = 16 from rfl, shr_nat]) ?_
 refine RS (ok_conv Tryd.underlying68 Tryd.underlying5 rfl) ?_; refine RZ (byteV (UInt8.ofNat (x.j / 65536))) (by rw [wrap_u8_nat]; rfl) ?_
 refine RS (ok_field field78_1 (by decide) rfl) ?_
 refine RS (ok_loadV (s := 1000001) (by decide) Tryd.underlying68 rfl rfl rfl (rfl)) ?_
 refine RS (ok_shr rfl rfl (by decide)) ?_; refine RZ (nW (x.j / 256)) (by rw [show min (8 : Int).toNat IntKind.u32.bits = 8 from rfl, shr_nat]) ?_
 refine RS (ok_conv Tryd.underlying68 Tryd.underlying5 rfl) ?_; refine RZ (byteV (UInt8.ofNat (x.j / 256))) (by rw [wrap_u8_nat]; rfl) ?_
 refine RS (ok_field field78_1 (by decide) rfl) ?_
 refine RS (ok_loadV (s := 1000001) (by decide) Tryd.underlying68 rfl rfl rfl (rfl)) ?_
 refine RS (ok_conv Tryd.underlying68 Tryd.underlying5 rfl) ?_; refine RZ (byteV (UInt8.ofNat (x.j))) (by rw [wrap_u8_nat]; rfl) ?_
 refine RS (ok_buildOwn [byteV x.l, byteV (UInt8.ofNat (x.j / 16777216)), byteV (UInt8.ofNat (x.j / 65536)), byteV (UInt8.ofNat (x.j / 256)), byteV (UInt8.ofNat x.j)] Tryd.underlying91 info5 rfl (by decide) (by decide) rfl ⟨rfl, rfl, rfl, rfl, rfl, rfl, rfl, rfl, rfl, rfl, trivial⟩ (fun d hd => by simp only [List.mem_cons, List.not_mem_nil, or_false] at hd; rcases hd with rfl | rfl | rfl | rfl | rfl <;> rfl)) ?_
 refine RA rfl ?_
 refine RN ?_
 refine A.seq ?_
 refine GS ?_
 refine TL ?_
 refine RA rfl ?_
 refine RN ?_
 refine A.block ?_
 refine A.loop (ι := Nat) (fun i => i ≤ 4) (fun i => [(1, .v (ptr b1)), (3, own w₀.heap.size 5 (5 + 33 * i) (((x.l :: be 4 x.j) ++ (x.E.take i).flatMap EntT.l).map byteV)), (4, .v (nI (i))), (1000001, blk b1 78 x.v)]) (fun i => 4 - i) 0 ?_ ?_ ?_
 ·exact Nat.zero_le _
 ·exact (KC 1 rfl (KE 3 rfl (show own _ _ _ _ = own _ _ _ _ from congrArg _ (by rw [List.take_zero, List.flatMap_nil, List.append_nil, be4]; rfl)) (KE 4 rfl (by rfl) (KC 1000001 rfl KN))))
 intro i hG
 refine A.seq ?_
 refine GS ?_
 refine TL ?_
 refine RM rfl ?_
 refine RB rfl rfl rfl ?_
 refine RN ?_
 refine A.cond rfl (fun hc24 => ?_) (fun hc24 => ?_)
 ·have hi : i < 4 := by simp at hc24; omega
  refine A.skip ?_
  refine EN ?_
  refine A.seq ?_
  refine A.block ?_
  refine GS ?_
  refine TL ?_
  refine RS (ok_field field78_0 (by decide) rfl) ?_
  refine RS (ok_loadV (s := 1000001) (by decide) Tryd.underlying5 rfl rfl rfl (rfl)) ?_
  refine RBS rfl rfl rfl (.bool false) (by simp; omega) ?_
  refine RN ?_
  refine A.no rfl ?_
  refine GE ?_
  refine TF 6 ?_
  refine RM rfl ?_
  refine RM rfl ?_
  refine RS (ok_field field78_3 (by decide) rfl) ?_
  refine RS (ok_indexN (i) Tryd.underlying76 size75 rfl rfl (rfl) (hi)) ?_
  refine RS (ok_loadP (s := 1000001) (by decide) Tryd.underlying75 rfl size75 rfl rfl (by rw [hx.len]; omega) (hx.ent_at hi)) ?_
  refine RS (ok_call (refEntry_fn (x.e i).x (x.e i).t (hx.e i).t) (A1 rfl)) ?_
  refine RN ?_
  refine ⟨_, eff_appendS (vs := ((x.e i).l.map byteV)) Tryd.underlying91 info5 (by decide) rfl rfl rfl (Le.eq (byt_vals _)) (by simp [byteV, Value.oneCell']) (by rw [List.length_map, (hx.e i).lenL]; omega) (by decide) (fun g hg => (LV 1 rfl (LV 4 rfl (LT 1000001 rfl LN)))), ?_⟩
  refine TL ?_
  refine RA rfl ?_
  refine RN ?_
  refine End.normal_block ?_
  refine EN ?_
  refine GE ?_
  refine TL ?_
  refine RM rfl ?_
  refine RBS rfl rfl rfl (nI (i + 1)) (wrap_eq (by omega) (by omega)) ?_
  refine RA rfl ?_
  refine RN ?_
  refine End.normal_then ?_
  refine End.again (i + 1) ?_ ?_ ?_
  ·show _ ≤ _; omega
  ·show _ - _ < _ - _; omega
  ·exact (KC 1 rfl (KE 3 rfl (show own _ _ _ _ = own _ _ _ _ from by rw [List.length_map, (hx.e i).lenL, take_flat hx.le hi (z := EntT.zero), ← List.append_assoc, List.map_append (l₁ := (x.l :: be 4 x.j) ++ _), show 5 + 33 * (i + 1) = 5 + 33 * i + 33 from by omega]; rfl) (KC 4 rfl (KC 1000001 rfl KN))))
 ·have hi2 : i = 4 := by simp at hc24; omega
  refine A.exit ?_
  refine End.exit_then ?_
  refine End.exit_then ?_
  refine End.exit_here ?_
  refine EN ?_
  refine GS ?_
  refine TL ?_
  refine RM rfl ?_
  refine RA rfl ?_
  refine RN ?_
  refine A.ret ?_
  subst hi2
  exact End.ret1 rfl rfl ((own_byt (by rw [List.take_of_length_le (Nat.le_of_eq hx.le), List.length_append, flat_length (EntT.lensL hx.fe), hx.le, List.length_cons, be_length])).trans (Le.eq (congrArg byt (by rw [List.take_of_length_le (Nat.le_of_eq hx.le)]; unfold NodT.bl; rw [if_neg h0]; rfl))))
theorem rBytes_fn (x : NodT) (hx : x.Fit) : Fn Tryd.prog 40 [.v (aggV x.v)] (byt x.bl) := by
 by_cases h : x.l.toNat = 0
 ·exact rBytes_R x hx h
 ·exact rBytes_E x hx h
theorem rDigest_fn (x : NodT) (hx : x.Fit) (h5 : x.l.toNat ≤ 5) : Fn Tryd.prog 28 [.v (aggV x.v)] (.v (aggV ((sha x.bl).map byteV))) := by
 refine Fn.of Tryd.func28 rfl (by kernel_rfl) Tryd.ntmps28 (by simp) (fun w => [(0, .v (aggV x.v))]) (fun w => (Start.v rfl Start.nil)) fun w₀ => ?_
 refine GS ?_
 refine TN 0 ?_
 refine RN ?_
 refine ⟨_, _, eff_box (n := 6) (d := 1) (k := 1000001) rfl (by decide), fun b1 hb1 => ?_⟩
 have hBb1 := hb1.1
 refine TN 1 ?_
 refine RN ?_
 refine ⟨_, _, eff_alloc (n := 6) (d := 2) (k := 1000002) zero27 (by decide), fun b2 hb2 => ?_⟩
 have hBb2 := hb2.1
 refine TL ?_
 refine RN ?_
 refine GS ?_
 refine TF 3 ?_
 refine RS (ok_loadA (s := 1000001) (by decide) Tryd.underlying78 rfl (size78.of (hx.len)) rfl rfl) ?_
 refine RS (ok_call (rBytes_fn x hx) (A1 rfl)) ?_
 refine RS (ok_call (refSum_fn x.bl (by rw [hx.bl_length]; have := sz_le x.l.toNat; omega)) (Args.cons rfl LA Args.nil)) ?_
 refine RN ?_
 refine ⟨_, eff_storeA (n := 6) (s := 1000002) (size27.of (by rw [List.length_map, sha_length])) rfl rfl (all_bytes _) hBb2 rfl (by rw [List.length_map, sha_length]; rfl) (LV 2 rfl (LT 1000001 rfl LN)), ?_⟩
 refine TL ?_
 refine RN ?_
 refine A.ret ?_
 exact End.cell1 (s := 1000002) rfl Tryd.underlying27 rfl (size27.of (by rw [List.length_map, sha_length])) rfl rfl (Le.refl _)
/-! What the laws make of their numbers. -/
def digS (s : UInt8) : List UInt8 := (List.range 32).map fun i => UInt8.ofNat (s.toNat + 7 * i)
theorem digS_len (s : UInt8) : (digS s).length = 32 := by simp [digS]
theorem digS_get {s : UInt8} {i : Nat} (h : i < 32) : (digS s)[i]? = some (UInt8.ofNat (s.toNat + 7 * i)) := by simp [digS, h]
theorem lDigest_fn (s : UInt8) : Fn Tryd.prog 31 [.v (byteV s)] (.v (aggV ((digS s).map byteV))) := by
 refine Fn.of Tryd.func31 rfl (by kernel_rfl) Tryd.ntmps31 (by simp) (fun w => [(0, .v (byteV s))]) (fun w => (Start.v rfl Start.nil)) fun w₀ => ?_
 refine GS ?_
 refine TN 0 ?_
 refine RN ?_
 refine ⟨_, _, eff_alloc (n := 17) (d := 2) (k := 1000002) zero27 (by decide), fun b2 hb2 => ?_⟩
 have hBb2 := hb2.1
 refine TL ?_
 refine RN ?_
 refine GS ?_
 refine TN 0 ?_
 refine RN ?_
 refine ⟨_, _, eff_alloc (n := 17) (d := 3) (k := 1000003) zero27 (by decide), fun b3 hb3 => ?_⟩
 have hBb3 := hb3.1
 have hlt_b2_b3 : b2 < b3 := hb3.2 1000002 _ _ _ rfl
 refine TL ?_
 refine RN ?_
 refine A.seq ?_
 refine GS ?_
 refine TL ?_
 refine RA rfl ?_
 refine RN ?_
 refine A.block ?_
 refine A.loop (ι := Nat) (fun i => i ≤ 32) (fun i => [(0, .v (byteV s)), (2, .v (ptr b2)), (3, .v (ptr b3)), (4, .v (nI (i))), (1000002, blk b2 27 (List.replicate 32 (.int .u8 0))), (1000003, blk b3 27 (((digS s).take i).map byteV ++ List.replicate ((digS s).length - i) (.int .u8 0)))]) (fun i => 32 - i) 0 ?_ ?_ ?_
 ·exact Nat.zero_le _
 ·exact (KC 0 rfl (KC 2 rfl (KC 3 rfl (KE 4 rfl (by rfl) (KC 1000002 rfl (KE 1000003 rfl (by rw [digS_len]; rfl) KN))))))
 intro i hG
 refine A.seq ?_
 refine GS ?_
 refine TL ?_
 refine RM rfl ?_
 refine RB rfl rfl rfl ?_
 refine RN ?_
 refine A.cond rfl (fun hc6 => ?_) (fun hc6 => ?_)
 ·have hi : i < 32 := by simp at hc6; omega
  refine A.skip ?_
  refine EN ?_
  refine A.seq ?_
  refine A.block ?_
  refine GE ?_
  refine TF 7 ?_
  refine RM rfl ?_
  refine RM rfl ?_
  refine RM rfl ?_
  refine RBS rfl rfl rfl (nI (7 * i)) (wrap_eq (by omega) (by omega)) ?_
  refine RS (ok_conv Tryd.underlying3 Tryd.underlying5 rfl) ?_; refine RZ (byteV (UInt8.ofNat (7 * i))) (by rw [wrap_u8_nat]; rfl) ?_
  refine RBS rfl rfl rfl (byteV (UInt8.ofNat (s.toNat + 7 * i))) (add_u8 s (7 * i)) ?_
  refine RS (ok_index0 (i) Tryd.underlying27 info5 rfl rfl (rfl) (hi)) ?_
  refine RN ?_
  refine ⟨_, eff_storeS (n := 17) (s := 1000003) info5 rfl rfl rfl hBb3 rfl (by simp [digS_len]; omega) (LV 0 rfl (LV 2 rfl (LV 3 rfl (LV 4 rfl (LB 1000002 rfl LN))))), ?_⟩
  refine TL ?_
  refine RN ?_
  refine End.normal_block ?_
  refine EN ?_
  refine GE ?_
  refine TL ?_
  refine RM rfl ?_
  refine RBS rfl rfl rfl (nI (i + 1)) (wrap_eq (by omega) (by omega)) ?_
  refine RA rfl ?_
  refine RN ?_
  refine End.normal_then ?_
  refine End.again (i + 1) ?_ ?_ ?_
  ·show _ ≤ _; omega
  ·show _ - _ < _ - _; omega
  ·exact (KC 0 rfl (KC 2 rfl (KC 3 rfl (KC 4 rfl (KC 1000002 rfl (KE 1000003 rfl (congrArg _ (fill_step (digS_get hi))) KN))))))
 ·have hi2 : i = 32 := by simp at hc6; omega
  refine A.exit ?_
  refine End.exit_then ?_
  refine End.exit_then ?_
  refine End.exit_here ?_
  refine EN ?_
  refine GS ?_
  refine TF 1 ?_
  refine RS (ok_loadA (s := 1000003) (by decide) Tryd.underlying27 rfl (size27.of (by rw [List.length_append, List.length_map, List.length_take, List.length_replicate, digS_len]; omega)) rfl rfl) ?_; refine RZ (aggV ((digS s).map byteV)) (by subst hi2; rw [digS_len, Nat.sub_self, List.replicate_zero, List.append_nil, List.take_of_length_le (by rw [digS_len]; exact Nat.le_refl _)]) ?_
  refine RN ?_
  refine ⟨_, eff_storeA (n := 17) (s := 1000002) (size27.of (by rw [List.length_map, digS_len])) rfl rfl (all_bytes _) hBb2 rfl (by rw [List.length_map, digS_len]; rfl) (LV 2 rfl (LB 1000003 rfl LN)), ?_⟩
  refine TL ?_
  refine RN ?_
  refine A.ret ?_
  exact End.cell1 (s := 1000002) rfl Tryd.underlying27 rfl (size27.of (by rw [List.length_map, digS_len])) rfl rfl (Le.refl _)
end Go.Proofs.YtfjpipkcfbmdeaaDoor
namespace Go.Proofs.YtfjpipkcfbmdeaaDoor
open Go Go.RowKit
set_option linter.unusedVariables false
set_option linter.unusedSimpArgs false
variable {κ : Cx}
section
variable {P : Program} {n : Nat} {w₀ : World} {ops : Array Oper} {E : Env} {ty : TypeId} {pos : String} {after : Array Edge}
/-- What yield does at each round: it goes on where 'ok' says so, else the round has left. -/
structure SeqsE (P : Program) (w₀ : World) (N : Nat) (l : Nat) (arg₁ arg₂ : Nat → D) (ok : Nat → Bool) (V : Nat → Env) (J Jx : Nat → World → Prop) : Prop where
  grow : ∀ i a b, J i a → Grow a b → J i b
  growx : ∀ i a b, Jx i a → Grow a b → Jx i b
  holds : ∀ i W, J i W → Holds w₀ (V i) W
  holdsx : ∀ i W, Jx i W → Holds w₀ [] W
  yields : ∀ (i : Nat) (W : World) (u v : Value), i < N → (∀ k, k < i → ok k = true) → J i W → (arg₁ i).Of W u → (arg₂ i).Of W v →
    YieldAt (FR none) 0 P l #[u, v] W fun e W' => e = .returned (.bool (ok i)) ∧ (ok i = true → J (i + 1) W') ∧ (ok i = false → Jx i W') ∧ W.heap.size ≤ W'.heap.size
/-- How the iterator ends. -/
def DoneE (N : Nat) (ok : Nat → Bool) (J Jx : Nat → World → Prop) (W : World) : Prop := ((∀ k, k < N → ok k = true) ∧ J N W) ∨ ∃ i, i < N ∧ (∀ k, k < i → ok k = true) ∧ ok i = false ∧ Jx i W
/-- What holds behind a round. -/
def nextE (ok : Nat → Bool) (J Jx : Nat → World → Prop) (i : Nat) (W : World) : Prop := (ok i = true → J (i + 1) W) ∧ (ok i = false → Jx i W)
theorem eff_yieldE {N l : Nat} {arg₁ arg₂ : Nat → D} {ok : Nat → Bool} {V : Nat → Env} {J Jx : Nat → World → Prop} {d vJ vN : Nat} {fv x y : Operand} {ex ey : D} {tys : Array TypeId} {E' : Env} (hq : SeqsE P w₀ N l arg₁ arg₂ ok V J Jx) (i : Nat) (hi : i < N) (hok : ∀ k, k < i → ok k = true)
    (hJ : E.look vJ = some (jD (J i))) (hf : E.at fv = some (.v (.func (.yield l) #[] #[]))) (hx : E.at x = some ex) (hle : Le ex (arg₁ i)) (hy : E.at y = some ey) (hly : Le ey (arg₂ i)) (hd : d < n) (hvN : vbase ≤ vN) (hn : n ≤ vbase) (hl : Left w₀.heap.size E' E) :
    Eff P n w₀.heap.size ops ⟨some d, .call { callee := .value fv, args := #[x, y], argTypes := tys }, ty, pos, after, none⟩ E ((d, .v (.bool (ok i))) :: (vN, jD (nextE ok J Jx i)) :: E') := by
  intro κ a w K Q h hK
  have h1 : a.eval fv = _ := h.at_ fv _ hf
  have h2 := hle.of (h.at_ x _ hx)
  have h3 := hly.of (h.at_ y _ hy)
  have hJw : J i w := jD_get (hq.grow i) (h.of vJ _ hJ)
  obtain ⟨fn, tmps, assign, body, hyy, hr⟩ := hq.yields i w _ _ hi hok hJw h2 h3
  rw [if_pos (by simp [Region.wanted])]
  refine ⟨fun _ _ => trivial, ?_⟩
  rw [Oper.semAt_eq _ _ _ (by nofun)]
  have hrun : (execOp a.eval ⟨some d, .call { callee := .value fv, args := #[x, y], argTypes := tys }, ty, pos, after, none⟩).run P w = .ok (.round l fn tmps assign body) w := by
    simp [execOp, resolve, Deferred.ofValue, h1, invoke, hyy]
  rw [hrun, Oper.uponIn_round]
  refine ⟨fun e => absurd e (by simp [FR, Fence.wide]), RoundIn.mono (F := FR κ.rd) (n := 0) hr ?_⟩
  rintro e W' ⟨rfl, hJ', hX', hs⟩
  have hb : Below w₀.heap.size w₀ W' := by
    cases hk : ok i with
    | true => exact (hq.holds _ _ (hJ' hk)).1
    | false => exact (hq.holdsx _ _ (hX' hk)).1
  have hb0 := (hq.holds _ _ hJw).1
  have hbel := below_two hb0 hb hs
  refine hK _ _ hbel (St.put ⟨Nat.le_trans h.base hs, h.defers, h.size, fun t e he => ?_⟩ hd rfl)
  by_cases hts : vN = t
  · subst hts
    rw [look_here] at he; injection he with he; subst he
    exact jD_mk ⟨hJ', hX'⟩
  · rw [look_past _ _ hts] at he
    obtain ⟨h7, h8⟩ := hl _ (look_mem he)
    exact h8 _ _ _ hbel h.base (h.of t e h7)
theorem look_appE {t : Nat} {e : D} : ∀ {V E : Env}, Env.look (V ++ E) t = some e → (t, e) ∈ V ∨ Env.look E t = some e
  | [], _, h => .inr h
  | (s, d) :: V, E, h => by
    by_cases hs : s = t
    · subst hs
      rw [List.cons_append, look_here] at h; injection h with h; subst h
      exact .inl List.mem_cons_self
    · rw [List.cons_append, look_past _ _ hs] at h
      exact (look_appE h).imp (List.mem_cons_of_mem _) id
/-- The round went on: what it keeps is known again. -/
theorem A.onE {N l : Nat} {arg₁ arg₂ : Nat → D} {ok : Nat → Bool} {V : Nat → Env} {J Jx : Nat → World → Prop} {vJ vN i : Nat} {c : Code} {Q : Exit → Act → World → Prop} (hq : SeqsE P w₀ N l arg₁ arg₂ ok V J Jx) (hN : E.look vN = some (jD (nextE ok J Jx i))) (hk : ok i = true) (hvJ : vbase ≤ vJ) (hV : ∀ p ∈ V (i + 1), vbase ≤ p.1) (hn : n ≤ vbase)
    (h : A κ P w₀ n c ((vJ, jD (J (i + 1))) :: (V (i + 1) ++ E)) Q) : A κ P w₀ n c E Q := fun a w g hs => by
  have h1 : nextE ok J Jx i w := jD_get (fun a b ⟨h1, h2⟩ k => ⟨fun e => hq.grow _ a b (h1 e) k, fun e => hq.growx _ a b (h2 e) k⟩) (hs.of vN _ hN)
  have hJ := h1.1 hk
  obtain ⟨_, _, hv⟩ := hq.holds _ _ hJ
  refine h a w g ⟨hs.base, hs.defers, hs.size, fun t e he => ?_⟩
  by_cases hts : vJ = t
  · subst hts
    rw [look_here] at he; injection he with he; subst he
    exact jD_mk hJ
  · rw [look_past _ _ hts] at he
    rcases look_appE he with hm | hm
    · have h2 := hv _ hm
      have h3 := hV _ hm
      simp only at h3
      have h4 : a.tmps.getD t undef = undef := by rw [Array.getD_eq_getD_getElem?, Array.getElem?_eq_none (by rw [hs.size]; omega)]; rfl
      rw [h4]; exact h2
    · exact hs.of t e hm
/-- The end of the iterator: all has come. -/
theorem End.seqE {fn : Func} {N l : Nat} {arg₁ arg₂ : Nat → D} {ok : Nat → Bool} {V : Nat → Env} {J Jx : Nat → World → Prop} {vJ : Nat} (hq : SeqsE P w₀ N l arg₁ arg₂ ok V J Jx) (hr : fn.results = #[]) (hJ : E.look vJ = some (jD (J N))) (hok : ∀ k, k < N → ok k = true) :
    End Cx.top w₀ n E (BP P fn (fun e W => (∃ v, e = .returned v) ∧ DoneE N ok J Jx W) .normal) := fun a w _ hs => by
  show LeavesInM (FR none) 0 P fn a.tmps _ a.defers .returning w
  rw [show a.defers = [] from hs.defers]
  exact ⟨_, by simp [results, hr]; rfl, ⟨_, rfl⟩, .inl ⟨hok, jD_get (hq.grow N) (hs.of vJ _ hJ)⟩⟩
/-- The end of the iterator: it was stopped. -/
theorem End.seqEx {fn : Func} {N l : Nat} {arg₁ arg₂ : Nat → D} {ok : Nat → Bool} {V : Nat → Env} {J Jx : Nat → World → Prop} {vN i : Nat} (hq : SeqsE P w₀ N l arg₁ arg₂ ok V J Jx) (hr : fn.results = #[]) (hN : E.look vN = some (jD (nextE ok J Jx i))) (hi : i < N) (hok : ∀ k, k < i → ok k = true) (hk : ok i = false) :
    End Cx.top w₀ n E (BP P fn (fun e W => (∃ v, e = .returned v) ∧ DoneE N ok J Jx W) .ret) := fun a w _ hs => by
  have h1 : nextE ok J Jx i w := jD_get (fun a b ⟨h1, h2⟩ k => ⟨fun e => hq.grow _ a b (h1 e) k, fun e => hq.growx _ a b (h2 e) k⟩) (hs.of vN _ hN)
  show LeavesInM (FR none) 0 P fn a.tmps _ a.defers .returning w
  rw [show a.defers = [] from hs.defers]
  exact ⟨_, by simp [results, hr]; rfl, ⟨_, rfl⟩, .inr ⟨i, hi, hok, hk, h1.2 hk⟩⟩

/-! ### The statement -/
/-- What the body of a round comes to: it goes on, or it leaves the function. -/
def RoundE (w₀ : World) (b : Bool) (V Vx : Env) : Exit → Act → World → Prop
  | .normal, _, w => b = true ∧ Holds w₀ V w
  | .ret, _, w => b = false ∧ Holds w₀ Vx w
  | _, _, _ => False
theorem Holds.ofSt {V : Env} {a : Act} {w : World} (hs : Sub V E) (hV : ∀ p ∈ V, vbase ≤ p.1) (hn : n ≤ vbase) (g : Below w₀.heap.size w₀ w) (hst : St κ n w₀.heap.size E a w) : Holds w₀ V w := ⟨g, hst.base, fun p hp => by
  have h1 := hst.of p.1 p.2 (hs p hp)
  have := hV p hp
  rwa [Array.getD_eq_getD_getElem?, Array.getElem?_eq_none (by rw [hst.size]; omega)] at h1⟩
theorem SeqsE.sub {N l : Nat} {arg₁ arg₂ : Nat → D} {ok : Nat → Bool} {V V' : Nat → Env} {J Jx : Nat → World → Prop} (h : SeqsE P w₀ N l arg₁ arg₂ ok V J Jx) (hs : ∀ i, ∀ p ∈ V' i, p ∈ V i) : SeqsE P w₀ N l arg₁ arg₂ ok V' J Jx :=
  ⟨h.grow, h.growx, fun i W hJ => ⟨(h.holds i W hJ).1, (h.holds i W hJ).2.1, fun p hp => (h.holds i W hJ).2.2 p (hs i p hp)⟩, h.holdsx, h.yields⟩
/-- A variable of the round is set. -/
theorem assign_at {l id tp t : Nat} {ty pos after} {E : Env} {d : D} {a : Act} {w : World} (ht : t < n) (htp : tp < n) (hn : n ≤ vbase) (he : E.look tp = some d) (h : St ⟨some l, []⟩ n w₀.heap.size E a w) :
    (Code.region id #[⟨some t, .assign (.tmp tp), ty, pos, after, none⟩] false).wpIn (FR (some l)) 0 P (fun e a' w' => e = .normal ∧ Grow w w' ∧ St ⟨some l, []⟩ n w₀.heap.size ((t, d) :: E) a' w') a w := by
  have hr : Run P w₀.heap.size #[⟨some t, .assign (.tmp tp), ty, pos, after, none⟩] [⟨some t, .assign (.tmp tp), ty, pos, after, none⟩] E ((t, d) :: E) := .step rfl rfl (ok_assign he) .nil
  have := wp_text (Q := fun e a' w' => e = .normal ∧ Grow w w' ∧ St ⟨some l, []⟩ n w₀.heap.size ((t, d) :: E) a' w') (rest := []) hn hr h (fun o ho => by
    simp only [List.mem_cons, List.not_mem_nil, or_false] at ho
    subst ho
    refine ⟨fun s hs => ?_, fun s hs => by simp only [Option.some.injEq] at hs; exact hs ▸ ht⟩
    simp [Oper.looksAt, Op.operands] at hs
    exact hs ▸ htp) fun a' w' g h' => wpListIn_nil ⟨rfl, g, h'⟩
  exact wpIn_region_list (by simpa using this)
theorem assign_two {l id id' tp tp' t t' : Nat} {ty pos after ty' pos' after'} {E : Env} {d d' : D} {a : Act} {w : World} (ht : t < n) (htp : tp < n) (ht' : t' < n) (htp' : tp' < n) (hne : t ≠ tp') (hn : n ≤ vbase) (he : E.look tp = some d) (he' : E.look tp' = some d') (h : St ⟨some l, []⟩ n w₀.heap.size E a w) :
    ((Code.region id #[⟨some t, .assign (.tmp tp), ty, pos, after, none⟩] false).seq (Code.region id' #[⟨some t', .assign (.tmp tp'), ty', pos', after', none⟩] false)).wpIn (FR (some l)) 0 P (fun e a' w' => e = .normal ∧ Grow w w' ∧ St ⟨some l, []⟩ n w₀.heap.size ((t', d') :: (t, d) :: E) a' w') a w := by
  refine wpIn_seq (wpIn_mono (F := FR (some l)) (n := 0) (assign_at ht htp hn he h) ?_)
  rintro e a1 w1 ⟨rfl, g1, h1⟩
  change (Code.region id' _ false).wpIn (FR (some l)) 0 P _ a1 w1
  refine wpIn_mono (F := FR (some l)) (n := 0) (assign_at ht' htp' hn ((look_past _ _ hne).trans he') h1) ?_
  rintro e a2 w2 ⟨rfl, g2, h2⟩
  exact ⟨rfl, g1.trans g2, h2⟩
/-- A new block gets a name. -/
theorem A.openN {t k B' : Nat} {e : TypeId} {val : Nat → Value} {xs : List Value} {c : Code} {Q : Exit → Act → World → Prop} (ht : E.look t = some (newD B' e val xs)) (h : ∀ b, B' ≤ b → A κ P w₀ n c ((t, .v (val b)) :: (k, blk b e xs) :: E) Q) : A κ P w₀ n c E Q := fun a w g hs => by
  obtain ⟨b, h1, h2, h3, h4⟩ := hs.of t _ ht
  exact h b h2 a w g ((hs.push (t := k) (d := blk b e xs) ⟨h3, h4⟩).push (d := .v (val b)) h1)
theorem End.roundE {b : Bool} {V Vx : Env} (hb : b = true) (hs : Sub V E) (hV : ∀ p ∈ V, vbase ≤ p.1) (hn : n ≤ vbase) : End κ w₀ n E (RoundE w₀ b V Vx .normal) := fun a w g hst => ⟨hb, .ofSt hs hV hn g hst⟩
theorem End.roundEx {b : Bool} {V Vx : Env} (hb : b = false) (hs : Sub Vx E) (hV : ∀ p ∈ Vx, vbase ≤ p.1) (hn : n ≤ vbase) : End κ w₀ n E (RoundE w₀ b V Vx .ret) := fun a w g hst => ⟨hb, .ofSt hs hV hn g hst⟩

theorem A.rangeE {Q : Exit → Act → World → Prop} {g : Operand} {tp₁ tp₂ gf N vL vD : Nat} {assign body : Code} {lb : List Value} {S : Env} {V Vx Eb : Nat → Env} {arg₁ arg₂ : Nat → D} {ok : Nat → Bool} (hg : E.at g = some (.v (.func (.func gf) #[] lb.toArray)))
    (hgf : ∃ fn, P.funcs[gf]? = some fn ∧ (fn.name == "runtime.NumGoroutine") = false ∧ fn.body.isNone = false) (htp₁ : tp₁ < n) (htp₂ : tp₂ < n) (hne : tp₁ ≠ tp₂) (hn : n ≤ vbase) (h0 : Sub (V 0 ++ S) E)
    (hS : ∀ p ∈ S, p.1 < vbase ∧ ((∃ x, p.2 = .v x) ∨ ∃ d, p.2 = old w₀.heap.size d)) (hV : ∀ i, ∀ p ∈ V i, vbase ≤ p.1) (hVx : ∀ i, ∀ p ∈ Vx i, vbase ≤ p.1)
    (hfV : ∀ i l, w₀.heap.size ≤ l → ∀ p ∈ V i, Firm l p.2) (hfX : ∀ i l, w₀.heap.size ≤ l → ∀ p ∈ Vx i, Firm l p.2) (hfE : ∀ i l, w₀.heap.size ≤ l → ∀ p ∈ Eb i, Firm l p.2)
    (hseq : ∀ (J Jx : Nat → World → Prop) (l : Nat) (w : World), SeqsE P w₀ N l arg₁ arg₂ ok V J Jx → J 0 w → Calls P gf (.func (.yield l) #[] #[] :: lb).toArray w fun e W => (∃ v, e = .returned v) ∧ DoneE N ok J Jx W)
    (hassign : ∀ i l a w, i < N → w₀.heap.size ≤ w.heap.size → St ⟨some l, []⟩ n w₀.heap.size ((tp₁, arg₁ i) :: (tp₂, arg₂ i) :: (V i ++ S)) a w → assign.wpIn (FR (some l)) 0 P (fun e a' w' => e = .normal ∧ Grow w w' ∧ St ⟨some l, []⟩ n w₀.heap.size (Eb i) a' w') a w)
    (hbody : ∀ i l D r m, i < N → (∀ k, k < i → ok k = true) → A ⟨some l, []⟩ P w₀ n body ((vL, recD l (.loop r) m) :: (vD, recD D (.deferred (some [])) 0) :: Eb i)
      (RoundE w₀ (ok i) ((vL, recD l (.loop r) m) :: (vD, recD D (.deferred (some [])) 0) :: V (i + 1)) ((vL, recD l (.loop r) m) :: (vD, recD D (.deferred (some [])) 0) :: Vx i)))
    (hend : ∀ D, w₀.heap.size ≤ D → (∀ k, k < N → ok k = true) → End ⟨none, [{ target := .collected D, args := #[] }]⟩ w₀ n ((vD, recD D (.deferred (some [])) 0) :: (V N ++ S)) (Q .normal))
    (hendx : ∀ D i, w₀.heap.size ≤ D → i < N → (∀ k, k < i → ok k = true) → ok i = false → End ⟨none, [{ target := .collected D, args := #[] }]⟩ w₀ n ((vD, recD D (.deferred (some [])) 0) :: (Vx i ++ S)) (Q .ret)) :
    A ⟨none, []⟩ P w₀ n (.rangeFunc g #[tp₁, tp₂] assign body) E Q := fun a w hb hst => by
  show (Code.rangeFunc g #[tp₁, tp₂] assign body).wpIn (FR none) 0 P Q a w
  refine wpIn_rangeFunc fun fn _ => ?_
  obtain ⟨rec, hrec⟩ : ∃ rec : LoopState → Option Code → Loop, rec = fun st pe => { state := st, pending := pe, fn, tmps := a.tmps, params := #[tp₁, tp₂], assign, body, defers := w.heap.size } := ⟨_, rfl⟩
  obtain ⟨W1, hW1⟩ : ∃ W1, (w.alloc (.deferred (some []))).alloc (.loop (rec .ready none)) = W1 := ⟨_, rfl⟩
  have hg' : a.eval g = .func (.func gf) #[] lb.toArray := hst.at_ g _ hg
  obtain ⟨gfn, hf1, hf2, hf3⟩ := hgf
  have eg : ∀ args w, (callFunc gf args).run P w = .ok (.enter gf args) w := fun args w => by
    have h2' : ¬ gfn.name = "runtime.NumGoroutine" := by simpa using hf2
    have h3' : ¬ gfn.body = none := by intro h; rw [h] at hf3; cases hf3
    simp [callFunc, hf1, h2', h3']
  have hgr : Grow w W1 := by
    rw [← hW1]; exact (Grow.alloc w _).trans (Grow.alloc _ _)
  have hL1 : W1.heap[w.heap.size + 1]? = some (.loop (rec .ready none)) := by
    rw [← hW1]; have := World.alloc_heap_new (w.alloc (.deferred (some []))) (.loop (rec .ready none)); rwa [World.size_alloc] at this
  have hK1 : W1.heap[w.heap.size]? = some (.deferred (some [])) := by
    rw [← hW1]; exact (Below.heap_alloc _ _ _ (by simp)).trans (World.alloc_heap_new w _)
  have hund : ∀ t, vbase ≤ t → a.tmps.getD t undef = undef := fun t ht => by
    rw [Array.getD_eq_getD_getElem?, Array.getElem?_eq_none (by rw [hst.size]; omega)]; rfl
  have hBw := hst.base
  have hH0 : Holds w₀ (V 0) w := ⟨hb, hst.base, fun p hp => by
    have h1 := hst.of p.1 p.2 (h0 p (List.mem_append_left _ hp))
    rwa [hund _ (hV 0 p hp)] at h1⟩
  -- what holds between two rounds
  have hstS : ∀ (κ' : Cx) (F : Env) (W : World) (a' : Act) (E' : Env), (∀ p ∈ F, vbase ≤ p.1) → κ'.df = a'.defers → a'.tmps.size = n → Holds w₀ F W → w.heap.size ≤ W.heap.size → (∀ t e, E'.look t = some e → e.Of W (a'.tmps.getD t undef) ∨ ((t, e) ∈ F ++ S ∧ (t < vbase → a'.tmps.getD t undef = a.tmps.getD t undef))) → St κ' n w₀.heap.size E' a' W := by
    intro κ' F W a' E' hF hd hsz hH hs hE
    refine ⟨hH.2.1, hd.symm, hsz, fun t e he => ?_⟩
    rcases hE t e he with h | ⟨hm, hsame⟩
    · exact h
    · rcases List.mem_append.1 hm with hm | hm
      · have h1 := hH.2.2 _ hm
        have ht := hF _ hm
        simp only at ht
        rwa [Array.getD_eq_getD_getElem?, Array.getElem?_eq_none (by rw [hsz]; omega)]
      · obtain ⟨ht, hk⟩ := hS _ hm
        rw [hsame ht]
        have h1 := hst.of t e (h0 _ (List.mem_append_right _ hm))
        rcases hk with ⟨x, hx⟩ | ⟨d, hd'⟩
        · simp only at hx; subst hx; exact h1
        · simp only at hd'; subst hd'
          exact ⟨hH.2.1, D.OfB.keep h1.2 (below_two hb hH.1 hs)⟩
  refine ⟨w.heap.size + 1, [{ target := .collected w.heap.size, args := #[] }], W1, { target := .fn (.func gf) lb.toArray, args := #[.func (.yield (w.heap.size + 1)) #[] #[]] }, W1, gf,
    #[.func (.yield (w.heap.size + 1)) #[] #[]] ++ lb.toArray, W1, ?_, ?_, fun _ _ => trivial, ?_, fun e => absurd e (by simp [FR, Fence.wide]), ?_⟩
  · rw [← hW1, hrec]; exact run_enterLoop_outer _ _ _ _ _
  · have hy : a.eval (.const (.func (.yield (w.heap.size + 1)) #[] #[])) = .func (.yield (w.heap.size + 1)) #[] #[] := rfl
    simp only [resolve, hg']
    simp [Deferred.ofValue, hy]
  · simp [invoke, eg]
  · have harr : (#[.func (.yield (w.heap.size + 1)) #[] #[]] ++ lb.toArray : Array Value) = (.func (.yield (w.heap.size + 1)) #[] #[] :: lb).toArray := by simp
    rw [harr]
    refine callsIn_FR.2 ((hseq (fun i W => Holds w₀ (V i) W ∧ W.heap[w.heap.size + 1]? = some (.loop (rec .ready none)) ∧ W.heap[w.heap.size]? = some (.deferred (some [])))
      (fun i W => Holds w₀ (Vx i) W ∧ W.heap[w.heap.size + 1]? = some (.loop (rec .done (some .ret))) ∧ W.heap[w.heap.size]? = some (.deferred (some []))) (w.heap.size + 1) W1 ⟨?_, ?_, fun i W h => h.1, fun i W h => ⟨h.1.1, h.1.2.1, fun _ hp => by cases hp⟩, ?_⟩ ⟨hH0.grow hgr, hL1, hK1⟩).mono ?_)
    · rintro i x y ⟨h1, h2, h3⟩ k
      exact ⟨h1.grow k, (k.block _ (Array.getElem?_eq_some_iff.1 h2).1).trans h2, (k.block _ (Array.getElem?_eq_some_iff.1 h3).1).trans h3⟩
    · rintro i x y ⟨h1, h2, h3⟩ k
      exact ⟨h1.grow k, (k.block _ (Array.getElem?_eq_some_iff.1 h2).1).trans h2, (k.block _ (Array.getElem?_eq_some_iff.1 h3).1).trans h3⟩
    · -- one round
      rintro i W u v hi hok ⟨hH, hl, hk⟩ hu hv
      have hlt : w.heap.size + 1 < W.heap.size := (Array.getElem?_eq_some_iff.1 hl).1
      have hBl : w₀.heap.size ≤ w.heap.size + 1 := by omega
      have hy := run_yield (P := P) (args := #[u, v]) hl (by rw [hrec]; rfl)
      rw [hrec] at hy
      refine ⟨fn, _, assign, body, hy, roundIn_of_wpIn (F := FR none) trivial ?_⟩
      have hsta : St ⟨some (w.heap.size + 1), []⟩ n w₀.heap.size ((tp₁, arg₁ i) :: (tp₂, arg₂ i) :: (V i ++ S)) { tmps := (a.tmps.setIfInBounds tp₁ u).setIfInBounds tp₂ v, defers := [] } W := by
        refine hstS _ (V i) W _ _ (hV i) rfl (by simp [hst.size]) hH (by omega) fun t e he => ?_
        have hl1 : tp₁ < a.tmps.size := by rw [hst.size]; exact htp₁
        have hl2 : tp₂ < a.tmps.size := by rw [hst.size]; exact htp₂
        by_cases hts : tp₁ = t
        · subst hts
          rw [look_here] at he; injection he with he; subst he
          left
          have hv1 : ((a.tmps.setIfInBounds tp₁ u).setIfInBounds tp₂ v).getD tp₁ undef = u := by
            rw [Array.getD_eq_getD_getElem?, Array.getElem?_setIfInBounds_ne (Ne.symm hne)]; simp [hl1]
          show (arg₁ i).Of W (((a.tmps.setIfInBounds tp₁ u).setIfInBounds tp₂ v).getD tp₁ undef)
          rw [hv1]; exact hu
        · rw [look_past _ _ hts] at he
          by_cases hts' : tp₂ = t
          · subst hts'
            rw [look_here] at he; injection he with he; subst he
            left
            simpa [hl2] using hv
          · rw [look_past _ _ hts'] at he
            exact .inr ⟨look_mem he, fun _ => by simp [Array.getElem?_setIfInBounds_ne hts, Array.getElem?_setIfInBounds_ne hts']⟩
      have has := hassign i (w.heap.size + 1) _ W hi hH.2.1 hsta
      have hrun0 : ({ tmps := Array.foldl (fun (tmps : Array Value) (x : Tmp × Value) => tmps.setIfInBounds x.1 x.2) a.tmps (#[tp₁, tp₂].zip #[u, v]), defers := [] } : Act) = { tmps := (a.tmps.setIfInBounds tp₁ u).setIfInBounds tp₂ v, defers := [] } := by simp
      show assign.wpIn (FR (some (w.heap.size + 1))) 0 P _ _ W
      refine wpIn_mono (F := FR (some (w.heap.size + 1))) (n := 0) (by first | exact has | (rw [← hrun0] at has; exact has)) ?_
      rintro e a1 W2 ⟨rfl, hg2, hst2⟩
      have hl2 : W2.heap[w.heap.size + 1]? = some (.loop (rec .ready none)) := (hg2.block _ hlt).trans hl
      have hk2 : W2.heap[w.heap.size]? = some (.deferred (some [])) := (hg2.block _ (by omega)).trans hk
      have hH2 := hH.grow hg2
      have hlt2 : w.heap.size + 1 < W2.heap.size := (Array.getElem?_eq_some_iff.1 hl2).1
      refine ⟨_, run_beginRound hl2 (by rw [hrec]), ?_⟩
      have hl3 : (W2.putObj (w.heap.size + 1) (.loop { rec .ready none with state := .busy })).heap[w.heap.size + 1]? = some (.loop { rec .ready none with state := .busy }) := World.putObj_heap_same hlt2
      have hk3 : (W2.putObj (w.heap.size + 1) (.loop { rec .ready none with state := .busy })).heap[w.heap.size]? = some (.deferred (some [])) := (World.putObj_heap_other (by omega)).trans hk2
      have hH3 := hH2.putObj (.loop { rec .ready none with state := .busy }) hl2 rfl hBl (hfV i _ hBl)
      have hst3 : St ⟨some (w.heap.size + 1), []⟩ n w₀.heap.size ((vL, recD (w.heap.size + 1) (.loop { rec .ready none with state := .busy }) W.heap.size) :: (vD, recD w.heap.size (.deferred (some [])) 0) :: Eb i) a1 (W2.putObj (w.heap.size + 1) (.loop { rec .ready none with state := .busy })) := by
        refine ⟨hH3.2.1, hst2.defers, hst2.size, fun t e he => ?_⟩
        by_cases hts : vL = t
        · subst hts
          rw [look_here] at he; injection he with he; subst he
          exact ⟨by simpa using hlt2, by simpa using hg2.size, hl3⟩
        · rw [look_past _ _ hts] at he
          by_cases hts' : vD = t
          · subst hts'
            rw [look_here] at he; injection he with he; subst he
            exact ⟨by simp; omega, Nat.zero_le _, hk3⟩
          · rw [look_past _ _ hts'] at he
            exact hfE i _ hBl _ (look_mem he) W2 _ _ _ hl2 rfl (hst2.of t e he)
      refine wpIn_mono (F := FR (some (w.heap.size + 1))) (n := 0) (hbody i _ _ _ _ hi hok a1 _ hH3.1 hst3) ?_
      rintro e a3 W3 hp
      cases e with
      | normal =>
        obtain ⟨hbk, hb3, hs3, hv3⟩ := hp
        obtain ⟨hlt3, hm3, hl4⟩ := hv3 _ List.mem_cons_self
        obtain ⟨_, _, hk4⟩ := hv3 _ (List.mem_cons_of_mem _ List.mem_cons_self)
        have hH4 : Holds w₀ (V (i + 1)) W3 := ⟨hb3, hs3, fun p hp => hv3 p (List.mem_cons_of_mem _ (List.mem_cons_of_mem _ hp))⟩
        have hend := run_endRound (P := P) none hl4
        refine ⟨_, _, hend, by rw [hbk]; rfl, fun _ => ⟨hH4.putObj _ hl4 rfl hBl (hfV _ _ hBl), ?_, (World.putObj_heap_other (by omega)).trans hk4⟩, fun h => (by rw [hbk] at h; cases h), by simpa using hm3⟩
        have := World.putObj_heap_same (o := .loop { { rec .ready none with state := .busy } with state := .ready, pending := none }) hlt3
        rw [hrec] at this ⊢
        exact this
      | ret =>
        obtain ⟨hbk, hb3, hs3, hv3⟩ := hp
        obtain ⟨hlt3, hm3, hl4⟩ := hv3 _ List.mem_cons_self
        obtain ⟨_, _, hk4⟩ := hv3 _ (List.mem_cons_of_mem _ List.mem_cons_self)
        have hH4 : Holds w₀ (Vx i) W3 := ⟨hb3, hs3, fun p hp => hv3 p (List.mem_cons_of_mem _ (List.mem_cons_of_mem _ hp))⟩
        have hend := run_endRound (P := P) (some .ret) hl4
        refine ⟨_, _, hend, by rw [hbk]; rfl, fun h => (by rw [hbk] at h; cases h), fun _ => ⟨hH4.putObj _ hl4 rfl hBl (hfX _ _ hBl), ?_, (World.putObj_heap_other (by omega)).trans hk4⟩, by simpa using hm3⟩
        have := World.putObj_heap_same (o := .loop { { rec .ready none with state := .busy } with state := .done, pending := some .ret }) hlt3
        rw [hrec] at this ⊢
        exact this
      | _ => exact hp.elim
    · -- behind it
      have hBl : w₀.heap.size ≤ w.heap.size + 1 := by omega
      rintro e W2 ⟨⟨v, rfl⟩, ⟨hok, hH, hl, hk⟩ | ⟨i, hi, hok, hko, hH, hl, hk⟩⟩
      · have hlt2 : w.heap.size + 1 < W2.heap.size := (Array.getElem?_eq_some_iff.1 hl).1
        have hel := run_endLoop (P := P) hl (by rw [hrec]; simp)
        refine ⟨none, _, by rw [hrec] at hel; exact hel, ?_⟩
        have hH3 := hH.putObj (.loop { state := .exhausted, pending := none, fn, tmps := a.tmps, params := #[tp₁, tp₂], assign, body, defers := w.heap.size }) hl rfl hBl (hfV N _ hBl)
        refine hend w.heap.size hst.base hok _ _ hH3.1 (hstS _ (V N) _ _ _ (hV N) (by simp [hst.defers]) hst.size hH3 (by simp; omega) fun t e he => ?_)
        by_cases hts : vD = t
        · subst hts
          rw [look_here] at he; injection he with he; subst he
          exact .inl ⟨by simp; omega, Nat.zero_le _, (World.putObj_heap_other (by omega)).trans hk⟩
        · rw [look_past _ _ hts] at he
          exact .inr ⟨look_mem he, fun _ => rfl⟩
      · have hlt2 : w.heap.size + 1 < W2.heap.size := (Array.getElem?_eq_some_iff.1 hl).1
        have hel := run_endLoop (P := P) hl (by rw [hrec]; simp)
        refine ⟨some .ret, _, by rw [hrec] at hel; exact hel, ?_⟩
        have hH3 := hH.putObj (.loop { state := .exhausted, pending := some .ret, fn, tmps := a.tmps, params := #[tp₁, tp₂], assign, body, defers := w.heap.size }) hl rfl hBl (hfX i _ hBl)
        refine wpIn_ret (hendx w.heap.size i hst.base hi hok hko _ _ hH3.1 (hstS _ (Vx i) _ _ _ (hVx i) (by simp [hst.defers]) hst.size hH3 (by simp; omega) fun t e he => ?_))
        by_cases hts : vD = t
        · subst hts
          rw [look_here] at he; injection he with he; subst he
          exact .inl ⟨by simp; omega, Nat.zero_le _, (World.putObj_heap_other (by omega)).trans hk⟩
        · rw [look_past _ _ hts] at he
          exact .inr ⟨look_mem he, fun _ => rfl⟩
end
/-! ### Results in variables of one cell -/
section
variable {P : Program} {n : Nat} {w₀ : World} {E : Env}
theorem load_one {w : World} {b : Nat} {e T : TypeId} {td : TypeDesc} {x : Value} (ht : P.underlying T = some td) (hp : (match td with | .struct _ | .array _ _ => false | _ => true) = true) (hh : w.heap[b]? = some (.cells [x].toArray e (0, 0))) :
    (loadVar T ⟨b, 0, none⟩).run P w = .ok x w := by
  have hagg : (isAgg T).run P w = .ok false w := by
    unfold isAgg
    simp only [Sem.run_bind, run_underlying ht, Result.andThen_ok]
    cases td <;> simp_all
  have hc : w.cell? ⟨b, 0, none⟩ = some x := by simp [World.cell?, hh]
  simp [loadVar, hagg, hc]
theorem End.cellS2 {fn : Func} {r s b r' s' b' : Nat} {T e T' e' : TypeId} {td td' : TypeDesc} {x x' : Value} (hr : fn.results = #[.cell r T, .cell r' T']) (ht : P.underlying T = some td) (hp : (match td with | .struct _ | .array _ _ => false | _ => true) = true) (h1 : E.look r = some (.v (.pointer (some ⟨b, 0, none⟩)))) (h2 : E.look s = some (blk b e [x]))
    (ht' : P.underlying T' = some td') (hp' : (match td' with | .struct _ | .array _ _ => false | _ => true) = true) (h1' : E.look r' = some (.v (.pointer (some ⟨b', 0, none⟩)))) (h2' : E.look s' = some (blk b' e' [x'])) : End Cx.top w₀ n E (BP P fn (PostOf w₀ (.v (.tuple #[x, x']))) .ret) := fun a w g hs => by
  have h3 : a.tmps[r]?.getD undef = .pointer (some ⟨b, 0, none⟩) := by rw [← Array.getD_eq_getD_getElem?]; exact hs.of r _ h1
  have h3' : a.tmps[r']?.getD undef = .pointer (some ⟨b', 0, none⟩) := by rw [← Array.getD_eq_getD_getElem?]; exact hs.of r' _ h1'
  obtain ⟨_, hh⟩ := hs.of s _ h2
  obtain ⟨_, hh'⟩ := hs.of s' _ h2'
  exact BP.ret hs.defers ⟨.tuple #[x, x'], by simp [results, hr, h3, h3', asAddr, load_one ht hp hh, load_one ht' hp' hh'], _, rfl, g, rfl⟩
theorem End.cellS2C {fn : Func} {D vD m r s b r' s' b' : Nat} {T e T' e' : TypeId} {td td' : TypeDesc} {x x' : Value} (hD : E.look vD = some (recD D (.deferred (some [])) m)) (hDB : w₀.heap.size ≤ D) (hr : fn.results = #[.cell r T, .cell r' T']) (ht : P.underlying T = some td) (hp : (match td with | .struct _ | .array _ _ => false | _ => true) = true) (h1 : E.look r = some (.v (.pointer (some ⟨b, 0, none⟩)))) (h2 : E.look s = some (blk b e [x]))
    (ht' : P.underlying T' = some td') (hp' : (match td' with | .struct _ | .array _ _ => false | _ => true) = true) (h1' : E.look r' = some (.v (.pointer (some ⟨b', 0, none⟩)))) (h2' : E.look s' = some (blk b' e' [x'])) : End ⟨none, [{ target := .collected D, args := #[] }]⟩ w₀ n E (BP P fn (PostOf w₀ (.v (.tuple #[x, x']))) .ret) := fun a w g hs => by
  have h3 : a.tmps[r]?.getD undef = .pointer (some ⟨b, 0, none⟩) := by rw [← Array.getD_eq_getD_getElem?]; exact hs.of r _ h1
  have h3' : a.tmps[r']?.getD undef = .pointer (some ⟨b', 0, none⟩) := by rw [← Array.getD_eq_getD_getElem?]; exact hs.of r' _ h1'
  obtain ⟨_, _, hk⟩ := hs.of vD _ hD
  obtain ⟨_, hh⟩ := hs.of s _ h2
  obtain ⟨_, hh'⟩ := hs.of s' _ h2'
  have k : (w.putObj D (.deferred none)).heap[b]? = some (.cells [x].toArray e (0, 0)) := (World.putObj_heap_other fun h => by subst h; rw [hh] at hk; cases hk).trans hh
  have k' : (w.putObj D (.deferred none)).heap[b']? = some (.cells [x'].toArray e' (0, 0)) := (World.putObj_heap_other fun h => by subst h; rw [hh'] at hk; cases hk).trans hh'
  show LeavesInM (FR none) 0 P fn a.tmps _ a.defers .returning w
  rw [show a.defers = [{ target := .collected D, args := #[] }] from hs.defers]
  refine ⟨by simp, .inl ⟨D, _, rfl, run_takeDeferred hk, ?_⟩⟩
  exact ⟨.tuple #[x, x'], by simp [results, hr, h3, h3', asAddr, load_one ht hp k, load_one ht' hp' k'], _, rfl, Below.trans g (below_putObj w _ hDB), rfl⟩
theorem End.cellS3 {fn : Func} {r s b r' s' b' r'' s'' b'' : Nat} {T e T' e' T'' e'' : TypeId} {td td' td'' : TypeDesc} {x x' x'' : Value} (hr : fn.results = #[.cell r T, .cell r' T', .cell r'' T'']) (ht : P.underlying T = some td) (hp : (match td with | .struct _ | .array _ _ => false | _ => true) = true) (h1 : E.look r = some (.v (.pointer (some ⟨b, 0, none⟩)))) (h2 : E.look s = some (blk b e [x]))
    (ht' : P.underlying T' = some td') (hp' : (match td' with | .struct _ | .array _ _ => false | _ => true) = true) (h1' : E.look r' = some (.v (.pointer (some ⟨b', 0, none⟩)))) (h2' : E.look s' = some (blk b' e' [x']))
    (ht'' : P.underlying T'' = some td'') (hp'' : (match td'' with | .struct _ | .array _ _ => false | _ => true) = true) (h1'' : E.look r'' = some (.v (.pointer (some ⟨b'', 0, none⟩)))) (h2'' : E.look s'' = some (blk b'' e'' [x''])) : End Cx.top w₀ n E (BP P fn (PostOf w₀ (.v (.tuple #[x, x', x'']))) .ret) := fun a w g hs => by
  have h3 : a.tmps[r]?.getD undef = .pointer (some ⟨b, 0, none⟩) := by rw [← Array.getD_eq_getD_getElem?]; exact hs.of r _ h1
  have h3' : a.tmps[r']?.getD undef = .pointer (some ⟨b', 0, none⟩) := by rw [← Array.getD_eq_getD_getElem?]; exact hs.of r' _ h1'
  have h3'' : a.tmps[r'']?.getD undef = .pointer (some ⟨b'', 0, none⟩) := by rw [← Array.getD_eq_getD_getElem?]; exact hs.of r'' _ h1''
  obtain ⟨_, hh⟩ := hs.of s _ h2
  obtain ⟨_, hh'⟩ := hs.of s' _ h2'
  obtain ⟨_, hh''⟩ := hs.of s'' _ h2''
  exact BP.ret hs.defers ⟨.tuple #[x, x', x''], by simp [results, hr, h3, h3', h3'', asAddr, load_one ht hp hh, load_one ht' hp' hh', load_one ht'' hp'' hh''], _, rfl, g, rfl⟩
theorem End.cellS3C {fn : Func} {D vD m r s b r' s' b' r'' s'' b'' : Nat} {T e T' e' T'' e'' : TypeId} {td td' td'' : TypeDesc} {x x' x'' : Value} (hD : E.look vD = some (recD D (.deferred (some [])) m)) (hDB : w₀.heap.size ≤ D) (hr : fn.results = #[.cell r T, .cell r' T', .cell r'' T'']) (ht : P.underlying T = some td) (hp : (match td with | .struct _ | .array _ _ => false | _ => true) = true) (h1 : E.look r = some (.v (.pointer (some ⟨b, 0, none⟩)))) (h2 : E.look s = some (blk b e [x]))
    (ht' : P.underlying T' = some td') (hp' : (match td' with | .struct _ | .array _ _ => false | _ => true) = true) (h1' : E.look r' = some (.v (.pointer (some ⟨b', 0, none⟩)))) (h2' : E.look s' = some (blk b' e' [x']))
    (ht'' : P.underlying T'' = some td'') (hp'' : (match td'' with | .struct _ | .array _ _ => false | _ => true) = true) (h1'' : E.look r'' = some (.v (.pointer (some ⟨b'', 0, none⟩)))) (h2'' : E.look s'' = some (blk b'' e'' [x''])) : End ⟨none, [{ target := .collected D, args := #[] }]⟩ w₀ n E (BP P fn (PostOf w₀ (.v (.tuple #[x, x', x'']))) .ret) := fun a w g hs => by
  have h3 : a.tmps[r]?.getD undef = .pointer (some ⟨b, 0, none⟩) := by rw [← Array.getD_eq_getD_getElem?]; exact hs.of r _ h1
  have h3' : a.tmps[r']?.getD undef = .pointer (some ⟨b', 0, none⟩) := by rw [← Array.getD_eq_getD_getElem?]; exact hs.of r' _ h1'
  have h3'' : a.tmps[r'']?.getD undef = .pointer (some ⟨b'', 0, none⟩) := by rw [← Array.getD_eq_getD_getElem?]; exact hs.of r'' _ h1''
  obtain ⟨_, _, hk⟩ := hs.of vD _ hD
  obtain ⟨_, hh⟩ := hs.of s _ h2
  obtain ⟨_, hh'⟩ := hs.of s' _ h2'
  obtain ⟨_, hh''⟩ := hs.of s'' _ h2''
  have k : (w.putObj D (.deferred none)).heap[b]? = some (.cells [x].toArray e (0, 0)) := (World.putObj_heap_other fun h => by subst h; rw [hh] at hk; cases hk).trans hh
  have k' : (w.putObj D (.deferred none)).heap[b']? = some (.cells [x'].toArray e' (0, 0)) := (World.putObj_heap_other fun h => by subst h; rw [hh'] at hk; cases hk).trans hh'
  have k'' : (w.putObj D (.deferred none)).heap[b'']? = some (.cells [x''].toArray e'' (0, 0)) := (World.putObj_heap_other fun h => by subst h; rw [hh''] at hk; cases hk).trans hh''
  show LeavesInM (FR none) 0 P fn a.tmps _ a.defers .returning w
  rw [show a.defers = [{ target := .collected D, args := #[] }] from hs.defers]
  refine ⟨by simp, .inl ⟨D, _, rfl, run_takeDeferred hk, ?_⟩⟩
  exact ⟨.tuple #[x, x', x''], by simp [results, hr, h3, h3', h3'', asAddr, load_one ht hp k, load_one ht' hp' k', load_one ht'' hp'' k''], _, rfl, Below.trans g (below_putObj w _ hDB), rfl⟩
end
end Go.Proofs.YtfjpipkcfbmdeaaDoor
namespace Go.Proofs.YtfjpipkcfbmdeaaDoor
open Go Go.RowKit
set_option linter.unusedVariables false
set_option linter.unusedSimpArgs false
structure CelT where
  t : List UInt8
  e : Nat
  m : Nat
namespace CelT
def zero : CelT := ⟨zD, 0, 0⟩
def v (c : CelT) : List Value := celV c.t c.e c.m
structure Fit (c : CelT) : Prop where
  t : c.t.length = 32
  e : c.e < 18446744073709551616
  m : c.m < 18446744073709551616
theorem zero_fit : zero.Fit := ⟨rfl, by decide, by decide⟩
theorem Fit.len {c : CelT} (h : c.Fit) : c.v.length = 34 := cel_len h.t _ _
theorem Fit.kin {c : CelT} (h : c.Fit) : Kin (fun _ _ => True) (List.replicate 32 .u8 ++ [.u64, .u64]) c.v := kinCel h.t _ _
theorem one (c : CelT) : c.v.all (·.oneCell') = true := cel_one _ _ _
theorem Fit.vt {c : CelT} (h : c.Fit) : (c.v.drop 0).take 32 = c.t.map byteV := cel_root h.t _ _
theorem Fit.ve {c : CelT} (h : c.Fit) : c.v[32]? = some (.int .u64 ((c.e : Nat) : Int)) := cel_e h.t _ _
theorem Fit.vm {c : CelT} (h : c.Fit) : c.v[33]? = some (.int .u64 ((c.m : Nat) : Int)) := cel_m h.t _ _
theorem v_inj {a b : CelT} (ha : a.Fit) (hb : b.Fit) (h : a.v = b.v) : a = b := by
  obtain ⟨t, e, m⟩ := a
  obtain ⟨t', e', m'⟩ := b
  obtain ⟨h1, h2⟩ := List.append_inj h (by simp only [List.length_map]; exact ha.t.trans hb.t.symm)
  injection h2 with h3 h2
  injection h2 with h4 _
  injection h3 with _ h3
  injection h4 with _ h4
  obtain rfl : t = t' := bytes_inj h1
  obtain rfl : e = e' := Int.ofNat.inj h3
  obtain rfl : m = m' := Int.ofNat.inj h4
  rfl
theorem deq {a b : CelT} (ha : a.Fit) (hb : b.Fit) : ∀ d : Decidable (a = b), @decide _ d = true ↔ a.v = b.v := fun d => by
  rw [decide_eq_true_iff]; exact ⟨fun h => by rw [h], v_inj ha hb⟩
instance : DecidableEq CelT := fun a b => if h : a.t = b.t ∧ a.e = b.e ∧ a.m = b.m then .isTrue (by obtain ⟨t, e, m⟩ := a; obtain ⟨t', e', m'⟩ := b; obtain ⟨h1, h2, h3⟩ := h; simp only at h1 h2 h3; subst h1; subst h2; subst h3; rfl) else .isFalse fun hab => h (by subst hab; exact ⟨rfl, rfl, rfl⟩)
theorem eq_iff {a b : CelT} : a = b ↔ a.t = b.t ∧ a.e = b.e ∧ a.m = b.m := ⟨fun h => by subst h; exact ⟨rfl, rfl, rfl⟩, fun ⟨h1, h2, h3⟩ => by obtain ⟨t, e, m⟩ := a; obtain ⟨t', e', m'⟩ := b; simp only at h1 h2 h3; subst h1; subst h2; subst h3; rfl⟩
/-- How b follows a: 1 by a commit, 2 by a reservation, 0 not at all. -/
def fol (a b : CelT) : Nat := if a.e + 1 = b.e ∧ a.m = b.m then 1 else if a.e = b.e ∧ a.t = b.t ∧ a.m < b.m then 2 else 0
theorem fol_one {a b : CelT} (h1 : a.e + 1 = b.e) (h2 : a.m = b.m) : fol a b = 1 := if_pos ⟨h1, h2⟩
theorem fol_two {a b : CelT} (h1 : a.e = b.e) (h2 : a.t = b.t) (h3 : a.m < b.m) : fol a b = 2 := by unfold fol; rw [if_neg (by omega), if_pos ⟨h1, h2, h3⟩]
theorem fol_no {a b : CelT} (h1 : ¬ (a.e + 1 = b.e ∧ a.m = b.m)) (h2 : ¬ (a.e = b.e ∧ a.t = b.t ∧ a.m < b.m)) : fol a b = 0 := by unfold fol; rw [if_neg h1, if_neg h2]
theorem fol_le (a b : CelT) : fol a b ≤ 2 := by
  unfold fol
  split
  · decide
  · split <;> decide
theorem fol_self (a : CelT) : fol a a = 0 := fol_no (by omega) (by omega)
/-- What Next returns. -/
def nxC (c : CelT) (t : List UInt8) : CelT := if c.e = 18446744073709551615 then zero else ⟨t, c.e + 1, c.m⟩
def nxE (c : CelT) : Int := if c.e = 18446744073709551615 then 3 else 0
theorem nx_fit {c : CelT} (h : c.Fit) {t : List UInt8} (ht : t.length = 32) : (nxC c t).Fit := by
  unfold nxC
  split
  · exact zero_fit
  · exact ⟨ht, by have := h.e; show c.e + 1 < _; omega, h.m⟩
/-- What Reserve returns. -/
def rsC (c : CelT) (k lim : Nat) : CelT := if k = 0 ∨ lim < c.m ∨ lim - c.m < k then zero else ⟨c.t, c.e, c.m + k⟩
def rsE (c : CelT) (k lim : Nat) : Int := if k = 0 then 1 else if lim < c.m ∨ lim - c.m < k then 8 else 0
theorem rs_fit {c : CelT} (h : c.Fit) {k lim : Nat} (hl : lim < 18446744073709551616) : (rsC c k lim).Fit := by
  unfold rsC
  split
  · exact zero_fit
  · exact ⟨h.t, h.e, by show c.m + k < _; omega⟩
end CelT
abbrev celsV (l : List CelT) : List Value := l.flatMap CelT.v
theorem cels_lens {l : List CelT} (h : ∀ c ∈ l, c.Fit) : ∀ c ∈ l, c.v.length = 34 := fun c hc => (h c hc).len
theorem cels_len {l : List CelT} (h : ∀ c ∈ l, c.Fit) : (celsV l).length = l.length * 34 := flat_length (cels_lens h)
def ceAt (l : List CelT) (i : Nat) : CelT := l.getD i CelT.zero
theorem ceAt_mem {l : List CelT} {i : Nat} (h : i < l.length) : ceAt l i ∈ l := by
  unfold ceAt; rw [List.getD_eq_getElem?_getD, List.getElem?_eq_getElem h]; exact List.getElem_mem h
theorem ceAt_fit {l : List CelT} (h : ∀ c ∈ l, c.Fit) (i : Nat) : (ceAt l i).Fit := by
  by_cases hi : i < l.length
  · exact h _ (ceAt_mem hi)
  · unfold ceAt; rw [List.getD_eq_getElem?_getD, List.getElem?_eq_none (by omega)]; exact CelT.zero_fit
theorem cels_at {l : List CelT} (h : ∀ c ∈ l, c.Fit) {i : Nat} (hi : i < l.length) : ((celsV l).drop (i * 34)).take 34 = (ceAt l i).v := flat_getD (cels_lens h) hi CelT.zero
theorem cels_take {l : List CelT} (h : ∀ c ∈ l, c.Fit) (i : Nat) : (celsV l).take (i * 34) = celsV (l.take i) := by
  induction i generalizing l with
  | zero => simp
  | succ i ih =>
    cases l with
    | nil => simp
    | cons a l =>
      have ha := (h a List.mem_cons_self).len
      show (a.v ++ celsV l).take ((i + 1) * 34) = a.v ++ celsV (l.take i)
      rw [← ih (fun x hx => h x (List.mem_cons_of_mem _ hx)), Nat.succ_mul, Nat.add_comm, ← ha, List.take_length_add_append]
/-- How the cell behind index k follows the one at k. -/
def folAt (l : List CelT) (k : Nat) : Nat := CelT.fol (ceAt l k) (ceAt l (k + 1))
/-- The round k goes on. -/
def okAt (l : List CelT) (k : Nat) : Bool := decide (folAt l k ≠ 0)
theorem okAt_true {l : List CelT} {k : Nat} : okAt l k = true ↔ folAt l k ≠ 0 := by simp [okAt]
theorem okAt_false {l : List CelT} {k : Nat} : okAt l k = false ↔ folAt l k = 0 := by simp [okAt]
/-- The index of the first cell, of those up to n, that does not follow; 0 if there is none. -/
def faultN (l : List CelT) : Nat → Nat
  | 0 => 0
  | n + 1 => if faultN l n = 0 then (if folAt l n = 0 then n + 1 else 0) else faultN l n
def fault (l : List CelT) : Nat := faultN l (l.length - 1)
theorem faultN_le (l : List CelT) : ∀ n, faultN l n ≤ n
  | 0 => Nat.le_refl _
  | n + 1 => by
    have := faultN_le l n
    unfold faultN
    split
    · split <;> omega
    · omega
theorem faultN_no {l : List CelT} : ∀ {n : Nat}, (∀ k, k < n → okAt l k = true) → faultN l n = 0
  | 0, _ => rfl
  | n + 1, h => by unfold faultN; rw [if_pos (faultN_no fun k hk => h k (by omega)), if_neg (okAt_true.1 (h n (Nat.lt_succ_self n)))]
theorem faultN_at {l : List CelT} {i : Nat} (h : ∀ k, k < i → okAt l k = true) (hi : okAt l i = false) : ∀ {n : Nat}, i < n → faultN l n = i + 1
  | n + 1, hn => by
    unfold faultN
    rcases Nat.lt_or_ge i n with h1 | h1
    · rw [faultN_at h hi h1, if_neg (by omega)]
    · obtain rfl : i = n := by omega
      rw [if_pos (faultN_no h), if_pos (okAt_false.1 hi)]
/-- The indices of the commits among the first n that follow. -/
def comN (l : List CelT) : Nat → List Nat
  | 0 => []
  | n + 1 => comN l n ++ if folAt l n = 1 then [n + 1] else []
def com (l : List CelT) : List Nat := comN l (l.length - 1)
theorem comN_le (l : List CelT) : ∀ n, (comN l n).length ≤ n
  | 0 => Nat.le_refl _
  | n + 1 => by have := comN_le l n; unfold comN; rw [List.length_append]; split <;> simp <;> omega
theorem comN_y {l : List CelT} {n : Nat} (h : folAt l n = 1) : comN l (n + 1) = comN l n ++ [n + 1] := by rw [comN, if_pos h]
theorem comN_n {l : List CelT} {n : Nat} (h : folAt l n ≠ 1) : comN l (n + 1) = comN l n := by rw [comN, if_neg h, List.append_nil]
abbrev intsV (l : List Nat) : List Value := l.map fun k => nI k
/-- The first of these cells that does not follow is told by the cells before n alone. -/
theorem folAt_cut {l : List CelT} {i j k : Nat} (h : i + k + 1 < j) (hj : j ≤ l.length) : folAt ((l.take j).drop i) k = folAt l (i + k) := by
  have hc : ∀ m, i + m < j → ceAt ((l.take j).drop i) m = ceAt l (i + m) := fun m hm => by
    unfold ceAt; rw [List.getD_eq_getElem?_getD, List.getD_eq_getElem?_getD, List.getElem?_drop, List.getElem?_take, if_pos hm]
  unfold folAt; rw [hc k (by omega), hc (k + 1) (by omega), Nat.add_assoc]
end Go.Proofs.YtfjpipkcfbmdeaaDoor
namespace Go.Proofs.YtfjpipkcfbmdeaaDoor
open Go Go.RowKit
set_option linter.unusedSimpArgs false
set_option linter.unusedVariables false
structure Us where
  key : List UInt8
  s : Nat
  c : Nat
  f : Nat
  l : Nat
deriving DecidableEq
instance : Inhabited Us := ⟨⟨[], 0, 0, 0, 0⟩⟩
def Us.Fit (u : Us) : Prop := u.key.length = 16 ∧ u.s < 4294967296 ∧ u.c < 18446744073709551616 ∧ u.f < 4294967296 ∧ u.l < 4294967296
def Fits (us : List Us) : Prop := ∀ u ∈ us, u.Fit
theorem Fits.cons {u : Us} {us : List Us} (h : Fits (u :: us)) : u.Fit ∧ Fits us := ⟨h u (by simp), fun v hv => h v (by simp [hv])⟩
theorem Fits.append {us vs : List Us} (h : Fits us) (k : Fits vs) : Fits (us ++ vs) := fun u hu => (List.mem_append.1 hu).elim (h u) (k u)
theorem Fits.get {us : List Us} {i : Nat} (h : Fits us) (hi : i < us.length) : us[i].Fit := h _ (List.getElem_mem hi)
/-! ### Clashes -/
def ovB (s c f l s' c' f' l' : Nat) : Bool := decide (s = s' ∧ c = c') && decide (max f f' ≤ min l l')
def Us.ok (u : Us) : Bool := decide (u.f ≤ u.l)
def clB (a b : Us) : Bool := decide (a.key = b.key) && ovB a.s a.c a.f a.l b.s b.c b.f b.l
def stOf (u : Us) : List UInt8 × Nat × Nat := (u.key, u.s, u.c)
theorem clB_iff {a b : Us} : clB a b = true ↔ stOf a = stOf b ∧ max a.f b.f ≤ min a.l b.l := by
  simp only [clB, ovB, stOf, Bool.and_eq_true, decide_eq_true_eq, Prod.mk.injEq]
  constructor
  · rintro ⟨h1, ⟨h2, h3⟩, h4⟩; exact ⟨⟨h1, h2, h3⟩, h4⟩
  · rintro ⟨⟨h1, h2, h3⟩, h4⟩; exact ⟨h1, ⟨h2, h3⟩, h4⟩
/-- Use j clashes with one before it. -/
def cAt (us : List Us) (j : Nat) : Bool := (List.range j).any fun i => clB us[i]! us[j]!
theorem cAt_iff {us : List Us} {j : Nat} : cAt us j = true ↔ ∃ i, i < j ∧ clB us[i]! us[j]! = true := by simp [cAt]
/-- Among the uses up to j two clash. -/
def cUp (us : List Us) (j : Nat) : Bool := (List.range (j + 1)).any (cAt us)
theorem cUp_iff {us : List Us} {j : Nat} : cUp us j = true ↔ ∃ i k, i < k ∧ k ≤ j ∧ clB us[i]! us[k]! = true := by
  simp only [cUp, List.any_eq_true, List.mem_range, cAt_iff]
  constructor
  · rintro ⟨k, hk, i, hi, h⟩; exact ⟨i, k, hi, by omega, h⟩
  · rintro ⟨i, k, hi, hk, h⟩; exact ⟨k, by omega, i, hi, h⟩
/-! ### Lists of the uses of one key stream -/
/-- The walk through a list: those beyond j are passed over; does one clash with the last that was not? -/
def repG (us : List Us) (j : Nat) : Option Nat → List Nat → Bool
  | _, [] => false
  | b, i :: r => if j < i then repG us j b r else match b with
    | none => repG us j (some i) r
    | some k => if clB us[k]! us[i]! then true else repG us j (some i) r
def Sorted (us : List Us) (L : List Nat) : Prop := L.Pairwise fun a b => us[a]!.f ≤ us[b]!.f
theorem repG_sound (us : List Us) (j : Nat) : ∀ (L : List Nat) (b : Option Nat), repG us j b L = true → ∃ x y, (x ∈ L ∨ b = some x) ∧ y ∈ L ∧ y ≤ j ∧ clB us[x]! us[y]! = true ∧ (∀ k, b = some k → x = k ∨ (x ∈ L ∧ x ≤ j)) ∧ (b = none → x ≤ j) ∧ [x, y].Sublist (b.toList ++ L)
  | [], b, h => by simp [repG] at h
  | i :: r, b, h => by
    unfold repG at h
    split at h
    · obtain ⟨x, y, h1, h2, h3, h4, h5, h6, h7⟩ := repG_sound us j r b h
      refine ⟨x, y, h1.imp (fun h => List.mem_cons_of_mem _ h) id, List.mem_cons_of_mem _ h2, h3, h4, fun k hk => (h5 k hk).imp id fun h => ⟨List.mem_cons_of_mem _ h.1, h.2⟩, h6, ?_⟩
      exact h7.trans (List.Sublist.append (List.Sublist.refl _) (List.sublist_cons_self _ _))
    · rename_i hij
      cases b with
      | none =>
        obtain ⟨x, y, h1, h2, h3, h4, h5, h6, h7⟩ := repG_sound us j r (some i) h
        refine ⟨x, y, .inl ?_, List.mem_cons_of_mem _ h2, h3, h4, (fun k hk => by cases hk), fun _ => ?_, by simpa using h7⟩
        · rcases h5 i rfl with rfl | h; · simp
          · exact List.mem_cons_of_mem _ h.1
        · rcases h5 i rfl with rfl | h; · omega
          · exact h.2
      | some k =>
        simp only at h
        split at h
        · rename_i hc
          exact ⟨k, i, .inr rfl, by simp, by omega, hc, (fun k' hk => .inl (by injection hk)), (fun h => by cases h), by simp⟩
        · obtain ⟨x, y, h1, h2, h3, h4, h5, h6, h7⟩ := repG_sound us j r (some i) h
          refine ⟨x, y, .inl ?_, List.mem_cons_of_mem _ h2, h3, h4, fun k' _ => .inr ?_, fun h => (by cases h), ?_⟩
          · rcases h5 i rfl with rfl | h; · simp
            · exact List.mem_cons_of_mem _ h.1
          · rcases h5 i rfl with rfl | h
            · exact ⟨by simp, by omega⟩
            · exact ⟨List.mem_cons_of_mem _ h.1, h.2⟩
          · exact h7.trans (by simp)
theorem cl_step {a b c : Us} (h1 : clB a c = true) (h2 : stOf a = stOf b) (h3 : b.ok = true) (h4 : a.f ≤ b.f) (h5 : b.f ≤ c.f) : clB a b = true := by
  rw [clB_iff] at h1 ⊢
  have h3 : b.f ≤ b.l := by simpa [Us.ok] using h3
  exact ⟨h2, by omega⟩
theorem repG_full (us : List Us) (hv : ∀ u ∈ us, u.ok = true) (j : Nat) : ∀ (L : List Nat) (b : Option Nat), Sorted us (b.toList ++ L) → (∀ x ∈ b.toList ++ L, x < us.length) → (∀ x ∈ b.toList ++ L, ∀ y ∈ b.toList ++ L, stOf us[x]! = stOf us[y]!) →
    (∀ k, b = some k → k ≤ j) → ∀ x y, [x, y].Sublist (b.toList ++ L) → x ≤ j → y ≤ j → clB us[x]! us[y]! = true → repG us j b L = true
  | [], b, _, _, _, _, x, y, h, _, _, _ => by
    have := h.length_le
    cases b <;> simp at this
  | i :: r, b, hs, hl, hst, hb, x, y, h, hx, hy, hc => by
    unfold repG
    split
    · rename_i hij
      have drop : ∀ {z : Nat}, z ∈ b.toList ++ r → z ∈ b.toList ++ i :: r := fun hz => by
        rcases List.mem_append.1 hz with h | h
        · exact List.mem_append_left _ h
        · exact List.mem_append_right _ (List.mem_cons_of_mem _ h)
      refine repG_full us hv j r b (hs.sublist (List.Sublist.append (List.Sublist.refl _) (List.sublist_cons_self _ _))) (fun z hz => hl z (drop hz)) (fun z hz z' hz' => hst z (drop hz) z' (drop hz')) hb x y ?_ hx hy hc
      cases b with
      | none =>
        simp only [Option.toList_none, List.nil_append] at h ⊢
        cases h with
        | cons _ h => exact h
        | cons_cons _ h => omega
      | some k =>
        simp only [Option.toList_some, List.singleton_append] at h ⊢
        cases h with
        | cons _ h =>
          cases h with
          | cons _ h => exact h.cons _
          | cons_cons _ h => omega
        | cons_cons _ h =>
          cases h with
          | cons _ h => exact h.cons_cons _
          | cons_cons _ h => omega
    · rename_i hij
      cases b with
      | none => exact repG_full us hv j r (some i) (by simpa using hs) (by simpa using hl) (by simpa using hst) (fun k hk => by injection hk with hk; omega) x y (by simpa using h) hx hy hc
      | some k =>
        simp only
        split
        · rfl
        · rename_i hki
          simp only [Option.toList_some, List.singleton_append] at hs hl hst h
          refine repG_full us hv j r (some i) (List.pairwise_cons.1 hs).2 (fun z hz => hl z (List.mem_cons_of_mem _ hz)) (fun z hz z' hz' => hst z (List.mem_cons_of_mem _ hz) z' (List.mem_cons_of_mem _ hz')) (fun k hk => by injection hk with hk; omega) x y ?_ hx hy hc
          simp only [Option.toList_some, List.singleton_append]
          cases h with
          | cons _ h => exact h
          | cons_cons _ h =>
            exfalso
            have hyi : y = i ∨ y ∈ r := List.mem_cons.1 (List.singleton_sublist.1 h)
            rcases hyi with rfl | hyr
            · exact hki hc
            · apply hki
              have hs' := List.pairwise_cons.1 hs
              have hil : i < us.length := hl i (by simp)
              refine cl_step hc (hst x List.mem_cons_self i (List.mem_cons_of_mem _ List.mem_cons_self)) ?_ (hs'.1 i (by simp)) ((List.pairwise_cons.1 hs'.2).1 y hyr)
              rw [getElem!_pos us i hil]; exact hv _ (List.getElem_mem hil)
/-- Lists of indices, each of uses of one key stream by their first counters, in which any two uses of one stream stand together. -/
structure Lists (us : List Us) (Ls : List (List Nat)) : Prop where
  sorted : ∀ L ∈ Ls, Sorted us L
  lt : ∀ L ∈ Ls, ∀ x ∈ L, x < us.length
  nodup : ∀ L ∈ Ls, L.Nodup
  one : ∀ L ∈ Ls, ∀ x ∈ L, ∀ y ∈ L, stOf us[x]! = stOf us[y]!
  all : ∀ x y, x < y → y < us.length → stOf us[x]! = stOf us[y]! → ∃ L ∈ Ls, x ∈ L ∧ y ∈ L
theorem pair_sublist {α : Type} : ∀ {L : List α} {x y : α}, x ∈ L → y ∈ L → x ≠ y → [x, y].Sublist L ∨ [y, x].Sublist L
  | a :: L, x, y, hx, hy, h => by
    rcases List.mem_cons.1 hx with hxa | hx1
    · rcases List.mem_cons.1 hy with hya | hy1
      · exact absurd (hxa.trans hya.symm) h
      · rw [hxa]; exact .inl (List.cons_sublist_cons.2 (List.singleton_sublist.2 hy1))
    · rcases List.mem_cons.1 hy with hya | hy1
      · rw [hya]; exact .inr (List.cons_sublist_cons.2 (List.singleton_sublist.2 hx1))
      · exact (pair_sublist hx1 hy1 h).imp (·.cons _) (·.cons _)
theorem clB_comm (a b : Us) : clB a b = clB b a := by
  rw [Bool.eq_iff_iff, clB_iff, clB_iff]
  constructor <;> rintro ⟨h, k⟩ <;> exact ⟨h.symm, by omega⟩
theorem Lists.any {us : List Us} {Ls : List (List Nat)} (h : Lists us Ls) (hv : ∀ u ∈ us, u.ok = true) (j : Nat) (hj : j < us.length) : (Ls.any fun L => repG us j none L) = cUp us j := by
  rw [Bool.eq_iff_iff, List.any_eq_true, cUp_iff]
  constructor
  · rintro ⟨L, hL, hr⟩
    obtain ⟨x, y, h1, h2, h3, h4, h5, h6, h7⟩ := repG_sound us j L none hr
    have hxy : x ≠ y := fun he => by
      subst he
      have := (h.nodup L hL).sublist (by simpa using h7)
      simp at this
    rcases Nat.lt_or_gt_of_ne hxy with hl | hl
    · exact ⟨x, y, hl, h3, h4⟩
    · exact ⟨y, x, hl, h6 rfl, by rw [clB_comm]; exact h4⟩
  · rintro ⟨i, k, hik, hkj, hc⟩
    obtain ⟨L, hL, hi, hk⟩ := h.all i k hik (by omega) (clB_iff.1 hc).1
    refine ⟨L, hL, ?_⟩
    rcases pair_sublist hi hk (by omega) with hs | hs
    · exact repG_full us hv j L none (by simpa using h.sorted L hL) (by simpa using h.lt L hL) (by simpa using h.one L hL) (fun k hk => by cases hk) i k (by simpa using hs) (by omega) hkj hc
    · exact repG_full us hv j L none (by simpa using h.sorted L hL) (by simpa using h.lt L hL) (by simpa using h.one L hL) (fun k hk => by cases hk) k i (by simpa using hs) hkj (by omega) (by rw [clB_comm]; exact hc)
end Go.Proofs.YtfjpipkcfbmdeaaDoor
namespace Go.Proofs.YtfjpipkcfbmdeaaDoor
open Go Go.RowKit
set_option linter.unusedVariables false
set_option linter.unusedSimpArgs false
variable {κ : Cx}
/-- The cells xs stand at A, in a block from lo on that holds cells of type e. -/
def RowX (lo : Nat) (e : TypeId) (B : Nat) (w : World) (A : Option Addr) (xs : List Value) : Prop :=
  ∀ (j : Nat) (u : Value), xs[j]? = some u → ∃ ad, A = some ad ∧ lo ≤ ad.block ∧ ad.block < B ∧ (∃ cur fr, w.heap[ad.block]? = some (.cells cur e fr)) ∧ w.cell? (ad.add j) = some u
theorem RowX.row {lo : Nat} {e : TypeId} {B : Nat} {w : World} {A : Option Addr} {xs : List Value} (h : RowX lo e B w A xs) : RowIn B w A xs := fun j u hu => by
  obtain ⟨ad, h1, _, h3, _, h5⟩ := h j u hu
  exact ⟨ad, h1, h3, h5⟩
theorem cell_block {w w' : World} {a : Addr} (h : w'.heap[a.block]? = w.heap[a.block]?) : w'.cell? a = w.cell? a := by unfold World.cell?; rw [h]
theorem RowX.other {lo : Nat} {e : TypeId} {B B' : Nat} {w w' : World} {A : Option Addr} {xs : List Value} (h : RowX lo e B w A xs) (hB : B ≤ B') (hk : ∀ b cur fr, lo ≤ b → b < B → w.heap[b]? = some (.cells cur e fr) → w'.heap[b]? = w.heap[b]?) : RowX lo e B' w' A xs := fun j u hu => by
  obtain ⟨ad, h1, h2, h3, ⟨cur, fr, h4⟩, h5⟩ := h j u hu
  have h6 := hk ad.block cur fr h2 h3 h4
  refine ⟨ad, h1, h2, by omega, ⟨cur, fr, by rw [h6]; exact h4⟩, ?_⟩
  have h7 : w'.cell? (ad.add j) = w.cell? (ad.add j) := cell_block (by rw [block_of_add]; exact h6)
  rw [h7]; exact h5
def natR (L : List Nat) : List Value := L.map fun x : Nat => Value.int .i64 (x : Int)
/-- The lists Ls stand in the slices vs, and these at A. -/
def ListsF (lo : Nat) (eL eI : TypeId) (A : Option Addr) (vs : List Value) (Ls : List (List Nat)) (B : Nat) (w : World) : Prop :=
  RowX lo eL B w A vs ∧ ∀ (k : Nat) (v : Value) (L : List Nat), vs[k]? = some v → Ls[k]? = some L → ∃ A' q, v = .slice A' L.length q ∧ RowX lo eI B w A' (natR L)
theorem ListsF.other {lo : Nat} {eL eI : TypeId} {A : Option Addr} {vs : List Value} {Ls : List (List Nat)} {B B' : Nat} {w w' : World} (h : ListsF lo eL eI A vs Ls B w) (hB : B ≤ B') (hk : ∀ b cur e fr, lo ≤ b → b < B → (e = eL ∨ e = eI) → w.heap[b]? = some (.cells cur e fr) → w'.heap[b]? = w.heap[b]?) : ListsF lo eL eI A vs Ls B' w' :=
  ⟨h.1.other hB fun b cur fr h1 h2 h3 => hk b cur _ fr h1 h2 (.inl rfl) h3, fun k v L hv hL => by
    obtain ⟨A', q, h1, h2⟩ := h.2 k v L hv hL
    exact ⟨A', q, h1, h2.other hB fun b cur fr h1 h2 h3 => hk b cur _ fr h1 h2 (.inr rfl) h3⟩⟩
def listsM (lo : Nat) (eL eI : TypeId) (A : Option Addr) (vs : List Value) (Ls : List (List Nat)) : D :=
  .p (fun B w _ => ListsF lo eL eI A vs Ls B w) (fun B w w' _ g h => h.other (Nat.le_refl _) fun b _ _ _ _ hb _ _ => g.block b hb) (fun B B' w _ g h => h.other g fun _ _ _ _ _ _ _ _ => rfl)
theorem Surv.lists {B T g lo : Nat} {eL eI : TypeId} {A : Option Addr} {vs : List Value} {Ls : List (List Nat)} (h : g < lo ∨ (eL ≠ T ∧ eI ≠ T)) : Surv B T g (listsM lo eL eI A vs Ls) := fun w w' x k hl =>
  ListsF.other hl k.size fun b cur e fr h1 h2 he hh => k.other b h2 fun hbg => by
    subst hbg
    rcases h with h | ⟨h3, h4⟩
    · omega
    · have := k.row _ _ _ hh
      rcases he with rfl | rfl
      · exact h3 this
      · exact h4 this
section
variable {P : Program} {n : Nat} {E : Env} {w₀ : World} {c : Code} {Q : Exit → Act → World → Prop}
end
/-! ### Results whose parts get names -/
section
variable {P : Program} {B : Nat} {E : Env}
end
section
variable {P : Program} {n : Nat} {w₀ : World} {E : Env}
end
end Go.Proofs.YtfjpipkcfbmdeaaDoor
namespace Go.Proofs.YtfjpipkcfbmdeaaDoor
open Go Go.RowKit
set_option linter.unusedVariables false
set_option linter.unusedSimpArgs false
variable {κ : Cx}
/-! ### Drawn regions with guards whose changes of memory are no barriers -/
section
variable {P : Program} {B : Nat} {ops : Array Oper} {E : Env} {C : Env → Prop} {o : Oper} {rest : List Oper} {t : Nat} {d : D} {ms : List Mk}
theorem RunX.guarded {st : Bool} {kl : Option Nat} {j : Nat} {want : Bool} {s : Nat} (ht : o.dst = some t) (hg : o.guard = some (j, want)) (hj : ((ops[j]?).bind (·.dst)) = some s) (hE : E.look s = some (.v (.bool want))) (h : OpOk P B o E d) (hs : st = true → Stays B d) (hr : RunX P B ops rest ((t, d) :: E) ms C) : RunX P B ops (o :: rest) E (⟨false, st, kl⟩ :: ms) C := by
  obtain ⟨ds, E', h1, h2⟩ := hr
  exact ⟨_, E', .cons ht (.inl ⟨by simp only [GuardIs, hg]; exact ⟨s, hj, .inl ⟨want, hE, by cases want <;> rfl⟩⟩, h.x⟩) hs h1, h2⟩
theorem RunX.skipped {kl : Option Nat} {j : Nat} {want c : Bool} {s : Nat} (ht : o.dst = some t) (hg : o.guard = some (j, want)) (hj : ((ops[j]?).bind (·.dst)) = some s) (hE : E.look s = some (.v (.bool c))) (hc : (c == want) = false) (hr : RunX P B ops rest ((t, .v undef) :: E) ms C) : RunX P B ops (o :: rest) E (⟨false, true, kl⟩ :: ms) C := by
  obtain ⟨ds, E', h1, h2⟩ := hr
  exact ⟨_, E', .cons ht (.inr ⟨by simp only [GuardIs, hg]; exact ⟨s, hj, .inl ⟨c, hE, hc.symm⟩⟩, rfl⟩) (fun _ => Stays.v _ _) h1, h2⟩
theorem RunX.skippedU {kl : Option Nat} {j : Nat} {want : Bool} {s : Nat} (ht : o.dst = some t) (hg : o.guard = some (j, want)) (hj : ((ops[j]?).bind (·.dst)) = some s) (hE : E.look s = some (.v undef)) (hr : RunX P B ops rest ((t, .v undef) :: E) ms C) : RunX P B ops (o :: rest) E (⟨false, true, kl⟩ :: ms) C := by
  obtain ⟨ds, E', h1, h2⟩ := hr
  exact ⟨_, E', .cons ht (.inr ⟨by simp only [GuardIs, hg]; first | exact ⟨s, hj, .inr ⟨hE, trivial⟩⟩ | exact ⟨s, hj, .inr ⟨hE, rfl⟩⟩, rfl⟩) (fun _ => Stays.v _ _) h1, h2⟩
end
/-! ### Rows of structs that are appended to -/
section
variable {P : Program} {B : Nat} {E : Env} {dst : Option Tmp} {ty : TypeId} {pos : String} {after : Array Edge} {guard : Option (Nat × Bool)}
end
/-! ### Slices without spare capacity -/
section
variable {P : Program} {n : Nat} {E : Env} {w₀ : World} {c : Code} {Q : Exit → Act → World → Prop}
/-- What is known at a later point holds of what was there at that point. -/
def UpTo (w : World) (E' E : Env) : Prop := ∀ p ∈ E', ∃ d, E.look p.1 = some d ∧ (p.2 = d ∨ p.2 = old w.heap.size d ∨ ∃ B₀ d₀, d = old B₀ d₀ ∧ p.2 = old w.heap.size d₀)
theorem UpTo.nil {w : World} {E : Env} : UpTo w [] E := fun _ h => by cases h
theorem UpTo.same {w : World} {E E' : Env} {t : Nat} {d : D} (h : E.look t = some d) (hr : UpTo w E' E) : UpTo w ((t, d) :: E') E := fun p hp => by
  rcases List.mem_cons.1 hp with rfl | hp
  · exact ⟨d, h, .inl rfl⟩
  · exact hr p hp
theorem UpTo.new {w : World} {E E' : Env} {t : Nat} {d : D} (h : E.look t = some d) (hr : UpTo w E' E) : UpTo w ((t, old w.heap.size d) :: E') E := fun p hp => by
  rcases List.mem_cons.1 hp with rfl | hp
  · exact ⟨d, h, .inr (.inl rfl)⟩
  · exact hr p hp
theorem UpTo.old {w : World} {E E' : Env} {t B₀ : Nat} {d : D} (h : E.look t = some (Go.Proofs.YtfjpipkcfbmdeaaDoor.old B₀ d)) (hr : UpTo w E' E) : UpTo w ((t, Go.Proofs.YtfjpipkcfbmdeaaDoor.old w.heap.size d) :: E') E := fun p hp => by
  rcases List.mem_cons.1 hp with rfl | hp
  · exact ⟨_, h, .inr (.inr ⟨B₀, d, rfl, rfl⟩)⟩
  · exact hr p hp
/-- The rest of a function, at a base of its own: whatever is there by then is old. -/
theorem A.raise (E' : World → Env) (hE : ∀ w, UpTo w (E' w) E) (h : ∀ w₁, Grow w₀ w₁ → A κ P w₁ n c (E' w₁) Q) : A κ P w₀ n c E Q := fun a w g hs => by
  refine h w g a w (Below.refl _ _) ⟨Nat.le_refl _, hs.defers, hs.size, fun t d hd => ?_⟩
  obtain ⟨d', hd', h1⟩ := hE w _ (look_mem hd)
  have h2 := hs.of t d' hd'
  rcases h1 with h1 | h1 | ⟨B₀, d₀, h1, h3⟩
  · simp only at h1; rw [h1]; exact h2
  · simp only at h1; rw [h1]; exact ⟨Nat.le_refl _, h2⟩
  · subst h1; simp only at h3; rw [h3]; exact ⟨Nat.le_refl _, D.OfB.up h2.2 h2.1⟩
theorem End.ret1U {w₁ : World} {fn : Func} {r : Nat} {d e : D} (hg : Grow w₀ w₁) (hr : fn.results = #[.tmp r]) (he : E.look r = some e) (hl : Le e d) : End Cx.top w₁ n E (BP P fn (PostOf w₀ d) .ret) := fun a w g hs =>
  BP.ret hs.defers ⟨a.tmps.getD r undef, by simp [results, hr], _, rfl, Grow.trans hg g, hl.of (hs.of r e he)⟩
end
section
variable {P : Program} {B : Nat} {E : Env}
end
section
variable {P : Program} {B : Nat} {E : Env}
variable {dst : Option Tmp} {ty : TypeId} {pos : String} {after : Array Edge} {guard : Option (Nat × Bool)}
end
/-! ### A new ledger in a new variable, in a drawn region -/
theorem Surv.newD {B T g base : Nat} {e : TypeId} {val : Nat → Value} {xs : List Value} (h : e ≠ T) : Surv B T g (Go.Proofs.YtfjpipkcfbmdeaaDoor.newD base e val xs) := fun w w' x k ⟨b, h1, h2, h3, h4⟩ => by
  refine ⟨b, h1, h2, Nat.lt_of_lt_of_le h3 k.size, ?_⟩
  by_cases hb : b = g
  · subst hb; exact absurd (k.row _ _ _ h4) h
  · exact (k.other b h3 hb).trans h4
section
variable {P : Program} {n B : Nat} {ops : Array Oper} {E : Env} {dst : Option Tmp} {ty : TypeId} {pos : String} {after : Array Edge} {guard : Option (Nat × Bool)}
end
end Go.Proofs.YtfjpipkcfbmdeaaDoor
namespace Go.Proofs.YtfjpipkcfbmdeaaDoor
open Go Go.RowKit
set_option linter.unusedVariables false
set_option linter.unusedSimpArgs false
section
variable {P : Program} {B : Nat} {E : Env} {dst : Option Tmp} {ty : TypeId} {pos : String} {after : Array Edge} {guard : Option (Nat × Bool)}
/-- A part of an element: its first cells. -/
theorem ok_loadElemT {T : TypeId} {td : TypeDesc} {x : Operand} {us : List Value} (n : Nat) (ht : P.underlying T = some td) (hp : (match td with | .struct _ | .array _ _ => true | _ => false) = true) (hsz : SizeIs P T n) (hn : n ≤ us.length) (hx : E.at x = some (elemP us)) :
    OpOk P B ⟨dst, .load T x, ty, pos, after, guard⟩ E (.v (aggV (us.take n))) := fun ρ w _ _ hρ => by
  obtain ⟨ad, h1, _, h3⟩ := hρ x (by simp [Op.operands]) _ hx
  have hagg : (isAgg T).run P w = .ok true w := by
    unfold isAgg
    simp only [Sem.run_bind, run_underlying ht, Result.andThen_ok]
    cases td <;> simp_all
  have hl : (us.take n).length = n := by simp [hn]
  have hc := run_loadCells_list (P := P) w ad (us.take n) (fun j u hu => by
    rw [List.getElem?_take] at hu
    split at hu
    · exact h3 j u hu
    · cases hu)
  rw [hl] at hc
  obtain ⟨info, hinfo, hs⟩ := hsz.get
  exact out_val (x := aggV (us.take n)) (w' := w) (by simp [execOp, h1, Instr.loadAt, Instr.sureAddr, loadVar, hagg, sizeOf, typeInfo, hinfo, hs, hc, aggV]) ⟨Grow.refl w, rfl⟩
end
section
end
end Go.Proofs.YtfjpipkcfbmdeaaDoor
namespace Go.Proofs.YtfjpipkcfbmdeaaDoor
open Go Go.RowKit
set_option linter.unusedVariables false
set_option linter.unusedSimpArgs false
variable {κ : Cx}
/-! ### Disks as plain mathematics -/
abbrev Con := Option (List UInt8)
abbrev Dk := List (List Con)
def hisC (S : Dk) (i : Nat) : List Con := S.getD i []
def totC (S : Dk) : Nat := (S.map List.length).sum
def putC (S : Dk) (i : Nat) (c : Con) : Dk := S.set i (c :: hisC S i)
theorem putC_length (S : Dk) (i : Nat) (c : Con) : (putC S i c).length = S.length := by simp [putC]
theorem his_set {S : Dk} {i : Nat} (x : List Con) (h : i < S.length) : hisC (S.set i x) i = x := by simp [hisC, h]
theorem his_set_ne {S : Dk} {i j : Nat} (x : List Con) (h : i ≠ j) : hisC (S.set i x) j = hisC S j := by simp [hisC, List.getElem?_set_ne h]
theorem totC_put : ∀ {S : Dk} {i : Nat} (c : Con), i < S.length → totC (putC S i c) = totC S + 1
  | x :: S, 0, c, _ => by simp [totC, putC, hisC]; omega
  | x :: S, i + 1, c, h => by
    have := totC_put (S := S) (i := i) c (by simpa using h)
    simp only [totC, putC, hisC, List.getD_cons_succ, List.set_cons_succ, List.map_cons, List.sum_cons] at this ⊢
    omega
/-! ### Facts that are carried -/
/-- What lies below B, is not excluded by X and is of a type that Q allows, lies so in the other world too, below B' and not excluded by X'. -/
def Carry (Q : TypeId → Prop) (X X' : Nat → Prop) (B B' : Nat) (w w' : World) : Prop := B ≤ B' ∧ ∀ b cs e fr, ¬ X b → b < B → Q e → w.heap[b]? = some (.cells cs e fr) → ¬ X' b ∧ w'.heap[b]? = w.heap[b]?
theorem Carry.keep {Q : TypeId → Prop} {X : Nat → Prop} {B : Nat} {w w' : World} (g : Below B w w') : Carry Q X X B B w w' := ⟨Nat.le_refl _, fun b _ _ _ hx hb _ _ => ⟨hx, g.block b hb⟩⟩
theorem Carry.up {Q : TypeId → Prop} {X : Nat → Prop} {B B' : Nat} {w : World} (g : B ≤ B') : Carry Q X X B B' w w := ⟨g, fun _ _ _ _ hx _ _ _ => ⟨hx, rfl⟩⟩
theorem Carry.wrote {Q : TypeId → Prop} {X : Nat → Prop} {B T g : Nat} {w w' : World} (k : Wrote B T g w w') (h : ¬ Q T ∨ X g) : Carry Q X X w.heap.size w'.heap.size w w' := ⟨k.size, fun b cs e fr hx hb hq hh => ⟨hx, k.other b hb fun hbg => by
    subst hbg
    rcases h with h | h
    · exact h (k.row _ _ _ hh ▸ hq)
    · exact hx h⟩⟩
/-- More may be excluded if it lies above. -/
theorem Carry.out {Q : TypeId → Prop} {X X' : Nat → Prop} {B B' : Nat} {w : World} (g : B ≤ B') (h : ∀ b, b < B → ¬ X' b) : Carry Q X X' B B' w w := ⟨g, fun b _ _ _ _ hb _ _ => ⟨h b hb, rfl⟩⟩
structure DTy where
  r : TypeId
  p : TypeId
  v : TypeId
  b : TypeId
def BlkX (X : Nat → Prop) (B : Nat) (w : World) (b : Nat) (e : TypeId) (cs : List Value) : Prop := ¬ X b ∧ b < B ∧ w.heap[b]? = some (.cells cs.toArray e (0, 0))
theorem BlkX.carry {Q : TypeId → Prop} {X X' : Nat → Prop} {B B' : Nat} {w w' : World} {b : Nat} {e : TypeId} {cs : List Value} (h : BlkX X B w b e cs) (k : Carry Q X X' B B' w w') (hq : Q e) : BlkX X' B' w' b e cs := by
  obtain ⟨h1, h2, h3⟩ := h
  obtain ⟨k1, k2⟩ := k.2 b _ _ _ h1 h2 hq h3
  exact ⟨k1, Nat.lt_of_lt_of_le h2 k.1, k2.trans h3⟩
theorem BlkX.cells {X X' : Nat → Prop} {B B' : Nat} {w : World} {b : Nat} {e e' : TypeId} {cs cs' : List Value} (h : BlkX X B w b e cs) (h' : w.heap[b]? = some (.cells cs'.toArray e' (0, 0))) : cs = cs' := by
  have := h.2.2.symm.trans h'
  injection this with this
  injection this with this
  simpa using this
section
variable (T : DTy) (X : Nat → Prop) (B : Nat) (w : World)
def ContAt (y : Value) : Con → Prop
  | none => y = .slice none 0 0
  | some l => l.length ≤ 256 ∧ ∃ b, y = .slice (some ⟨b, 0, none⟩) l.length l.length ∧ BlkX X B w b T.b (l.map byteV)
def VersAt : Value → List Con → Prop
  | x, [] => x = .pointer none
  | x, c :: h => ∃ b y z, x = .pointer (some ⟨b, 0, none⟩) ∧ BlkX X B w b T.v [.bool c.isSome, y, .int .i64 ((h.length + 1 : Nat) : Int), z] ∧ ContAt T X B w y c ∧ VersAt z h
def PartAt (x : Value) (f : Nat → List Con) : Prop := ∃ b cs, x = .pointer (some ⟨b, 0, none⟩) ∧ cs.length = 64 ∧ BlkX X B w b T.p cs ∧ ∀ j u, cs[j]? = some u → VersAt T X B w u (f j)
def PartsAt (p : Value) (S : Dk) : Prop := (S = [] ∧ p = .slice none 0 0) ∨ ∃ b ps, p = .slice (some ⟨b, 0, none⟩) ps.length ps.length ∧ ps.length = (S.length + 63) / 64 ∧ BlkX X B w b T.r ps ∧ ∀ k u, ps[k]? = some u → PartAt T X B w u (fun j => hisC S (64 * k + j))
end
section
variable {Q : TypeId → Prop} {T : DTy} {X X' : Nat → Prop} {B B' : Nat} {w w' : World}
theorem ContAt.carry {y : Value} {c : Con} (h : ContAt T X B w y c) (k : Carry Q X X' B B' w w') (hb : Q T.b) : ContAt T X' B' w' y c := by
  cases c with
  | none => exact h
  | some l => obtain ⟨h0, b, h1, h2⟩ := h; exact ⟨h0, b, h1, h2.carry k hb⟩
theorem VersAt.carry (k : Carry Q X X' B B' w w') (hv : Q T.v) (hb : Q T.b) : ∀ {x : Value} {h : List Con}, VersAt T X B w x h → VersAt T X' B' w' x h
  | _, [], h => h
  | _, _ :: _, ⟨b, y, z, h1, h2, h3, h4⟩ => ⟨b, y, z, h1, h2.carry k hv, h3.carry k hb, VersAt.carry k hv hb h4⟩
theorem PartAt.carry {x : Value} {f : Nat → List Con} (k : Carry Q X X' B B' w w') (hp : Q T.p) (hv : Q T.v) (hb : Q T.b) : PartAt T X B w x f → PartAt T X' B' w' x f := fun ⟨b, cs, h1, h2, h3, h4⟩ =>
  ⟨b, cs, h1, h2, h3.carry k hp, fun j u hu => (h4 j u hu).carry k hv hb⟩
theorem PartsAt.carry {p : Value} {S : Dk} (k : Carry Q X X' B B' w w') (hr : Q T.r) (hp : Q T.p) (hv : Q T.v) (hb : Q T.b) : PartsAt T X B w p S → PartsAt T X' B' w' p S
  | .inl h => .inl h
  | .inr ⟨b, ps, h1, h2, h3, h4⟩ => .inr ⟨b, ps, h1, h2, h3.carry k hr, fun j u hu => (h4 j u hu).carry k hp hv hb⟩
theorem ContAt.one {y : Value} {c : Con} (h : ContAt T X B w y c) : y.oneCell' = true := by
  cases c with
  | none => rw [show y = _ from h]; rfl
  | some l => obtain ⟨_, b, rfl, _⟩ := h; rfl
theorem VersAt.one {x : Value} {h : List Con} (hx : VersAt T X B w x h) : x.oneCell' = true := by
  cases h with
  | nil => rw [show x = _ from hx]; rfl
  | cons c h => obtain ⟨b, _, _, rfl, _⟩ := hx; rfl
theorem PartsAt.one {p : Value} {S : Dk} (h : PartsAt T X B w p S) : p.oneCell' = true := by
  rcases h with ⟨_, rfl⟩ | ⟨b, ps, rfl, _⟩ <;> rfl
/-- One sector is given a newer version. -/
theorem PartsAt.set {b bk b8 b9 i : Nat} {ps cs : List Value} {S : Dk} {x : Value} {h : List Con} (hP : PartsAt T X B w (.slice (some ⟨b, 0, none⟩) ps.length ps.length) S) (hB : B ≤ B') (hb : w.heap[b]? = some (.cells ps.toArray T.r (0, 0))) (hi : i < S.length)
    (hps : ps[i / 64]? = some (.pointer (some ⟨bk, 0, none⟩))) (hbk : w.heap[bk]? = some (.cells cs.toArray T.p (0, 0))) (h8 : BlkX X B' w b8 T.r (ps.set (i / 64) (.pointer (some ⟨b9, 0, none⟩)))) (h9 : BlkX X B' w b9 T.p (cs.set (i % 64) x)) (hx : VersAt T X B' w x h) :
    PartsAt T X B' w (.slice (some ⟨b8, 0, none⟩) ps.length ps.length) (S.set i h) := by
  have ku : Carry (fun _ => True) X X B B' w w := Carry.up hB
  rcases hP with ⟨rfl, _⟩ | ⟨b', ps', h1, h2, h3, h4⟩
  · cases hi
  injection h1 with h1 _ _
  injection h1 with h1
  injection h1 with h1 _ _
  subst h1
  obtain rfl : ps' = ps := h3.cells (X' := X) (B' := B) hb
  refine .inr ⟨b8, ps'.set (i / 64) (.pointer (some ⟨b9, 0, none⟩)), by simp, by simpa using h2, h8, fun k u hu => ?_⟩
  have hk : k < ps'.length := by have := (List.getElem?_eq_some_iff.1 hu).1; simpa using this
  by_cases hki : i / 64 = k
  · subst hki
    rw [List.getElem?_set_self hk] at hu
    injection hu with hu; subst hu
    obtain ⟨bk', cs', k1, k2, k3, k4⟩ := h4 _ _ hps
    injection k1 with k1; injection k1 with k1; injection k1 with k1 _ _
    subst k1
    obtain rfl : cs' = cs := k3.cells (X' := X) (B' := B) hbk
    refine ⟨b9, _, rfl, by simpa using k2, h9, fun j u hj => ?_⟩
    have hjl : j < 64 := by have := (List.getElem?_eq_some_iff.1 hj).1; simpa [k2] using this
    by_cases hji : i % 64 = j
    · subst hji
      rw [List.getElem?_set_self (by omega)] at hj
      injection hj with hj; subst hj
      show VersAt T X B' w x (hisC (S.set i h) (64 * (i / 64) + i % 64))
      rw [show 64 * (i / 64) + i % 64 = i from by omega, his_set _ hi]
      exact hx
    · rw [List.getElem?_set_ne hji] at hj
      show VersAt T X B' w u (hisC (S.set i h) (64 * (i / 64) + j))
      rw [his_set_ne _ (by omega)]
      exact (k4 j u hj).carry ku trivial trivial
  · rw [List.getElem?_set_ne hki] at hu
    obtain ⟨bk', cs', k1, k2, k3, k4⟩ := (h4 k u hu).carry ku trivial trivial trivial
    refine ⟨bk', cs', k1, k2, k3, fun j u hj => ?_⟩
    have hjl : j < 64 := by have := (List.getElem?_eq_some_iff.1 hj).1; omega
    show VersAt T X B' w u (hisC (S.set i h) (64 * k + j))
    rw [his_set_ne _ (by omega)]
    exact k4 j u hj
end
/-! The same as facts. -/
section
variable (T : DTy) (X : Nat → Prop)
def contyD (c : Con) : D := .p (fun B w y => ContAt T X B w y c) (fun _ _ _ _ g h => h.carry (Carry.keep (Q := fun _ => True) g) trivial) (fun _ _ _ _ g h => h.carry (Carry.up (Q := fun _ => True) g) trivial)
def versD (h : List Con) : D := .p (fun B w x => VersAt T X B w x h) (fun _ _ _ _ g h => h.carry (Carry.keep (Q := fun _ => True) g) trivial trivial) (fun _ _ _ _ g h => h.carry (Carry.up (Q := fun _ => True) g) trivial trivial)
def partsD' (S : Dk) : D := .p (fun B w p => (∀ b, X b → b < B) ∧ PartsAt T X B w p S) (fun _ _ _ _ g h => ⟨h.1, h.2.carry (Carry.keep (Q := fun _ => True) g) trivial trivial trivial trivial⟩) (fun _ _ _ _ g h => ⟨fun b hb => Nat.lt_of_lt_of_le (h.1 b hb) g, h.2.carry (Carry.up (Q := fun _ => True) g) trivial trivial trivial trivial⟩)
end
theorem Surv.parts {B e g : Nat} {T : DTy} {X : Nat → Prop} {S : Dk} (hq : (e ≠ T.r ∧ e ≠ T.p ∧ e ≠ T.v ∧ e ≠ T.b) ∨ X g) : Surv B e g (partsD' T X S) := fun w w' x k hx =>
  ⟨fun b hb => Nat.lt_of_lt_of_le (hx.1 b hb) k.size, PartsAt.carry (Q := fun a => a = T.r ∨ a = T.p ∨ a = T.v ∨ a = T.b) (Carry.wrote k (hq.imp (fun h => by rintro (h' | h' | h' | h'); exact h.1 h'; exact h.2.1 h'; exact h.2.2.1 h'; exact h.2.2.2 h') id)) (.inl rfl) (.inr (.inl rfl)) (.inr (.inr (.inl rfl))) (.inr (.inr (.inr rfl))) hx.2⟩
/-! ### Structs whose last field is told by a fact -/
def tlD (pre : List Value) (f : D) : D :=
  .p (fun B w x => ∃ v : Value, v.oneCell' = true ∧ x = aggV (pre ++ [v]) ∧ f.OfB B w v) (fun _ _ _ _ g ⟨v, h1, h2, h3⟩ => ⟨v, h1, h2, h3.keep g⟩) (fun _ _ _ _ g ⟨v, h1, h2, h3⟩ => ⟨v, h1, h2, h3.up g⟩)
theorem Surv.tl {B e g : Nat} {f : D} {pre : List Value} (h : Surv B e g f) : Surv B e g (tlD pre f) := fun w w' _ k ⟨v, h1, h2, h3⟩ => ⟨v, h1, h2, h w w' v k h3⟩
/-- Its values are structs of m cells. -/
def Agg (m : Nat) (d : D) : Prop := ∀ B w x, d.OfB B w x → ∃ cs : List Value, x = aggV cs ∧ cs.length = m ∧ cs.all (·.oneCell') = true
theorem Agg.tl {f : D} {pre : List Value} {m : Nat} (h1 : pre.all (·.oneCell') = true) (hm : pre.length + 1 = m) : Agg m (tlD pre f) := fun B w x ⟨v, hv, hx, _⟩ => ⟨_, hx, by simpa using hm, by rw [List.all_append, h1]; simp [hv]⟩
theorem Agg.old {d : D} {m B' : Nat} (h : Agg m d) : Agg m (Go.Proofs.YtfjpipkcfbmdeaaDoor.old B' d) := fun B w x hx => h _ _ _ hx.2
def diskD (T : DTy) (X : Nat → Prop) (S : Dk) : D := tlD [nI S.length, nI (totC S)] (partsD' T X S)
theorem Agg.disk {T : DTy} {X : Nat → Prop} {S : Dk} : Agg 3 (diskD T X S) := Agg.tl rfl rfl
theorem Surv.disk {B e g : Nat} {T : DTy} {X : Nat → Prop} {S : Dk} (hq : (e ≠ T.r ∧ e ≠ T.p ∧ e ≠ T.v ∧ e ≠ T.b) ∨ X g) : Surv B e g (diskD T X S) := Surv.tl (Surv.parts hq)
section
variable {P : Program} {w₀ : World} {n : Nat} {c : Code} {E : Env} {Q : Exit → Act → World → Prop}
theorem A.nameTl {t k B' : Nat} {f : D} {pre : List Value} (ht : E.look t = some (old B' (tlD pre f))) (h : ∀ v : Value, v.oneCell' = true → A κ P w₀ n c ((t, .v (aggV (pre ++ [v]))) :: (k, old B' (valM v f)) :: E) Q) : A κ P w₀ n c E Q := fun a w g hs => by
  obtain ⟨hB, v, h1, h2, h3⟩ := hs.of t _ ht
  exact h v h1 a w g ((hs.push (t := k) (d := old B' (valM v f)) ⟨hB, h3⟩).push (d := .v _) h2)
end
section
variable {P : Program} {B : Nat} {E : Env} {o : Oper}
theorem OpOk.tlO {v : Value} {f : D} {k B' : Nat} (pre : List Value) {cs : List Value} (h : OpOk P B o E (.v (aggV cs))) (hcs : cs = pre ++ [v]) (hv1 : v.oneCell' = true) (hk : vbase ≤ k) (hl : E.look k = some (old B' (valM v f))) : OpOk P B o E (old B' (tlD pre f)) := fun ρ w hB hv hρ => by
  refine (h ρ w hB hv hρ).mono fun x w' hx => ⟨hx.1, ?_⟩
  have h2 : (old B' (valM v f)).Of w' undef := D.Of.grow (hv k _ hk hl) hx.1
  rw [show x = _ from hx.2, hcs]
  exact ⟨h2.1, v, hv1, rfl, h2.2⟩
end
/-! ### Addresses of structs of which a fact is known -/
section
variable {P : Program} {B : Nat} {E : Env} {dst : Option Tmp} {ty : TypeId} {pos : String} {after : Array Edge} {guard : Option (Nat × Bool)}
/-! ### Versions behind pointers -/
end
/-! ### Variables that hold a struct of which a fact is known -/
section
variable {P : Program} {n B : Nat} {ops : Array Oper} {E : Env} {ty : TypeId} {pos : String} {after : Array Edge}
end
section
variable {P : Program} {B : Nat} {E : Env} {dst : Option Tmp} {ty : TypeId} {pos : String} {after : Array Edge} {guard : Option (Nat × Bool)}
end
/-! New variables of drawn regions. -/
section
variable {P : Program} {n B : Nat} {ops : Array Oper} {E : Env} {ty : TypeId} {pos : String} {after : Array Edge}
end
section
variable {P : Program} {w₀ : World} {n : Nat} {c : Code} {E : Env} {Q : Exit → Act → World → Prop}
/-- Back at the function's own base. -/
theorem A.lower {w₁ : World} (hg : Grow w₀ w₁) (h : A κ P w₀ n c E Q) : A κ P w₁ n c E Q := fun a w g hs => h a w (Grow.trans hg g) ⟨Nat.le_trans hg.size hs.base, hs.defers, hs.size, hs.of⟩
/-- Code that comes to an environment told beforehand, in whatever way; then the rest. -/
def ToEnv (κ : Cx) (w₀ : World) (n : Nat) (E₂ : Env) (a : Act) (w : World) : Prop := Below w₀.heap.size w₀ w ∧ St κ n w₀.heap.size E₂ a w
theorem End.toEnv {E₂ : Env} (h : SubL E₂ E) : End κ w₀ n E (ToEnv κ w₀ n E₂) := fun _ _ g hs => ⟨g, hs.subL h⟩
theorem A.seqTo {x y : Code} (E₂ : Env) (h1 : A κ P w₀ n x E (Exit.then (ToEnv κ w₀ n E₂) Q)) (h2 : A κ P w₀ n y E₂ Q) : A κ P w₀ n (x.seq y) E Q := A.seq fun a w g hs => wpIn_mono (h1 a w g hs) fun e a' w' hq => by
  cases e with
  | normal => exact h2 a' w' hq.1 hq.2
  | exit id => exact hq
  | goto l => exact hq
  | ret => exact hq
  | panic ch => exact hq
  | outgrown => exact hq
end
/-! ### Ends -/
section
variable {P : Program} {n : Nat} {w₀ : World} {E : Env}
end
end Go.Proofs.YtfjpipkcfbmdeaaDoor
namespace Go.Proofs.YtfjpipkcfbmdeaaDoor
open Go Go.RowKit
set_option linter.unusedVariables false
set_option linter.unusedSimpArgs false
variable {κ : Cx}
/-- A slice of n elements whose cells read as xs, with room for n at least. -/
def rowLg (n : Nat) (xs : List Value) : D :=
  .p (fun B w x => ∃ A c, x = .slice A n c ∧ n ≤ c ∧ RowIn B w A xs) (fun _ _ _ _ g ⟨A, c, h1, h3, h2⟩ => ⟨A, c, h1, h3, D.OfB.keep (d := memR A xs) (x := undef) h2 g⟩) (fun _ _ _ _ g ⟨A, c, h1, h3, h2⟩ => ⟨A, c, h1, h3, D.OfB.up (d := memR A xs) (x := undef) h2 g⟩)
theorem rowLg_nil {A : Option Addr} {c : Nat} : Le (.v (.slice A 0 c)) (rowLg 0 []) := fun _ _ _ h => ⟨A, c, h, Nat.zero_le _, fun j u hu => by cases hu⟩
theorem ownP_rowLg {base sz n : Nat} {e : TypeId} {xs : List Value} : Le (ownP base e sz n xs) (rowLg n xs) := fun B w x ⟨⟨hl, h2⟩, hlt⟩ => by
  rcases h2 with ⟨rfl, rfl⟩ | ⟨g, cap, cur, rfl, hb, hh, hnc, h5, h6, htk⟩
  · have : xs = [] := List.length_eq_zero_iff.1 (by omega)
    subst this
    exact ⟨none, 0, rfl, Nat.le_refl _, fun j u hu => by cases hu⟩
  · obtain ⟨A, c, h1, h3⟩ := ownP_rowD (base := base) (sz := sz) (n := n) (e := e) (xs := xs) B w _ ⟨⟨hl, .inr ⟨g, cap, cur, rfl, hb, hh, hnc, h5, h6, htk⟩⟩, hlt⟩
    injection h1 with h1 h2 h4
    subst h1; subst h4
    exact ⟨_, _, rfl, hnc, h3⟩
section
variable {P : Program} {n : Nat} {E : Env} {w₀ : World} {c : Code} {Q : Exit → Act → World → Prop}
theorem A.nameRC {t k B' m : Nat} {xs : List Value} (ht : E.look t = some (old B' (rowLg m xs))) (h : ∀ (A₀ : Option Addr) (q : Nat), m ≤ q → A κ P w₀ n c ((t, .v (.slice A₀ m q)) :: (k, old B' (memR A₀ xs)) :: E) Q) : A κ P w₀ n c E Q := fun a w g hs => by
  obtain ⟨hB, A₀, q, h1, h3, h2⟩ := hs.of t _ ht
  exact h A₀ q h3 a w g ((hs.push (t := k) (d := old B' (memR A₀ xs)) ⟨hB, h2⟩).push (d := .v (.slice A₀ m q)) h1)
theorem A.nameRA {t k B' m : Nat} {xs : List Value} (ht : E.look t = some (old B' (rowLg m xs))) (hx : 0 < xs.length) (h : ∀ (ad : Addr) (q : Nat), m ≤ q → A κ P w₀ n c ((t, .v (.slice (some ad) m q)) :: (k, old B' (memR (some ad) xs)) :: E) Q) : A κ P w₀ n c E Q := fun a w g hs => by
  obtain ⟨hB, A₀, q, h1, h3, h2⟩ := hs.of t _ ht
  obtain ⟨ad, rfl, _, _⟩ := h2 0 _ (List.getElem?_eq_getElem hx)
  exact h ad q h3 a w g ((hs.push (t := k) (d := old B' (memR (some ad) xs)) ⟨hB, h2⟩).push (d := .v (.slice (some ad) m q)) h1)
end
section
variable {P : Program} {B : Nat} {E : Env} {dst : Option Tmp} {ty : TypeId} {pos : String} {after : Array Edge} {guard : Option (Nat × Bool)}
/-- An element of an array, of which an element of a slice consists. -/
theorem ok_indexEP {t e : TypeId} {len : Nat} {z : Value} {nb : Nat} {x i : Operand} {us : List Value} {k : IntKind} (m : Nat) (ht : P.underlying t = some (.array len e)) (hs : InfoIs P e z nb) (hx : E.at x = some (elemP us)) (hi : E.at i = some (.v (.int k (m : Int)))) (hn : m < len) :
    OpOk P B ⟨dst, .indexAddr t x i, ty, pos, after, guard⟩ E (elemP (us.drop m)) := fun ρ w _ _ hρ => by
  obtain ⟨ad, h1, hb, hc⟩ := hρ x (by simp [Op.operands]) _ hx
  have hi' : ρ i = .int k (m : Int) := hρ i (by simp [Op.operands]) _ hi
  obtain ⟨info, hinfo, _, hsize, _⟩ := hs.get
  refine out_val (x := .pointer (some (ad.add m))) (w' := w) ?_ ⟨Grow.refl w, _, rfl, by rw [block_of_add]; exact hb, fun j u hj => ?_⟩
  · simp [execOp, h1, hi', Instr.indexAt, Instr.sureAddr, asIntOf, run_underlying ht, sizeOf, typeInfo, hinfo, hsize]
    intro hle
    omega
  · rw [add_of_add]; rw [List.getElem?_drop] at hj; exact hc _ _ hj
/-- A literal of one struct is a row of the call's own. -/
theorem ok_build1O {t e : TypeId} {z : Value} {nb sz : Nat} {x : Operand} {us : List Value} (ht : P.underlying t = some (.slice e)) (hs : InfoP P e z sz nb) (hz : z.cells.size = sz) (h0 : sz ≤ 65536) (hsz : 0 < sz) (hx : E.at x = some (.v (aggV us))) (hu : us.length = sz) :
    OpOk P B ⟨dst, .buildSlice t 1 #[(0, x)], ty, pos, after, guard⟩ E (ownP B e sz 1 us) := fun ρ w hB _ hρ => by
  obtain ⟨i, hi, hzv, hsize, _⟩ := hs.get
  have h1 : ρ x = aggV us := hρ x (by simp [Op.operands]) _ hx
  have hfill : Instr.fill (fun j => some (j * i.size, i.size)) ((Array.range (1 * i.size)).map (z.cells[· % z.cells.size]!)) [(0, ρ x)] = some us.toArray := by
    have hlen : ((Array.range (1 * i.size)).map (z.cells[· % z.cells.size]!)).size = us.length := by simp [hsize, hu]
    rw [h1]
    have hc : (aggV us).cells = us.toArray := rfl
    unfold Instr.fill
    simp only [Nat.zero_mul]
    rw [hc, if_neg (by simp [hsize, hu])]
    have hg := fill_go us ((Array.range (1 * i.size)).map (z.cells[· % z.cells.size]!)).toList [] (by rw [Array.length_toList, hlen])
    simp only [List.nil_append, List.length_nil, Array.toArray_toList] at hg
    rw [show us.toArray.zipIdx.foldl (fun cs (x : Value × Nat) => match x with | (c, j) => cs.setIfInBounds (0 + j) c) ((Array.range (1 * i.size)).map (z.cells[· % z.cells.size]!)) = us.toArray from by
      rw [← Array.foldl_toList, Array.toList_zipIdx]; exact hg]
    rfl
  have hr := run_buildSlice (P := P) w t e 1 #[(0, ρ x)] us.toArray i z ht hi hzv (by rw [hsize]; omega) (by rw [hsize]; omega) (by simpa using hfill)
  have hh : (w.alloc (.cells us.toArray e)).heap[w.heap.size]? = some (.cells us.toArray e (0, 0)) := heap_alloc_new w _
  refine out_val (x := .slice (some ⟨w.heap.size, 0, none⟩) 1 1) (w' := w.alloc (.cells us.toArray e)) (by simp [execOp, hr]) ⟨Grow.alloc w _, ⟨by omega, .inr ⟨w.heap.size, 1, us.toArray, rfl, hB, hh, Nat.le_refl _, by decide, by simp [hu], by simp [← hu]⟩⟩, fun g hg => ?_⟩
  simp only [Value.ownBlock, Option.some.injEq] at hg
  subst hg; simp
/-- x[l:h] of a slice whose value and cells are known. -/
theorem ok_sliceRC {t e : TypeId} {z : Value} {nb sz : Nat} {x lo o : Operand} {A₀ : Option Addr} {len c s B' : Nat} {kd kd' : IntKind} {xs : List Value} (l h : Nat) (ht : P.underlying t = some (.slice e)) (hs : InfoP P e z sz nb) (hx : E.at x = some (.v (.slice A₀ len c)))
    (hsv : vbase ≤ s) (hr : E.look s = some (old B' (memR A₀ xs))) (hlo : E.at lo = some (.v (.int kd' (l : Int)))) (ho : E.at o = some (.v (.int kd (h : Int)))) (hh : h ≤ c) (hlt : l < h) (hin : l * sz < xs.length) :
    OpOk P B ⟨dst, .slice t x (some lo) (some o) none, ty, pos, after, guard⟩ E (old B' (rowLg (h - l) ((xs.drop (l * sz)).take ((h - l) * sz)))) := fun ρ w _ hv hρ => by
  have h1 : ρ x = _ := hρ x (by simp [Op.operands]) _ hx
  have h2 : ρ o = .int kd (h : Int) := hρ o (by simp [Op.operands]) _ ho
  have h4 : ρ lo = .int kd' (l : Int) := hρ lo (by simp [Op.operands]) _ hlo
  obtain ⟨hB, hrow⟩ := hv s _ hsv hr
  obtain ⟨info, hinfo, _, hsize, _⟩ := hs.get
  obtain ⟨ad, hA, hab, _⟩ := hrow (l * sz) _ (List.getElem?_eq_getElem hin)
  subst hA
  have hl : l ≤ h := by omega
  have hc : ¬ c = l := by omega
  refine out_val (x := .slice (some (ad.add (l * sz))) (h - l) (c - l)) (w' := w) ?_ ⟨Grow.refl w, hB, some (ad.add (l * sz)), c - l, rfl, by omega, fun j u hu => ⟨_, rfl, by rw [block_of_add]; exact hab, ?_⟩⟩
  · simp [execOp, h1, h2, h4, Instr.sliceAt, Instr.slice, run_underlying ht, Instr.sliceBounds, Instr.sliceBound, asIntOf, sizeOf, typeInfo, hinfo, hsize, hh, hl, hc]
  · rw [List.getElem?_take] at hu
    split at hu
    · rw [List.getElem?_drop] at hu
      obtain ⟨ad', hA', _, h4⟩ := hrow (l * sz + j) u hu
      injection hA' with hA'; subst hA'
      rw [add_of_add]; exact h4
    · cases hu
end
section
variable {P : Program} {B : Nat} {E : Env} {dst : Option Tmp} {ty : TypeId} {pos : String} {after : Array Edge} {guard : Option (Nat × Bool)}
/-- x[l:h], told exactly. -/
theorem ok_sliceRE {t e : TypeId} {z : Value} {nb sz : Nat} {x lo o : Operand} {A₀ : Option Addr} {len c s B' : Nat} {kd kd' : IntKind} {xs : List Value} (l h : Nat) (ht : P.underlying t = some (.slice e)) (hs : InfoP P e z sz nb) (hx : E.at x = some (.v (.slice A₀ len c)))
    (hsv : vbase ≤ s) (hr : E.look s = some (old B' (memR A₀ xs))) (hlo : E.at lo = some (.v (.int kd' (l : Int)))) (ho : E.at o = some (.v (.int kd (h : Int)))) (hh : h ≤ c) (hlt : l < h) (hin : l * sz < xs.length) :
    OpOk P B ⟨dst, .slice t x (some lo) (some o) none, ty, pos, after, guard⟩ E (.v (.slice (A₀.map (·.add (l * sz))) (h - l) (c - l))) := fun ρ w _ hv hρ => by
  have h1 : ρ x = _ := hρ x (by simp [Op.operands]) _ hx
  have h2 : ρ o = .int kd (h : Int) := hρ o (by simp [Op.operands]) _ ho
  have h4 : ρ lo = .int kd' (l : Int) := hρ lo (by simp [Op.operands]) _ hlo
  obtain ⟨hB, hrow⟩ := hv s _ hsv hr
  obtain ⟨info, hinfo, _, hsize, _⟩ := hs.get
  obtain ⟨ad, hA, hab, _⟩ := hrow (l * sz) _ (List.getElem?_eq_getElem hin)
  subst hA
  have hl : l ≤ h := by omega
  have hc : ¬ c = l := by omega
  refine out_val (x := .slice (some (ad.add (l * sz))) (h - l) (c - l)) (w' := w) ?_ ⟨Grow.refl w, rfl⟩
  simp [execOp, h1, h2, h4, Instr.sliceAt, Instr.slice, run_underlying ht, Instr.sliceBounds, Instr.sliceBound, asIntOf, sizeOf, typeInfo, hinfo, hsize, hh, hl, hc]
end
/-- A part of cells that are known. -/
theorem A.partM {P : Program} {n : Nat} {E : Env} {w₀ : World} {c : Code} {Q : Exit → Act → World → Prop} {k k' B' : Nat} {A₀ : Option Addr} {xs : List Value} (o m : Nat) (hk : E.look k = some (old B' (memR A₀ xs))) (h : A κ P w₀ n c ((k', old B' (memR (A₀.map (·.add o)) ((xs.drop o).take m))) :: E) Q) : A κ P w₀ n c E Q := fun a w g hs => by
  obtain ⟨hB, hrow⟩ := hs.of k _ hk
  refine h a w g (hs.push (t := k') (d := old B' (memR (A₀.map (·.add o)) ((xs.drop o).take m))) ⟨hB, fun j u hu => ?_⟩)
  rw [List.getElem?_take] at hu
  split at hu
  · rw [List.getElem?_drop] at hu
    obtain ⟨ad, hA, hab, h4⟩ := hrow (o + j) u hu
    subst hA
    exact ⟨ad.add o, rfl, by rw [block_of_add]; exact hab, by rw [add_of_add]; exact h4⟩
  · cases hu
theorem Firm.vlist {l c : Nat} {xs : List Value} : Firm l (Go.Proofs.YtfjpipkcfbmdeaaDoor.vlist xs c) := Firm.list fun d hd => by
  obtain ⟨x, _, rfl⟩ := List.mem_map.1 hd
  exact Firm.v _ _
/-- return of a value, from a function in which a range over a function ended. -/
theorem End.ret1C {P : Program} {n : Nat} {E : Env} {w₀ : World} {fn : Func} {D vD r : Nat} {f d : Go.Proofs.YtfjpipkcfbmdeaaDoor.D} {m : Nat} (hD : E.look vD = some (recD D (.deferred (some [])) m)) (hDB : w₀.heap.size ≤ D) (hr : fn.results = #[.tmp r])
    (h1 : E.look r = some f) (hf : Firm D f) (hl : Le f d) : End ⟨none, [{ target := .collected D, args := #[] }]⟩ w₀ n E (BP P fn (PostOf w₀ d) .ret) := fun a w g hs => by
  obtain ⟨hlt, _, hk⟩ := hs.of vD _ hD
  have k1 := hl.of (hf w _ (.deferred none) _ hk rfl (hs.of r _ h1))
  show LeavesInM (FR none) 0 P fn a.tmps _ a.defers .returning w
  rw [show a.defers = [{ target := .collected D, args := #[] }] from hs.defers]
  refine ⟨by simp, .inl ⟨D, _, rfl, run_takeDeferred hk, ?_⟩⟩
  exact ⟨a.tmps.getD r undef, by simp [results, hr], _, rfl, Below.trans g (below_putObj w _ hDB), k1⟩
/-- It is a row of blocks from a number on: a store into a block before them leaves it alone. -/
theorem Surv.ownPB {B T g base sz n : Nat} {e : TypeId} {xs : List Value} (h : g < base) : Surv B T g (Go.Proofs.YtfjpipkcfbmdeaaDoor.ownP base e sz n xs) := fun w w' x k ⟨⟨h1, h2⟩, h3⟩ => by
  refine ⟨⟨h1, h2.imp id ?_⟩, fun b hb => Nat.lt_of_lt_of_le (h3 b hb) k.size⟩
  rintro ⟨b, cap, cur, rfl, hb, hh, hr⟩
  exact ⟨b, cap, cur, rfl, hb, (k.other b (h3 b (by simp [Value.ownBlock])) (by omega)).trans hh, hr⟩
/-- A base behind a block that is known. -/
theorem OpOk.raise {P : Program} {B : Nat} {E : Env} {o : Oper} {d : D} {k b : Nat} {T : TypeId} {xs : List Value} (hk : vbase ≤ k) (hl : E.look k = some (blk b T xs)) (h : OpOk P (b + 1) o E d) : OpOk P B o E d := fun ρ w hB hv hρ =>
  h ρ w (hv k _ hk hl).1 hv hρ
theorem Eff.raise {P : Program} {n B : Nat} {ops : Array Oper} {E E' : Env} {o : Oper} {k b : Nat} {T : TypeId} {xs : List Value} (hl : E.look k = some (blk b T xs)) (hB : B ≤ b) (h : Eff P n (b + 1) ops o E E') : Eff P n B ops o E E' := fun κ a w K Q hs hK =>
  h κ a w K Q ⟨(hs.of k _ hl).1, hs.defers, hs.size, hs.of⟩ fun a' w' hb hs' => hK a' w' (hb.mono (by omega)) ⟨Nat.le_trans hs.base hb.size, hs'.defers, hs'.size, hs'.of⟩
theorem A.nameTlR {P : Program} {n : Nat} {E : Env} {w₀ : World} {c : Code} {Q : Exit → Act → World → Prop} {t k B' m : Nat} {pre xs : List Value} (ht : E.look t = some (old B' (tlD pre (rowD m xs)))) (h : ∀ (A₀ : Option Addr) (q : Nat), A κ P w₀ n c ((t, .v (aggV (pre ++ [.slice A₀ m q]))) :: (k, old B' (memR A₀ xs)) :: E) Q) : A κ P w₀ n c E Q := fun a w g hs => by
  obtain ⟨hB, v, h1, h2, A₀, q, rfl, h3⟩ := hs.of t _ ht
  exact h A₀ q a w g ((hs.push (t := k) (d := old B' (memR A₀ xs)) ⟨hB, h3⟩).push (t := t) (d := .v (aggV (pre ++ [.slice A₀ m q]))) (by exact h2))
/-- A slice told exactly, and its cells, as one fact. -/
theorem OpOk.lgO {P : Program} {B : Nat} {E : Env} {o : Oper} {A₀ : Option Addr} {m q k B' : Nat} {xs : List Value} (h : OpOk P B o E (.v (.slice A₀ m q))) (hq : m ≤ q) (hk : vbase ≤ k) (hl : E.look k = some (old B' (memR A₀ xs))) : OpOk P B o E (old B' (rowLg m xs)) := fun ρ w hB hv hρ => by
  refine (h ρ w hB hv hρ).mono fun x w' hx => ⟨hx.1, ?_⟩
  have h2 : (old B' (memR A₀ xs)).Of w' undef := D.Of.grow (hv k _ hk hl) hx.1
  rw [show x = .slice A₀ m q from hx.2]
  exact ⟨h2.1, A₀, q, rfl, hq, h2.2⟩
/-- A slice that a call returned: its value and its cells. -/
theorem A.nameLgP {P : Program} {n : Nat} {E : Env} {w₀ : World} {c : Code} {Q : Exit → Act → World → Prop} {t k m : Nat} {xs : List Value} (ht : E.look t = some (rowLg m xs)) (hx : 0 < xs.length) (h : ∀ (ad : Addr) (q : Nat), m ≤ q → A κ P w₀ n c ((t, .v (.slice (some ad) m q)) :: (k, memR (some ad) xs) :: E) Q) : A κ P w₀ n c E Q := fun a w g hs => by
  obtain ⟨A₀, q, h1, h3, h2⟩ := hs.of t _ ht
  obtain ⟨ad, rfl, _, _⟩ := h2 0 _ (List.getElem?_eq_getElem hx)
  exact h ad q h3 a w g ((hs.push (t := k) (d := memR (some ad) xs) h2).push (t := t) (d := .v (.slice (some ad) m q)) (by exact h1))
theorem cels_e {l : List CelT} (h : ∀ c ∈ l, c.Fit) {i : Nat} (hi : i < l.length) : ((((celsV l).drop (i * 34)).take 34).drop 32) = [.int .u64 (((ceAt l i).e : Nat) : Int), .int .u64 (((ceAt l i).m : Nat) : Int)] := by
  rw [cels_at h hi]; exact List.drop_left' (by rw [List.length_map]; exact (ceAt_fit h i).t)
theorem cels_m {l : List CelT} (h : ∀ c ∈ l, c.Fit) {i : Nat} (hi : i < l.length) : ((((celsV l).drop (i * 34)).take 34).drop 33) = [.int .u64 (((ceAt l i).m : Nat) : Int)] := by
  rw [show 33 = 32 + 1 from rfl, ← List.drop_drop, cels_e h hi]; rfl
theorem cell_e {l : List CelT} (h : ∀ c ∈ l, c.Fit) {i : Nat} (hi : i < l.length) : (celsV l)[i * 34 + 32]? = some (.int .u64 (((ceAt l i).e : Nat) : Int)) := by
  have h1 := cels_e h hi
  have h2 : ((((celsV l).drop (i * 34)).take 34).drop 32)[0]? = some (.int .u64 (((ceAt l i).e : Nat) : Int)) := by rw [h1]; rfl
  rw [List.getElem?_drop, List.getElem?_take, List.getElem?_drop] at h2
  simpa using h2
theorem cell_m {l : List CelT} (h : ∀ c ∈ l, c.Fit) {i : Nat} (hi : i < l.length) : (celsV l)[i * 34 + 33]? = some (.int .u64 (((ceAt l i).m : Nat) : Int)) := by
  have h1 := cels_e h hi
  have h2 : ((((celsV l).drop (i * 34)).take 34).drop 32)[1]? = some (.int .u64 (((ceAt l i).m : Nat) : Int)) := by rw [h1]; rfl
  rw [List.getElem?_drop, List.getElem?_take, List.getElem?_drop] at h2
  simpa using h2
/-- The part of a log. -/
def cut (l : List CelT) (i j : Nat) : List CelT := (l.take j).drop i
theorem cut_fit {l : List CelT} (h : ∀ c ∈ l, c.Fit) (i j : Nat) : ∀ c ∈ cut l i j, c.Fit := fun c hc => h c (List.mem_of_mem_take (List.mem_of_mem_drop hc))
theorem cut_len {l : List CelT} {i j : Nat} (hj : j ≤ l.length) : (cut l i j).length = j - i := by unfold cut; rw [List.length_drop, List.length_take]; omega
theorem cut_v {l : List CelT} (h : ∀ c ∈ l, c.Fit) {i j : Nat} (hij : i ≤ j) : ((celsV l).drop (i * 34)).take ((j - i) * 34) = celsV (cut l i j) := by
  rw [flat_drop (cels_lens h), cels_take (fun c hc => h c (List.mem_of_mem_drop hc)), cut, List.drop_take]
end Go.Proofs.YtfjpipkcfbmdeaaDoor
namespace Go.Proofs.YtfjpipkcfbmdeaaDoor
open Go Go.RowKit
set_option linter.unusedVariables false
set_option linter.unusedSimpArgs false
variable {κ : Cx}
section
variable {P : Program} {n B : Nat} {ops : Array Oper} {E : Env} {dst : Option Tmp} {ty : TypeId} {pos : String} {after : Array Edge} {guard : Option (Nat × Bool)}
end
theorem BlkX.of_new {X : Nat → Prop} {B₀ B : Nat} {w : World} {b : Nat} {e : TypeId} {cs : List Value} (hX : ∀ b, X b → b < B₀) (hb : B₀ ≤ b) (hlt : b < B) (hh : w.heap[b]? = some (.cells cs.toArray e (0, 0))) : BlkX X B w b e cs := ⟨fun hx => by have := hX b hx; omega, hlt, hh⟩
section
variable {P : Program} {n : Nat} {w₀ : World} {E : Env}
/-- The disk that a change makes. -/
theorem End.changed {fn : Func} {r kr kp k1 k2 ky kz k8 k9 kV b6 b bk b8 b9 bV i m : Nat} {T : DTy} {X : Nat → Prop} {S : Dk} {c : Con} {tD : TypeId} {td : TypeDesc} {ps cs : List Value} {y z : Value} (hr : fn.results = #[.cell r tD]) (ht : P.underlying tD = some td) (hp : (match td with | .struct _ | .array _ _ => true | _ => false) = true) (hsz : SizeIs P tD 3)
    (h1 : E.look r = some (.v (.pointer (some ⟨b6, 0, none⟩)))) (h2 : E.look kr = some (blk b6 tD [nI S.length, nI (totC S + 1), .slice (some ⟨b8, 0, none⟩) m m])) (hm : m = ps.length)
    (hP : E.look kp = some (old w₀.heap.size (valM (.slice (some ⟨b, 0, none⟩) ps.length ps.length) (partsD' T X S)))) (hb : E.look k1 = some (blk b T.r ps)) (hi : i < S.length) (hps : ps[i / 64]? = some (.pointer (some ⟨bk, 0, none⟩))) (hbk : E.look k2 = some (blk bk T.p cs))
    (hlb : b < w₀.heap.size) (hlk : bk < w₀.heap.size) (h8 : E.look k8 = some (blk b8 T.r (ps.set (i / 64) (.pointer (some ⟨b9, 0, none⟩))))) (h9 : E.look k9 = some (blk b9 T.p (cs.set (i % 64) (.pointer (some ⟨bV, 0, none⟩)))))
    (hV : E.look kV = some (blk bV T.v [.bool c.isSome, y, nI ((hisC S i).length + 1), z])) (hy : E.look ky = some (old w₀.heap.size (valM y (contyD T X c)))) (hz : E.look kz = some (valM z (versD T X (hisC S i)))) (g8 : w₀.heap.size ≤ b8) (g9 : w₀.heap.size ≤ b9) (gV : w₀.heap.size ≤ bV) :
    End Cx.top w₀ n E (BP P fn (PostOf w₀ (diskD T X (putC S i c))) .ret) := fun a w g hs => by
  subst hm
  have h3 : a.tmps[r]?.getD undef = .pointer (some ⟨b6, 0, none⟩) := by rw [← Array.getD_eq_getD_getElem?]; exact hs.of r _ h1
  obtain ⟨_, hh⟩ := hs.of kr _ h2
  obtain ⟨hB, hX, hPA⟩ := hs.of kp _ hP
  have kb := hs.of k1 _ hb
  have kbk := hs.of k2 _ hbk
  have k8' := hs.of k8 _ h8
  have k9' := hs.of k9 _ h9
  have kV' := hs.of kV _ hV
  have ky' := hs.of ky _ hy
  have kz' := hs.of kz _ hz
  have hc : ContAt T X w.heap.size w y c := ContAt.carry (Q := fun _ => True) ky'.2 (Carry.up hB) trivial
  have hx : VersAt T X w.heap.size w (.pointer (some ⟨bV, 0, none⟩)) (c :: hisC S i) := ⟨bV, y, z, rfl, BlkX.of_new hX gV kV'.1 kV'.2, hc, kz'⟩
  have hPS := hPA.set hB kb.2 hi hps kbk.2 (BlkX.of_new hX g8 k8'.1 k8'.2) (BlkX.of_new hX g9 k9'.1 k9'.2) hx
  refine BP.ret hs.defers ⟨aggV [nI S.length, nI (totC S + 1), .slice (some ⟨b8, 0, none⟩) ps.length ps.length], by simp [results, hr, h3, asAddr, load_cell (xs := [nI S.length, nI (totC S + 1), .slice (some ⟨b8, 0, none⟩) ps.length ps.length]) ht hp hsz hh], _, rfl, g, .slice (some ⟨b8, 0, none⟩) ps.length ps.length, rfl, ?_, fun b hb => Nat.lt_of_lt_of_le (hX b hb) hB, hPS⟩
  rw [putC_length, totC_put c hi]; rfl
end
/-! ### New disks -/
section
variable {P : Program} {n : Nat} {w₀ : World} {E : Env} {c : Code} {Q : Exit → Act → World → Prop}
end
/-! ### Slices cut to their length -/
section
variable {P : Program} {B : Nat} {E : Env} {dst : Option Tmp} {ty : TypeId} {pos : String} {after : Array Edge} {guard : Option (Nat × Bool)}
theorem ok_clip {t e : TypeId} {z : Value} {nb : Nat} {x ho mo : Operand} {k k' : IntKind} {m B' : Nat} {f : D} {xs : List Value} (ht : P.underlying t = some (.slice e)) (hs : InfoIs P e z nb) (hx : E.at x = some f) (hf : Le f (own B' e m xs)) (hho : E.at ho = some (.v (.int k (m : Int)))) (hmo : E.at mo = some (.v (.int k' (m : Int)))) (hm : m = xs.length) (hmax : m ≤ maxLen) :
    OpOk P B ⟨dst, .slice t x none (some ho) (some mo), ty, pos, after, guard⟩ E (vlist xs m) := fun ρ w _ _ hρ => by
  subst hm
  obtain ⟨⟨hlen, hcase⟩, hob⟩ := hf.of (hρ x (by simp [Op.operands]) _ hx)
  have h1 : ρ ho = .int k (xs.length : Int) := hρ ho (by simp [Op.operands]) _ hho
  have h2 : ρ mo = .int k' (xs.length : Int) := hρ mo (by simp [Op.operands]) _ hmo
  obtain ⟨info, hinfo, _, hsize, _⟩ := hs.get
  rcases hcase with ⟨hv, hm0⟩ | ⟨g, cap, cur, hv, hb, hh, hnc, hcm, hcs, htake⟩
  · have hl0 : xs = [] := List.eq_nil_of_length_eq_zero hm0
    subst hl0
    have hb := sliceBounds_run (P := P) (sl := true) (len := 0) (cap := 0) (l := 0) (h := 0) (m := 0) (L := none) (H := some (.int k 0)) (M := some (.int k' 0)) w (.inr ⟨rfl, rfl⟩) (.inl ⟨k, rfl⟩) (.inl ⟨k', rfl⟩) (Nat.le_refl _) (Nat.le_refl _) (Nat.le_refl _)
    have hr : (Instr.sliceAt t (.slice none 0 0) none (some (.int k 0)) (some (.int k' 0))).run P w = .ok (.slice none 0 0) w := by
      simp only [Instr.sliceAt, Instr.slice, Sem.run_bind, run_underlying ht, Result.andThen_ok, hb, sizeOf, typeInfo]
      simp [hinfo, hsize]
    have h1 : ρ ho = .int k 0 := h1
    have h2 : ρ mo = .int k' 0 := h2
    refine out_val (x := .slice none 0 0) (w' := w) (by simp only [execOp, hv, h1, h2, Option.map_none, Option.map_some, Sem.run_bind, hr, Result.andThen_ok, Sem.run_pure]) ⟨Grow.refl w, vlist_mk (us := []) (Nat.le_refl _) (Nat.zero_le _) RowIn.nil⟩
  · have hb := sliceBounds_run (P := P) (sl := true) (len := xs.length) (cap := cap) (l := 0) (h := xs.length) (m := xs.length) (L := none) (H := some (.int k xs.length)) (M := some (.int k' xs.length)) w (.inr ⟨rfl, rfl⟩) (.inl ⟨k, rfl⟩) (.inl ⟨k', rfl⟩) (Nat.zero_le _) (Nat.le_refl _) (by omega)
    have hr : (Instr.sliceAt t (.slice (some ⟨g, 0, none⟩) xs.length cap) none (some (.int k xs.length)) (some (.int k' xs.length))).run P w = .ok (.slice (some ⟨g, 0, none⟩) xs.length xs.length) w := by
      have haddr : (⟨g, 0, none⟩ : Addr).add 0 = ⟨g, 0, none⟩ := rfl
      simp only [Instr.sliceAt, Instr.slice, Sem.run_bind, run_underlying ht, Result.andThen_ok, hb, sizeOf, typeInfo]
      simp [hinfo, hsize, haddr]
    refine out_val (x := .slice (some ⟨g, 0, none⟩) xs.length xs.length) (w' := w) (by simp only [execOp, hv, h1, h2, Option.map_none, Option.map_some, Sem.run_bind, hr, Result.andThen_ok, Sem.run_pure]) ⟨Grow.refl w, vlist_mk (Nat.le_refl _) hmax fun j u hu => ⟨_, rfl, hob g (by rw [hv]; rfl), ?_⟩⟩
    rw [add_lit0, Nat.zero_add]
    have hcell : cur[j]? = some u := by
      rw [← htake, List.getElem?_take] at hu
      split at hu
      · simpa using hu
      · cases hu
    simp [World.cell?, hh, hcell]
end
end Go.Proofs.YtfjpipkcfbmdeaaDoor
