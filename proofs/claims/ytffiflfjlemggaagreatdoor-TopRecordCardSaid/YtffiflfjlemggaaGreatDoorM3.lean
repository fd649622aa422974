/-
  OWN TEXTS of this seat, put together, part 3: C02g, Laid, St, C01d, C02h, Dig, C02d, C02e, C02f, C02i, C02j, C02k, Mac, C03a, C03b, Hkdf, C04a, RangeX, C04c, Gf, C05a, C05b.
-/
import Derived.Test.YtffiflfjlemggaaGreatDoorM2
import Derived.Test.YtffiflfjlemggaaGreatDoorTie
import Derived.Test.YtffiflfjlemggaaGreatDoorM1
import Derived.ProofKit
import Derived.LaidMore
import Derived.Stop.Joined
import Derived.Test.YtffiflfjlemggaaGreatDoorProg
namespace Go.Proofs.YtffiflfjlemggaaGreatDoor
open Go Go.RowKit
set_option linter.unusedVariables false
set_option maxRecDepth 20000
/-- What the package's tables hold. -/
abbrev tabs : Env := [(1900000, tab 0 (H8.list.map u32V)), (1900001, tab 1 (K64.map u32V))]
theorem tabs_v : ∀ p ∈ tabs, vbase ≤ p.1 := fun p hp => by
 simp only [tabs, List.mem_cons, List.not_mem_nil, or_false] at hp
 rcases hp with rfl | rfl <;> decide
theorem tabs_hi {w : World} (h : ∀ p ∈ tabs, p.2.Of w undef) : 1 < w.heap.size := by
 have := h (1900001, tab 1 (K64.map u32V)) (by simp [tabs])
 exact this.1

theorem zero24 : ZeroIs Tryz.prog 24 (List.replicate 64 (.int .u8 0)) := by unfold ZeroIs; kernel_rfl
theorem size24 : SizeIs Tryz.prog 24 64 := by unfold SizeIs; kernel_rfl
theorem rotr_fn (x : UInt32) (n : Nat) (hn0 : 0 < n) (hn : n < 32) : Fn Tryz.prog 125 [.v (u32V x), .v (.int .i64 (n : Int))] (.v (u32V (rotr32 x n))) := by
 have hx := u32_lt x
 refine FV Tryz.func125 rfl Tryz.ntmps125 rfl fun w₀ => ?_
 refine GV rfl ?_
 refine GT ?_
 refine RV 2 rfl ?_
 refine RS (ok_neg rfl) ?_; refine RZ (.int .i64 (-(n : Int))) (by rw [wrap_i64 (by omega) (by omega)]; congr 1; omega) ?_
 refine RS (ok_call (Rot_fn (x.toNat : Int) (-(n : Int)) (Int.natCast_nonneg _) (by omega)) (A2 rfl rfl)) ?_; refine RZ (u32V (rotr32 x n)) (by rw [rotr32_val, Int.toNat_natCast, show (-(n : Int) % 32).toNat = 32 - n from by omega]) ?_
 refine RVN 1 rfl ?_
 refine A.ret ?_
 exact ER rfl rfl
set_option maxHeartbeats 400000 in
theorem schedule_fn (l : List UInt8) (hl : l.length = 64) : Fn Tryz.prog 120 [.v (aggV (l.map byteV))] (.v (aggV ((sched l 64).map u32V))) := by
 refine FV Tryz.func120 rfl Tryz.ntmps120 rfl fun w₀ => ?_
 refine GS ?_
 refine TN 0 ?_
 refine RN ?_
 refine ZB 1000001 rfl fun b1 ⟨hBb1, hb1⟩ => ?_
 refine TN 1 ?_
 refine RN ?_
 refine ZN 1000002 zero190 fun b2 ⟨hBb2, hb2⟩ => ?_
 refine TL ?_
 refine RN ?_
 refine GS ?_
 refine TN 0 ?_
 refine RN ?_
 refine ZN 1000003 zero190 fun b3 ⟨hBb3, hb3⟩ => ?_
 have hlt_b2_b3 := hb3 1000002 b2 _ _ rfl
 refine TL ?_
 refine RN ?_
 refine QS ?_
 refine GV rfl ?_
 refine A.block ?_
 refine A.loop (ι := Nat) (fun j => j ≤ 16) (fun j => [(1, .v (.pointer (some ⟨b1, 0, none⟩))), (2, .v (.pointer (some ⟨b2, 0, none⟩))), (3, .v (.pointer (some ⟨b3, 0, none⟩))), (10, .v (.int .i64 ((j : Nat) : Int))), (1000001, blk b1 24 (l.map byteV)), (1000002, blk b2 190 (List.replicate 64 (.int .u32 0))), (1000003, blk b3 190 (table (sched l j) 64))]) (fun j => 16 - j) 0 ?_ ?_ ?_
 ·exact Nat.zero_le _
 ·exact (KC 1 rfl (KC 2 rfl (KC 3 rfl (KC 10 rfl (KC 1000001 rfl (KC 1000002 rfl (KE 1000003 rfl (rfl) KN)))))))
 intro j hj
 refine GV rfl ?_
 refine QS ?_
 refine A.cond rfl (fun hc11 => ?_) (fun hc11 => ?_)
 ·have hlt : j < 16 := by simp at hc11; omega
  refine QK ?_
  refine QSB ?_
  refine GV rfl ?_
  refine GE ?_
  refine TF 12 ?_
  refine RV 3 rfl ?_
  refine RZ (.int .i64 ((4 * j : Nat) : Int)) (by rw [wrap_i64 (by omega) (by omega)]; first | rfl | (congr 1; omega)) ?_
  refine RV 2 rfl ?_
  refine RZ (.int .i64 ((j + 1 : Nat) : Int)) (by rw [wrap_i64 (by omega) (by omega)]; first | rfl | (congr 1; omega)) ?_
  refine RB rfl rfl rfl ?_
  refine RZ (.int .i64 ((4 * j + 4 : Nat) : Int)) (by rw [wrap_i64 (by omega) (by omega)]; first | rfl | (congr 1; omega)) ?_
  refine RS (ok_sliceA (s := 1000001) (4 * j) (4 * j + 4) (by decide) Tryz.underlying24 info5 rfl rfl (.inl ⟨_, _, rfl, rfl⟩) (.inl ⟨_, _, rfl, rfl⟩) (by omega) (by omega) (by rw [List.length_map, hl]) (by decide)) ?_
  refine RS (ok_call (Get32_fn ((l.drop (4 * j)).take 4)) (Args.cons rfl (Le.eq (by rw [byt_vals]; congr 2; rw [List.map_take, List.map_drop, List.drop_take, show 4 * j + 4 - 4 * j = 4 from by omega])) Args.nil)) ?_
  refine RM rfl ?_
  refine RS (ok_extract rfl rfl) ?_; refine RZ (u32V (nextW l (sched l j) j)) (by rw [nextW, if_pos hlt, word, u32V_ofNat, getV, if_pos (by simp; omega), Nat.mod_eq_of_lt (word_lt l j)]) ?_
  refine RS (ok_extract rfl rfl) ?_
  refine RS (ok_index0 _ Tryz.underlying190 info38 rfl rfl (rfl) (by omega)) ?_
  refine RN ?_
  refine ⟨_, eff_storeS (n := 70) (s := 1000003) info38 rfl rfl rfl hBb3 rfl (by rw [table_length (by rw [sched_length]; omega)]; omega) (LT 1000001 rfl (LB 1000002 rfl (LW [1, 2, 3, 10] rfl))), ?_⟩
  refine TL ?_
  refine RN ?_
  refine End.normal_block ?_
  refine EN ?_
  refine GTE ?_
  refine RB rfl rfl rfl ?_
  refine RZ (.int .i64 ((j + 1 : Nat) : Int)) (by rw [wrap_i64 (by omega) (by omega)]; first | rfl | (congr 1; omega)) ?_
  refine RVN 1 rfl ?_
  refine End.normal_then ?_
  refine End.again (j + 1) ?_ ?_ ?_
  ·show _ ≤ _; omega
  ·show _ - _ < _ - _; omega
  ·exact (KC 1 rfl (KC 2 rfl (KC 3 rfl (KC 10 rfl (KC 1000001 rfl (KC 1000002 rfl (KE 1000003 rfl (by rw [table_set (sched_length l j) (by omega)]; rfl) KN)))))))
 ·obtain rfl : j = 16 := by simp at hc11; omega
  refine A.exit ?_
  refine End.exit_then ?_
  refine End.exit_then ?_
  refine End.exit_here ?_
  refine EN ?_
  refine QS ?_
  refine GV rfl ?_
  refine A.block ?_
  refine A.loop (ι := Nat) (fun j => 16 ≤ j ∧ j ≤ 64) (fun j => [(2, .v (.pointer (some ⟨b2, 0, none⟩))), (3, .v (.pointer (some ⟨b3, 0, none⟩))), (5, .v (.int .i64 ((j : Nat) : Int))), (1000002, blk b2 190 (List.replicate 64 (.int .u32 0))), (1000003, blk b3 190 (table (sched l j) 64))]) (fun j => 64 - j) 16 ?_ ?_ ?_
  ·exact ⟨Nat.le_refl _, by decide⟩
  ·exact (SV [2, 3, 5, 1000002, 1000003] rfl)
  intro j hj
  refine QS ?_
  refine GV rfl ?_
  refine A.cond rfl (fun hc27 => ?_) (fun hc27 => ?_)
  ·have hlt : j < 64 := by simp at hc27; omega
   refine QK ?_
   refine QSB ?_
   refine GTD ?_
   refine RV 2 rfl ?_
   refine RZ (.int .i64 ((j - 15 : Nat) : Int)) (by rw [wrap_i64 (by omega) (by omega)]; first | rfl | (congr 1; omega)) ?_
   refine RS (ok_index0 _ Tryz.underlying190 info38 rfl rfl (rfl) (by omega)) ?_
   refine RS (ok_loadV (s := 1000003) (by decide) Tryz.underlying38 rfl rfl rfl (table_get (by rw [sched_length]; omega))) ?_
   refine RV 2 rfl ?_
   refine RZ (.int .i64 ((j - 2 : Nat) : Int)) (by rw [wrap_i64 (by omega) (by omega)]; first | rfl | (congr 1; omega)) ?_
   refine RS (ok_index0 _ Tryz.underlying190 info38 rfl rfl (rfl) (by omega)) ?_
   refine RS (ok_loadV (s := 1000003) (by decide) Tryz.underlying38 rfl rfl rfl (table_get (by rw [sched_length]; omega))) ?_
   refine RVN 2 rfl ?_
   refine GT ?_
   refine RM rfl ?_
   refine RS (ok_call (rotr_fn _ 7 (by decide) (by decide)) (A2 rfl rfl)) ?_
   refine RM rfl ?_
   refine RS (ok_call (rotr_fn _ 18 (by decide) (by decide)) (A2 rfl rfl)) ?_
   refine RS (ok_xor32 rfl rfl) ?_
   refine RM rfl ?_
   refine RS (ok_shr32 3 rfl rfl rfl (by decide)) ?_
   refine RS (ok_xor32 rfl rfl) ?_
   refine RVN 1 rfl ?_
   refine GT ?_
   refine RM rfl ?_
   refine RS (ok_call (rotr_fn _ 17 (by decide) (by decide)) (A2 rfl rfl)) ?_
   refine RM rfl ?_
   refine RS (ok_call (rotr_fn _ 19 (by decide) (by decide)) (A2 rfl rfl)) ?_
   refine RS (ok_xor32 rfl rfl) ?_
   refine RM rfl ?_
   refine RS (ok_shr32 10 rfl rfl rfl (by decide)) ?_
   refine RS (ok_xor32 rfl rfl) ?_
   refine RVN 1 rfl ?_
   refine A.sub (SV [2, 3, 5, 8, 9, 1000002, 1000003] rfl) ?_
   refine A.reg (by kernel_rfl) (by kernel_rfl) (.inr (by kernel_rfl)) ?_
   refine TD 15 ?_
   refine RV 4 rfl ?_
   refine RZ (.int .i64 ((j - 7 : Nat) : Int)) (by rw [wrap_i64 (by omega) (by omega)]; first | rfl | (congr 1; omega)) ?_
   refine RS (ok_index0 _ Tryz.underlying190 info38 rfl rfl (rfl) (by omega)) ?_
   refine RS (ok_loadV (s := 1000003) (by decide) Tryz.underlying38 rfl rfl rfl (table_get (by rw [sched_length]; omega))) ?_
   refine RS (ok_add32 rfl rfl) ?_
   refine RM rfl ?_
   refine RS (ok_add32 rfl rfl) ?_
   refine RV 2 rfl ?_
   refine RZ (.int .i64 ((j - 16 : Nat) : Int)) (by rw [wrap_i64 (by omega) (by omega)]; first | rfl | (congr 1; omega)) ?_
   refine RS (ok_index0 _ Tryz.underlying190 info38 rfl rfl (rfl) (by omega)) ?_
   refine RS (ok_loadV (s := 1000003) (by decide) Tryz.underlying38 rfl rfl rfl (table_get (by rw [sched_length]; omega))) ?_
   refine RS (ok_add32 rfl rfl) ?_; refine RZ (u32V (nextW l (sched l j) j)) (by rw [nextW, if_neg (by omega), sha0, sha1]; congr 1; ac_rfl) ?_
   refine RS (ok_index0 _ Tryz.underlying190 info38 rfl rfl (rfl) (by omega)) ?_
   refine RN ?_
   refine ⟨_, eff_storeS (n := 70) (s := 1000003) info38 rfl rfl rfl hBb3 rfl (by rw [table_length (by rw [sched_length]; omega)]; omega) (LB 1000002 rfl (LW [2, 3, 5] rfl)), ?_⟩
   refine TL ?_
   refine RN ?_
   refine End.normal_block ?_
   refine EN ?_
   refine GTE ?_
   refine RV 2 rfl ?_
   refine RZ (.int .i64 ((j + 1 : Nat) : Int)) (by rw [wrap_i64 (by omega) (by omega)]; first | rfl | (congr 1; omega)) ?_
   refine RVN 1 rfl ?_
   refine End.normal_then ?_
   refine End.again (j + 1) ?_ ?_ ?_
   ·show _ ∧ _; omega
   ·show _ - _ < _ - _; omega
   ·exact (KC 2 rfl (KC 3 rfl (KC 5 rfl (KC 1000002 rfl (KE 1000003 rfl (by rw [table_set (sched_length l j) hlt]; rfl) KN)))))
  ·obtain rfl : j = 64 := by simp at hc27; omega
   refine A.exit ?_
   refine End.exit_then ?_
   refine End.exit_then ?_
   refine End.exit_here ?_
   refine EN ?_
   refine GS ?_
   refine TF 1 ?_
   refine RS (ok_loadA (s := 1000003) (by decide) Tryz.underlying190 rfl (size190.of (by rw [table_length (by rw [sched_length]; exact Nat.le_refl _)])) rfl rfl) ?_; refine RZ (aggV ((sched l 64).map u32V)) (by rw [table_full (sched_length l 64)]) ?_
   refine RN ?_
   refine ⟨_, eff_storeA (n := 70) (s := 1000002) (size190.of (by rw [List.length_map, sched_length])) rfl rfl (all_u32 _) hBb2 rfl (by rw [List.length_map, sched_length, List.length_replicate]) (LV 2 rfl (LB 1000003 rfl LN)), ?_⟩
   refine TL ?_
   refine RN ?_
   refine A.ret ?_
   exact End.cell1 (s := 1000002) rfl Tryz.underlying190 rfl (size190.of (by rw [List.length_map, sched_length])) rfl rfl (Le.refl _)
set_option maxHeartbeats 400000 in
theorem rounds_fn (h : R8) (ws : List UInt32) (hw : ws.length = 64) : FnM Tryz.prog 119 tabs [.v (aggV (h.list.map u32V)), .v (aggV (ws.map u32V))] (.v (aggV ((rounds h K64 ws 64).list.map u32V))) := by
 refine FnM.of Tryz.func119 rfl (by kernel_rfl) Tryz.ntmps119 (by simp) (by decide) (fun w => [(0, .v (aggV (h.list.map u32V))), (1, .v (aggV (ws.map u32V))), (1900000, tab 0 (H8.list.map u32V)), (1900001, tab 1 (K64.map u32V))]) (fun w => (StartM.v rfl (StartM.v rfl (StartM.m (by simp [tabs]) (by decide) (StartM.m (by simp [tabs]) (by decide) StartM.nil))))) fun w₀ hM => ?_
 have htab := tabs_hi hM
 refine GS ?_
 refine TN 0 ?_
 refine RN ?_
 refine ZB 1000002 rfl fun b2 ⟨hBb2, hb2⟩ => ?_
 refine TN 1 ?_
 refine RN ?_
 refine ZB 1000003 rfl fun b3 ⟨hBb3, hb3⟩ => ?_
 refine TN 2 ?_
 refine RN ?_
 refine ZN 1000004 zero104 fun b4 ⟨hBb4, hb4⟩ => ?_
 have hlt_b2_b4 := hb4 1000002 b2 _ _ rfl
 refine TL ?_
 refine RN ?_
 refine GTD ?_
 refine RS (ok_index0 (0) Tryz.underlying104 info38 rfl rfl (rfl) (by decide)) ?_
 refine RLV 1000002 Tryz.underlying38 rfl rfl rfl ?_
 refine RS (ok_index0 (1) Tryz.underlying104 info38 rfl rfl (rfl) (by decide)) ?_
 refine RLV 1000002 Tryz.underlying38 rfl rfl rfl ?_
 refine RS (ok_index0 (2) Tryz.underlying104 info38 rfl rfl (rfl) (by decide)) ?_
 refine RLV 1000002 Tryz.underlying38 rfl rfl rfl ?_
 refine RS (ok_index0 (3) Tryz.underlying104 info38 rfl rfl (rfl) (by decide)) ?_
 refine RLV 1000002 Tryz.underlying38 rfl rfl rfl ?_
 refine RS (ok_index0 (4) Tryz.underlying104 info38 rfl rfl (rfl) (by decide)) ?_
 refine RLV 1000002 Tryz.underlying38 rfl rfl rfl ?_
 refine RS (ok_index0 (5) Tryz.underlying104 info38 rfl rfl (rfl) (by decide)) ?_
 refine RLV 1000002 Tryz.underlying38 rfl rfl rfl ?_
 refine RS (ok_index0 (6) Tryz.underlying104 info38 rfl rfl (rfl) (by decide)) ?_
 refine RLV 1000002 Tryz.underlying38 rfl rfl rfl ?_
 refine RS (ok_index0 (7) Tryz.underlying104 info38 rfl rfl (rfl) (by decide)) ?_
 refine RLV 1000002 Tryz.underlying38 rfl rfl rfl ?_
 refine RVN 8 rfl ?_
 refine A.sub (SV [3, 4, 5, 6, 7, 8, 9, 10, 11, 12, 1000002, 1000003, 1000004, 1900000, 1900001] rfl) ?_
 refine QS ?_
 refine GT ?_
 refine RS (ok_loadT (s := 1900001) (by decide) Tryz.underlying190 rfl (size190.of (by rw [List.length_map, K64_lit])) rfl rfl) ?_
 refine RVN 1 rfl ?_
 refine A.block ?_
 refine A.loop (ι := Nat) (fun i => i ≤ 64) (fun i => [(3, .v (.pointer (some ⟨b3, 0, none⟩))), (4, .v (.pointer (some ⟨b4, 0, none⟩))), (5, .v (u32V (rounds h K64 ws i).a)), (6, .v (u32V (rounds h K64 ws i).b)), (7, .v (u32V (rounds h K64 ws i).c)), (8, .v (u32V (rounds h K64 ws i).d)), (9, .v (u32V (rounds h K64 ws i).e)), (10, .v (u32V (rounds h K64 ws i).f)), (11, .v (u32V (rounds h K64 ws i).g)), (12, .v (u32V (rounds h K64 ws i).h)), (33, .v (aggV (K64.map u32V))), (34, .v (.int .i64 ((i : Nat) : Int))), (1000003, blk b3 190 (ws.map u32V)), (1000004, blk b4 104 (List.replicate 8 (.int .u32 0))), (1900000, tab 0 (H8.list.map u32V)), (1900001, tab 1 (K64.map u32V))]) (fun i => 64 - i) 0 ?_ ?_ ?_
 ·exact Nat.zero_le _
 ·exact (SV [3, 4, 5, 6, 7, 8, 9, 10, 11, 12, 33, 34, 1000003, 1000004, 1900000, 1900001] rfl)
 intro i hi
 refine GV rfl ?_
 refine QS ?_
 refine A.cond rfl (fun hc35 => ?_) (fun hc35 => ?_)
 ·have hlt : i < 64 := by simp at hc35; omega
  refine QK ?_
  refine QSB ?_
  refine GT ?_
  refine RM rfl ?_
  refine RS (ok_indexV1 i Tryz.underlying190 Tryz.underlying38 rfl info38 rfl rfl rfl hlt (map_get32 (by rw [K64_lit]; omega))) ?_
  refine RVN 2 rfl ?_
  refine GTD ?_
  refine RV 2 rfl ?_
  refine RS (ok_call (rotr_fn _ 6 (by decide) (by decide)) (A2 rfl rfl)) ?_
  refine RM rfl ?_
  refine RS (ok_call (rotr_fn _ 11 (by decide) (by decide)) (A2 rfl rfl)) ?_
  refine RS (ok_xor32 rfl rfl) ?_
  refine RM rfl ?_
  refine RS (ok_call (rotr_fn _ 25 (by decide) (by decide)) (A2 rfl rfl)) ?_
  refine RS (ok_xor32 rfl rfl) ?_
  refine RS (ok_add32 rfl rfl) ?_
  refine RV 2 rfl ?_
  refine RS (ok_and32 rfl rfl) ?_
  refine RM rfl ?_
  refine RS (ok_not32 rfl) ?_
  refine RM rfl ?_
  refine RS (ok_and32 rfl rfl) ?_
  refine RS (ok_xor32 rfl rfl) ?_
  refine RS (ok_add32 rfl rfl) ?_
  refine RM rfl ?_
  refine RS (ok_add32 rfl rfl) ?_
  refine RM rfl ?_
  refine RS (ok_index0 _ Tryz.underlying190 info38 rfl rfl (rfl) (by omega)) ?_
  refine RS (ok_loadV (s := 1000003) (by decide) Tryz.underlying38 rfl rfl rfl (map_get32 (by omega))) ?_
  refine RS (ok_add32 rfl rfl) ?_
  refine RVN 1 rfl ?_
  refine A.sub (SV [3, 4, 5, 6, 7, 8, 9, 10, 11, 15, 33, 34, 1000003, 1000004, 1900000, 1900001] rfl) ?_
  refine GT ?_
  refine RM rfl ?_
  refine RS (ok_call (rotr_fn _ 2 (by decide) (by decide)) (A2 rfl rfl)) ?_
  refine RM rfl ?_
  refine RS (ok_call (rotr_fn _ 13 (by decide) (by decide)) (A2 rfl rfl)) ?_
  refine RS (ok_xor32 rfl rfl) ?_
  refine RM rfl ?_
  refine RS (ok_call (rotr_fn _ 22 (by decide) (by decide)) (A2 rfl rfl)) ?_
  refine RS (ok_xor32 rfl rfl) ?_
  refine RV 2 rfl ?_
  refine RS (ok_and32 rfl rfl) ?_
  refine RV 2 rfl ?_
  refine RS (ok_and32 rfl rfl) ?_
  refine RS (ok_xor32 rfl rfl) ?_
  refine RV 2 rfl ?_
  refine RS (ok_and32 rfl rfl) ?_
  refine RS (ok_xor32 rfl rfl) ?_
  refine RS (ok_add32 rfl rfl) ?_
  refine RVN 1 rfl ?_
  refine GTE ?_
  refine RV 5 rfl ?_
  refine RS (ok_add32 rfl rfl) ?_
  refine RV 5 rfl ?_
  refine RS (ok_add32 rfl rfl) ?_
  refine RVN 8 rfl ?_
  refine End.sub (SV [3, 4, 5, 6, 7, 8, 9, 10, 11, 12, 33, 34, 1000003, 1000004, 1900000, 1900001] rfl) ?_
  refine End.normal_block ?_
  refine EN ?_
  refine GTE ?_
  refine RB rfl rfl rfl ?_
  refine RZ (.int .i64 ((i + 1 : Nat) : Int)) (by rw [wrap_i64 (by omega) (by omega)]; first | rfl | (congr 1; omega)) ?_
  refine RVN 1 rfl ?_
  refine End.normal_then ?_
  refine End.again (i + 1) ?_ ?_ ?_
  ·show _ ≤ _; omega
  ·show _ - _ < _ - _; omega
  ·exact (SV [3, 4, 5, 6, 7, 8, 9, 10, 11, 12, 33, 34, 1000003, 1000004, 1900000, 1900001] rfl)
 ·obtain rfl : i = 64 := by simp at hc35; omega
  refine A.exit ?_
  refine End.exit_then ?_
  refine End.exit_then ?_
  refine End.exit_here ?_
  refine EN ?_
  refine GS ?_
  refine TF 9 ?_
  refine RV 8 rfl ?_
  refine RS (ok_litA [_, _, _, _, _, _, _, _] Tryz.underlying104 info38 zero104 rfl ⟨rfl, rfl, rfl, rfl, rfl, rfl, rfl, rfl, rfl, rfl, rfl, rfl, rfl, rfl, rfl, rfl, trivial⟩ rfl) ?_; refine RZ (aggV ((rounds h K64 ws 64).list.map u32V)) (rfl) ?_
  refine RN ?_
  refine ⟨_, eff_storeA (n := 105) (s := 1000004) (size104.of (R8.size _)) rfl rfl (all_u32 _) hBb4 rfl ((R8.size _).symm) (LV 4 rfl (LT 1000003 rfl (LeftS.cons (t := 1900000) rfl (Surv.tab (by omega)) (LeftS.cons (t := 1900001) rfl (Surv.tab (by omega)) LN)))), ?_⟩
  refine TL ?_
  refine RN ?_
  refine A.ret ?_
  exact End.cell1 (s := 1000004) rfl Tryz.underlying104 rfl (size104.of (R8.size _)) rfl rfl (Le.refl _)
end Go.Proofs.YtffiflfjlemggaaGreatDoor
namespace Go.Proofs.YtffiflfjlemggaaGreatDoor
open Go Go.RowKit Go.ChangeShapes Go.WideShapes Go.ChangeAt
theorem own' : ownKnob Tryz.prog.godebug = none := by kernel_rfl
theorem laidOut' : laidOutB Tryz.prog = true := by kernel_rfl
abbrev LAID : List (String × DataW Unit) := [("caisson/digests.constants", Rows.laid_caisson_digests_constants), ("caisson/digests.initial", Rows.laid_caisson_digests_initial)]
theorem door_met (os : Os) (args : Array Value) : laidMetH Tryz.prog LAID ((World.doorLaid Tryz.prog 400 os).forCall (fun _ _ => 0) ⟨#[], args, []⟩).memory :=
  laidMetH_of_parts3 (fuel := 8) (laidMet_of_run' 8 (by kernel_rfl) (by kernel_rfl)) (by kernel_rfl) (by kernel_rfl)
theorem tabs_of_laid {W : World} (h : laidMetH Tryz.prog LAID W) : ∀ p ∈ tabs, p.2.Of W undef := by
  rw [MakeChecks.laidMetH_plain _ _ _ (by kernel_rfl)] at h
  obtain ⟨ps, hl, _, hr⟩ := h
  have hr' := fun b off hp => (hr b off hp).1
  intro p hp
  simp only [tabs, List.mem_cons, List.not_mem_nil, or_false] at hp
  rcases hp with rfl | rfl
  · have := tab_of_laid hl hr' (nm := "caisson/digests.initial") (d := Rows.laid_caisson_digests_initial) (by simp [LAID]) (g := 0) (by kernel_rfl) (T := 104) (by kernel_rfl) Tryz.underlying104 Tryz.underlying38 (by kernel_rfl) (by kernel_rfl) (by decide) (ns := (H8.list).map fun x => (x.toNat : Int)) (by kernel_rfl)
    rw [List.map_map] at this
    exact this
  · have := tab_of_laid hl hr' (nm := "caisson/digests.constants") (d := Rows.laid_caisson_digests_constants) (by simp [LAID]) (g := 1) (by kernel_rfl) (T := 190) (by kernel_rfl) Tryz.underlying190 Tryz.underlying38 (by kernel_rfl) (by kernel_rfl) (by decide) (ns := (K64).map fun x => (x.toNat : Int)) (by kernel_rfl)
    rw [List.map_map] at this
    exact this
end Go.Proofs.YtffiflfjlemggaaGreatDoor
namespace Go.Proofs.YtffiflfjlemggaaGreatDoor
open Go Go.RowKit

/-- Place i of the part block: the last byte that came to that place, or zero. -/
def restAt (l : List UInt8) (i : Nat) : UInt8 := if (l.length + 63 - i) / 64 = 0 then 0 else l.getD (64 * ((l.length + 63 - i) / 64 - 1) + i) 0
def restL (l : List UInt8) : List UInt8 := (List.range 64).map (restAt l)
def fullR (l : List UInt8) : R8 := if l.length < 64 then ⟨0, 0, 0, 0, 0, 0, 0, 0⟩ else chain H8 l (l.length / 64)
def stM (f : R8) (r : List UInt8) (n : Nat) : List Value := f.list.map u32V ++ (r.map byteV ++ [.int .u64 (n : Int)])
def stL (l : List UInt8) : List Value := stM (fullR l) (restL l) l.length
def stV (l : List UInt8) : Value := aggV (stL l)
theorem restL_length (l : List UInt8) : (restL l).length = 64 := by simp [restL]
theorem restL_get (l : List UInt8) {i : Nat} (h : i < 64) : (restL l)[i]? = some (restAt l i) := by simp [restL, h]
theorem stM_length {f : R8} {r : List UInt8} {n : Nat} (hr : r.length = 64) : (stM f r n).length = 73 := by simp [stM, hr, R8.list]
theorem stM_full (f : R8) (r : List UInt8) (n : Nat) : ((stM f r n).drop 0).take 8 = f.list.map u32V := by
  rw [List.drop_zero, stM, List.take_left' (by simp [R8.list])]
theorem stM_rest {f : R8} {r : List UInt8} {n : Nat} (hr : r.length = 64) : ((stM f r n).drop 8).take 64 = r.map byteV := by
  rw [stM, List.drop_left' (by simp [R8.list]), List.take_left' (by simp [hr])]
theorem stM_size {f : R8} {r : List UInt8} {n : Nat} (hr : r.length = 64) : (stM f r n)[72]? = some (.int .u64 (n : Int)) := by
  rw [stM, List.getElem?_append_right (by simp [R8.list]), List.getElem?_append_right (by simp [R8.list, hr])]
  simp [R8.list, hr]
theorem stM_setSize {f : R8} {r : List UInt8} {n m : Nat} (hr : r.length = 64) : (stM f r n).set 72 (.int .u64 (m : Int)) = stM f r m := by
  rw [stM, List.set_append_right _ _ (by simp [R8.list]), List.set_append_right _ _ (by simp [R8.list, hr])]
  simp [R8.list, hr, stM]
theorem stM_setFull {f f' : R8} {r : List UInt8} {n : Nat} : (stM f r n).take 0 ++ f'.list.map u32V ++ (stM f r n).drop (0 + (f'.list.map u32V).length) = stM f' r n := by
  rw [R8.size, List.take_zero, List.nil_append, Nat.zero_add, stM, List.drop_left' (by simp [R8.list]), stM]
theorem stM_ones {f : R8} {r : List UInt8} {n : Nat} : (stM f r n).all (·.oneCell') = true := by
  simp [stM, List.all_append, u32V, byteV, Value.oneCell']
theorem stL_length (l : List UInt8) : (stL l).length = 73 := stM_length (restL_length l)
theorem stL_full (l : List UInt8) : ((stL l).drop 0).take 8 = (fullR l).list.map u32V := stM_full _ _ _
theorem stL_rest (l : List UInt8) : ((stL l).drop 8).take 64 = (restL l).map byteV := stM_rest (restL_length l)
theorem stL_size (l : List UInt8) : (stL l)[72]? = some (.int .u64 (l.length : Int)) := stM_size (restL_length l)
theorem stL_nil : stL [] = List.replicate 8 (.int .u32 0) ++ List.replicate 64 (.int .u8 0) ++ [.int .u64 0] := by kernel_rfl
theorem stL_ones (l : List UInt8) : (stL l).all (·.oneCell') = true := stM_ones

theorem chain_append (s : R8) (l b : List UInt8) : ∀ k, 64 * k ≤ l.length → chain s (l ++ b) k = chain s l k
  | 0, _ => rfl
  | k + 1, h => by
    have h1 := chain_append s l b k (by omega)
    rw [chain, chain, h1, List.drop_append_of_le_length (by omega), List.take_append_of_le_length (by simp; omega)]
/-- What is known of the full blocks, whether there is one or not. -/
theorem chain_start (l : List UInt8) (h : l.length < 64) : chain H8 l (l.length / 64) = H8 := by rw [Nat.div_eq_of_lt h]; rfl
theorem restAt_grow (l b : List UInt8) (i : Nat) (hi : i < 64) (hb : l.length % 64 + b.length ≤ 64) :
    restAt (l ++ b) i = if i < l.length % 64 then restAt l i else if i < l.length % 64 + b.length then b.getD (i - l.length % 64) 0 else restAt l i := by
  have hlen : (l ++ b).length = l.length + b.length := by simp
  by_cases h1 : i < l.length % 64
  · rw [if_pos h1]
    have h2 : (l.length + b.length + 63 - i) / 64 = (l.length + 63 - i) / 64 := by omega
    have h3 : ¬ (l.length + 63 - i) / 64 = 0 := by omega
    have h4 : 64 * ((l.length + 63 - i) / 64 - 1) + i < l.length := by omega
    rw [restAt, restAt, hlen, h2, if_neg h3, if_neg h3, List.getD_eq_getElem?_getD, List.getD_eq_getElem?_getD, List.getElem?_append_left h4]
  · rw [if_neg h1]
    by_cases h2 : i < l.length % 64 + b.length
    · rw [if_pos h2]
      have h3 : (l.length + b.length + 63 - i) / 64 = l.length / 64 + 1 := by omega
      have h4 : 64 * (l.length / 64 + 1 - 1) + i = l.length + (i - l.length % 64) := by omega
      rw [restAt, hlen, h3, if_neg (by omega), h4, List.getD_eq_getElem?_getD, List.getElem?_append_right (by omega), List.getD_eq_getElem?_getD]
      congr 2
      omega
    · rw [if_neg h2]
      have h3 : (l.length + b.length + 63 - i) / 64 = (l.length + 63 - i) / 64 := by omega
      by_cases h5 : (l.length + 63 - i) / 64 = 0
      · rw [restAt, restAt, hlen, h3, if_pos h5, if_pos h5]
      · have h4 : 64 * ((l.length + 63 - i) / 64 - 1) + i < l.length := by omega
        rw [restAt, restAt, hlen, h3, if_neg h5, if_neg h5, List.getD_eq_getElem?_getD, List.getD_eq_getElem?_getD, List.getElem?_append_left h4]
theorem restL_step (l b : List UInt8) (hb : l.length % 64 + b.length ≤ 64) : (restL l).take (l.length % 64) ++ b ++ (restL l).drop (l.length % 64 + b.length) = restL (l ++ b) := by
  have hk : l.length % 64 < 64 := Nat.mod_lt _ (by decide)
  apply List.ext_getElem?
  intro i
  rcases Nat.lt_or_ge i 64 with hi | hi
  · rw [restL_get _ hi, restAt_grow l b i hi hb]
    by_cases h1 : i < l.length % 64
    · rw [if_pos h1, List.append_assoc, List.getElem?_append_left (by simp [restL_length]; omega), List.getElem?_take, if_pos h1, restL_get _ hi]
    · rw [if_neg h1]
      by_cases h2 : i < l.length % 64 + b.length
      · rw [if_pos h2, List.append_assoc, List.getElem?_append_right (by simp [restL_length]; omega)]
        have h3 : i - ((restL l).take (l.length % 64)).length = i - l.length % 64 := by simp [restL_length]; omega
        rw [h3, List.getElem?_append_left (by omega), List.getD_eq_getElem?_getD, List.getElem?_eq_getElem (by omega)]
        rfl
      · rw [if_neg h2, List.getElem?_append_right (by simp [restL_length]; omega), List.getElem?_drop]
        have h3 : l.length % 64 + b.length + (i - ((restL l).take (l.length % 64) ++ b).length) = i := by simp [restL_length]; omega
        rw [h3, restL_get _ hi]
  · rw [List.getElem?_eq_none (by simp [restL_length]; omega), List.getElem?_eq_none (by rw [restL_length]; exact hi)]
/-- The bytes that fill no block yet. -/
theorem restL_take (l : List UInt8) : (restL l).take (l.length % 64) = l.drop (64 * (l.length / 64)) := by
  have hk : l.length % 64 < 64 := Nat.mod_lt _ (by decide)
  apply List.ext_getElem?
  intro i
  rw [List.getElem?_take, List.getElem?_drop]
  split
  · rename_i hi
    rw [restL_get _ (by omega), restAt]
    have h3 : (l.length + 63 - i) / 64 = l.length / 64 + 1 := by omega
    rw [h3, if_neg (by omega), Nat.add_sub_cancel, List.getD_eq_getElem?_getD, List.getElem?_eq_getElem (by omega)]
    rfl
  · rw [List.getElem?_eq_none (by omega)]
/-- A block that is full. -/
theorem restL_block (l : List UInt8) (h : l.length % 64 = 0) (h0 : 0 < l.length) : restL l = (l.drop (64 * (l.length / 64 - 1))).take 64 := by
  apply List.ext_getElem?
  intro i
  rw [List.getElem?_take, List.getElem?_drop]
  split
  · rename_i hi
    rw [restL_get _ hi, restAt]
    have h3 : (l.length + 63 - i) / 64 = l.length / 64 := by omega
    rw [h3, if_neg (by omega), List.getD_eq_getElem?_getD, List.getElem?_eq_getElem (by omega)]
    rfl
  · rw [List.getElem?_eq_none (by rw [restL_length]; omega)]
theorem fullR_same (l b : List UInt8) (h : (l.length + b.length) / 64 = l.length / 64) : fullR (l ++ b) = fullR l := by
  unfold fullR
  rw [List.length_append, h, chain_append _ _ _ _ (by omega)]
  by_cases h1 : l.length < 64
  · rw [if_pos h1, if_pos (by omega)]
  · rw [if_neg h1, if_neg (by omega)]
theorem fullR_step (l b : List UInt8) (h : l.length % 64 + b.length = 64) : fullR (l ++ b) = compress (chain H8 l (l.length / 64)) (restL (l ++ b)) := by
  have hk : l.length % 64 < 64 := Nat.mod_lt _ (by decide)
  have h1 : (l ++ b).length / 64 = l.length / 64 + 1 := by simp; omega
  rw [fullR, if_neg (by simp; omega), h1, chain, chain_append _ _ _ _ (by omega), restL_block _ (by simp; omega) (by simp; omega), h1, Nat.add_sub_cancel]
/-- Bytes are copied to where the part block goes on. -/
theorem st_copy (L r : List UInt8) : (stL L).take (8 + L.length % 64) ++ (r.take (64 - L.length % 64)).map byteV ++ (stL L).drop (8 + L.length % 64 + min r.length (64 - L.length % 64)) = stM (fullR L) (restL (L ++ r.take (64 - L.length % 64))) L.length := by
  have hk : L.length % 64 < 64 := Nat.mod_lt _ (by decide)
  have hb : (r.take (64 - L.length % 64)).length = min r.length (64 - L.length % 64) := by rw [List.length_take, Nat.min_comm]
  have h8 : ((fullR L).list.map u32V).length = 8 := R8.size _
  rw [← restL_step L (r.take (64 - L.length % 64)) (by rw [hb]; omega), hb]
  have h1 : (stL L).take (8 + L.length % 64) = (fullR L).list.map u32V ++ ((restL L).take (L.length % 64)).map byteV := by
    rw [stL, stM, List.take_append, h8, Nat.add_sub_cancel_left, List.take_of_length_le (by rw [h8]; omega), List.take_append_of_le_length (by simp [restL_length]; omega), List.map_take]
  have h2 : (stL L).drop (8 + L.length % 64 + min r.length (64 - L.length % 64)) = ((restL L).drop (L.length % 64 + min r.length (64 - L.length % 64))).map byteV ++ [.int .u64 (L.length : Int)] := by
    rw [stL, stM, List.drop_append, h8, List.drop_eq_nil_of_le (by rw [h8]; omega), List.nil_append, show 8 + L.length % 64 + min r.length (64 - L.length % 64) - 8 = L.length % 64 + min r.length (64 - L.length % 64) from by omega,
      List.drop_append_of_le_length (by simp [restL_length]; omega), List.map_drop]
  rw [h1, h2, stM]
  simp
/-- What is left of a string behind its full blocks, with its ending. -/
theorem padded_tail (l e : List UInt8) : l ++ e = l.take (64 * (l.length / 64)) ++ (l.drop (64 * (l.length / 64)) ++ e) := by
  rw [← List.append_assoc, List.take_append_drop]
/-- The blocks behind the first k. -/
theorem chain_tail (s : R8) (a t : List UInt8) (k : Nat) (ha : a.length = 64 * k) : ∀ i, chain (chain s a k) t i = chain s (a ++ t) (k + i)
  | 0 => by rw [Nat.add_zero, chain_append _ _ _ _ (by omega)]; rfl
  | i + 1 => by
    have h1 : (a ++ t).drop (64 * (k + i)) = t.drop (64 * i) := by
      rw [List.drop_append, show a.drop (64 * (k + i)) = [] from List.drop_eq_nil_of_le (by omega), List.nil_append, show 64 * (k + i) - a.length = 64 * i from by omega]
    rw [chain, chain_tail s a t k ha i, ← Nat.add_assoc, chain, h1]
theorem tableB_more {bs c : List UInt8} {m : Nat} (h : bs.length + c.length ≤ m) : (tableB bs m).take bs.length ++ c.map byteV ++ (tableB bs m).drop (bs.length + c.length) = tableB (bs ++ c) m := by
  have h1 : m - bs.length = c.length + (m - (bs ++ c).length) := by rw [List.length_append]; omega
  rw [tableB, List.map_append, List.take_left' (by simp), List.drop_append, List.drop_eq_nil_of_le (by simp), List.nil_append, List.length_map, Nat.add_sub_cancel_left, h1, List.map_replicate, List.drop_replicate, Nat.add_sub_cancel_left, tableB, List.map_append, List.map_append, List.map_replicate]
theorem flatBe_take : ∀ (xs : List UInt32) (i : Nat), i < xs.length → (xs.flatMap fun x => be 4 x.toNat).take (4 * (i + 1)) = (xs.flatMap fun x => be 4 x.toNat).take (4 * i) ++ be 4 (xs.getD i 0).toNat
  | [], i, h => by simp at h
  | x :: xs, 0, _ => by
    rw [List.flatMap_cons, List.take_left' (by rw [be_length]), Nat.mul_zero, List.take_zero]; rfl
  | x :: xs, i + 1, h => by
    have hb : (be 4 x.toNat).length = 4 := be_length _ _
    have h1 : ∀ k, 4 ≤ k → (be 4 x.toNat ++ xs.flatMap fun x => be 4 x.toNat).take k = be 4 x.toNat ++ (xs.flatMap fun x => be 4 x.toNat).take (k - 4) := fun k hk => by
      rw [List.take_append, hb, show (be 4 x.toNat).take k = be 4 x.toNat from List.take_of_length_le (by omega)]
    rw [List.flatMap_cons, h1 _ (by omega), h1 _ (by omega), show 4 * (i + 1 + 1) - 4 = 4 * (i + 1) from by omega, show 4 * (i + 1) - 4 = 4 * i from by omega,
      flatBe_take xs i (by simpa using h), List.append_assoc]
    rfl
theorem sha_copy (l : List UInt8) {i : Nat} (h : i < 8) : (tableB ((sha l).take (4 * i)) 32).take (0 + 4 * i) ++ ((be 4 ((shaR l).list.getD i 0).toNat).take (32 - 4 * i)).map byteV ++ (tableB ((sha l).take (4 * i)) 32).drop (0 + 4 * i + min (be 4 ((shaR l).list.getD i 0).toNat).length (32 - 4 * i)) = tableB ((sha l).take (4 * (i + 1))) 32 := by
  have hb : (be 4 ((shaR l).list.getD i 0).toNat).length = 4 := be_length _ _
  have hl : ((sha l).take (4 * i)).length = 4 * i := by rw [List.length_take, sha_length]; omega
  have h1 : (sha l).take (4 * (i + 1)) = (sha l).take (4 * i) ++ be 4 ((shaR l).list.getD i 0).toNat := flatBe_take (shaR l).list i h
  have := tableB_more (bs := (sha l).take (4 * i)) (c := be 4 ((shaR l).list.getD i 0).toNat) (m := 32) (by rw [hl, hb]; omega)
  rw [h1, ← this, hl, hb, Nat.zero_add, show (be 4 ((shaR l).list.getD i 0).toNat).take (32 - 4 * i) = be 4 ((shaR l).list.getD i 0).toNat from List.take_of_length_le (by omega), Nat.min_eq_left (by omega)]
/-- What follows a string of n bytes, up to the end of a block. -/
def endL (n : Nat) : List UInt8 := 128 :: (List.replicate ((119 - n % 64) % 64) 0 ++ be 8 (8 * n))
theorem endL_length (n : Nat) : (endL n).length = 1 + (119 - n % 64) % 64 + 8 := by simp [endL, be_length]; omega
def tailL (l : List UInt8) : List UInt8 := l.drop (64 * (l.length / 64)) ++ endL l.length
theorem tailL_length (l : List UInt8) : (tailL l).length = l.length % 64 + (1 + (119 - l.length % 64) % 64 + 8) := by
  rw [tailL, List.length_append, List.length_drop, endL_length]; omega
theorem tailL_mod (l : List UInt8) : (tailL l).length = 64 * ((tailL l).length / 64) := by
  rw [tailL_length]; omega
theorem tailL_sha (l : List UInt8) : chain (chain H8 l (l.length / 64)) (tailL l) ((tailL l).length / 64) = shaR l := by
  have ha : (l.take (64 * (l.length / 64))).length = 64 * (l.length / 64) := by rw [List.length_take]; omega
  have h1 : chain H8 l (l.length / 64) = chain H8 (l.take (64 * (l.length / 64))) (l.length / 64) := by
    have := chain_append H8 (l.take (64 * (l.length / 64))) (l.drop (64 * (l.length / 64))) (l.length / 64) (by omega)
    rwa [List.take_append_drop] at this
  have h2 : padded l = l.take (64 * (l.length / 64)) ++ tailL l := padded_tail l (endL l.length)
  have h3 : (padded l).length / 64 = l.length / 64 + (tailL l).length / 64 := by
    rw [h2, List.length_append, ha]; omega
  rw [h1, chain_tail _ _ _ _ ha, ← h2, ← h3]; rfl
theorem tailL_block (l : List UInt8) {ys : List Value} {i : Nat} (h : i < (tailL l).length / 64) : (((tailL l).map byteV ++ ys).drop (64 * i)).take 64 = (((tailL l).drop (64 * i)).take 64).map byteV := by
  rw [List.drop_append_of_le_length (by simp; omega), List.take_append_of_le_length (by simp; omega), List.map_take, List.map_drop]
end Go.Proofs.YtffiflfjlemggaaGreatDoor
namespace Go.Proofs.YtffiflfjlemggaaGreatDoor
open Go Go.RowKit
set_option linter.unusedVariables false
set_option maxRecDepth 20000

def xorV (a b : List UInt8) : List UInt8 := if a.length = b.length then xors a b else []

theorem Join_fnB (ps : List (List UInt8)) (hps : ps.length ≤ 1000000) (htot : ps.flatten.length ≤ 1000000) : FnB Tryz.prog 19 [lst (ps.map byt)] (fun B => fresh B 5 (ps.flatten.map byteV) ps.flatten.length) := by
 refine FnB.of Tryz.func19 rfl (by kernel_rfl) Tryz.ntmps19 (by simp) (fun w => [(0, old w.heap.size (lst (ps.map byt)))]) (fun w => (Start.old rfl Start.nil)) fun w₀ => ?_
 refine GV rfl ?_
 refine GV rfl ?_
 refine QS ?_
 refine GT ?_
 refine RM rfl ?_
 refine RS (ok_len Tryz.underlying103 rfl LA) ?_; refine RZ (.int .i64 (ps.length : Int)) (by simp) ?_
 refine RVN 1 rfl ?_
 refine A.block ?_
 refine A.loop (ι := Nat) (fun i => i ≤ ps.length) (fun i => [(0, old w₀.heap.size (lst (ps.map byt))), (3, .v (nI ((ps.take i).flatten.length))), (10, old w₀.heap.size (lst (ps.map byt))), (11, .v (.int .i64 (ps.length : Int))), (12, .v (.int .i64 (i : Int)))]) (fun i => ps.length - i) 0 ?_ ?_ ?_
 ·exact Nat.zero_le _
 ·exact (SV [0, 3, 10, 11, 12] rfl)
 intro i hi
 refine GV rfl ?_
 refine QS ?_
 refine A.cond rfl (fun hc13 => ?_) (fun hc13 => ?_)
 ·have hlt : i < ps.length := by simpa using hc13
  have hget : ps[i]? = some ps[i] := List.getElem?_eq_getElem hlt
  have hT := flatten_take_le ps (i + 1)
  rw [flatten_take_succ hget, List.length_append] at hT
  refine QK ?_
  refine QSB ?_
  refine GT ?_
  refine RS (ok_index (d := byt ps[i]) Tryz.underlying103 info22 rfl LA rfl (by omega) (by simp [hlt])) ?_
  refine RS (ok_load Tryz.underlying22 rfl rfl) ?_
  refine RVN 1 rfl ?_
  refine GTE ?_
  refine RV 2 rfl ?_
  refine RS (ok_lenB Tryz.underlying22 rfl LA) ?_
  refine RB rfl rfl rfl ?_
  refine RZ (nI ((ps.take (i + 1)).flatten.length)) (by rw [wrap_i64 (by omega) (by omega), flatten_take_succ hget, List.length_append]; congr 1) ?_
  refine RVN 1 rfl ?_
  refine End.normal_block ?_
  refine EN ?_
  refine GTE ?_
  refine RB rfl rfl rfl ?_
  refine RZ (nI (i + 1)) (by rw [wrap_i64 (by omega) (by omega)]; congr 1) ?_
  refine RVN 1 rfl ?_
  refine End.normal_then ?_
  refine End.again (i + 1) ?_ ?_ ?_
  ·show _ ≤ _; omega
  ·show _ - _ < _ - _; omega
  ·exact (SV [0, 3, 10, 11, 12] rfl)
 ·have hi2 : i = ps.length := by simp at hc13; omega
  refine A.exit ?_
  refine End.exit_then ?_
  refine End.exit_then ?_
  refine End.exit_here ?_
  refine EN ?_
  refine GT ?_
  refine RM rfl ?_
  refine RS (ok_make ps.flatten.length Tryz.underlying22 info5 (by decide) rfl rfl rfl (by rw [hi2, List.take_length]) (by rw [hi2, List.take_length]) (by omega)) ?_
  refine RVN 1 rfl ?_
  refine A.open (t := 6) (k := 1000000) rfl fun b hb => ?_
  refine GV rfl ?_
  refine QS ?_
  refine GT ?_
  refine RM rfl ?_
  refine RS (ok_len Tryz.underlying103 rfl LA) ?_; refine RZ (.int .i64 (ps.length : Int)) (by simp) ?_
  refine RVN 1 rfl ?_
  refine A.block ?_
  refine A.loop (ι := Nat) (fun i => i ≤ ps.length) (fun i => [(6, .v (.slice (some ⟨b, 0, none⟩) ps.flatten.length ps.flatten.length)), (7, .v (nI ((ps.take i).flatten.length))), (23, old w₀.heap.size (lst (ps.map byt))), (24, .v (.int .i64 (ps.length : Int))), (25, .v (.int .i64 (i : Int))), (1000000, blk b 5 ((ps.take i).flatten.map byteV ++ List.replicate (ps.flatten.length - (ps.take i).flatten.length) (.int .u8 0)))]) (fun i => ps.length - i) 0 ?_ ?_ ?_
  ·exact Nat.zero_le _
  ·exact (KE 6 rfl (by simp) (KC 7 rfl (KC 23 rfl (KC 24 rfl (KC 25 rfl (KE 1000000 rfl (by simp) KN))))))
  intro i hi
  refine GV rfl ?_
  refine QS ?_
  refine A.cond rfl (fun hc26 => ?_) (fun hc26 => ?_)
  ·have hlt : i < ps.length := by simpa using hc26
   have hget : ps[i]? = some ps[i] := List.getElem?_eq_getElem hlt
   have hT := flatten_take_le ps (i + 1)
   rw [flatten_take_succ hget, List.length_append] at hT
   refine QK ?_
   refine QSB ?_
   refine GT ?_
   refine RS (ok_index (d := byt ps[i]) Tryz.underlying103 info22 rfl LA rfl (by omega) (by simp [hlt])) ?_
   refine RS (ok_load Tryz.underlying22 rfl rfl) ?_
   refine RVN 1 rfl ?_
   refine GE ?_
   refine TF 5 ?_
   refine RV 3 rfl ?_
   refine RS (ok_sliceV (ps.take i).flatten.length Tryz.underlying22 info5 rfl rfl (by omega) (Nat.le_refl _)) ?_
   refine RVN 1 rfl ?_
   refine ⟨_, eff_copy (s := 1000000) (l := ps[i]) Tryz.underlying22 info5 rfl rfl (Le.refl _) (by omega) hb rfl (by simp only [List.length_append, List.length_map, List.length_replicate]; split <;> omega) (by decide) (Left.cons (t := 6) rfl (Stays.v _ _) (Left.cons (t := 23) rfl (Stays.old _ _) (Left.cons (t := 24) rfl (Stays.v _ _) (Left.cons (t := 25) rfl (Stays.v _ _) (Left.cons (t := 29) rfl (Stays.v _ _) Left.nil))))), ?_⟩
   refine TL ?_
   refine RB rfl rfl rfl ?_
   refine RZ (nI ((ps.take (i + 1)).flatten.length)) (by rw [wrap_i64 (by omega) (by omega), flatten_take_succ hget, List.length_append]; congr 1) ?_
   refine RVN 1 rfl ?_
   refine End.normal_block ?_
   refine EN ?_
   refine GTE ?_
   refine RB rfl rfl rfl ?_
   refine RZ (nI (i + 1)) (by rw [wrap_i64 (by omega) (by omega)]; congr 1) ?_
   refine RVN 1 rfl ?_
   refine End.normal_then ?_
   refine End.again (i + 1) ?_ ?_ ?_
   ·show _ ≤ _; omega
   ·show _ - _ < _ - _; omega
   ·exact (KC 6 rfl (KC 7 rfl (KC 23 rfl (KC 24 rfl (KC 25 rfl (KE 1000000 rfl (congrArg _ (copy_step hget (by omega) rfl)) KN))))))
  ·have hi2 : i = ps.length := by simp at hc26; omega
   refine A.exit ?_
   refine End.exit_then ?_
   refine End.exit_then ?_
   refine End.exit_here ?_
   refine EN ?_
   refine GV rfl ?_
   refine A.ret ?_
   subst hi2
   exact End.fresh rfl hb rfl (by rw [List.length_map]) (k := 1000000) rfl (by rw [List.take_length, Nat.sub_self, List.replicate_zero, List.append_nil])
theorem Join_fn (ps : List (List UInt8)) (hps : ps.length ≤ 1000000) (htot : ps.flatten.length ≤ 1000000) : Fn Tryz.prog 19 [lst (ps.map byt)] (bytes ps.flatten ps.flatten.length) :=
 (Join_fnB ps hps htot).fn fun _ => fresh_bytes rfl (by simp only [maxLen]; omega)
theorem Xor_fn (a b : List UInt8) (ha : a.length ≤ 1000000) : Fn Tryz.prog 10 [byt a, byt b] (tup [bytes (xorV a b) (xorV a b).length, .v (.int .i64 (chk b.length a.length))]) := by
 have hchk : chk b.length a.length = 0 ↔ a.length = b.length := by unfold chk; split <;> (try split) <;> omega
 refine Fn.of Tryz.func10 rfl (by kernel_rfl) Tryz.ntmps10 (by simp) (fun w => [(0, old w.heap.size (byt a)), (1, old w.heap.size (byt b))]) (fun w => (Start.old rfl (Start.old rfl Start.nil))) fun w₀ => ?_
 refine GV rfl ?_
 refine QS ?_
 refine GT ?_
 refine RV 2 rfl ?_
 refine RS (ok_lenB Tryz.underlying22 rfl LA) ?_
 refine RS (ok_call (checkLength_fn b _) (Args.cons rfl LA (A1 rfl))) ?_
 refine RVN 1 rfl ?_
 refine GV rfl ?_
 refine A.cond rfl (fun hc14 => ?_) (fun hc14 => ?_)
 ·have hne : ¬ a.length = b.length := fun h => by simp [hchk.2 h] at hc14
  refine GV rfl ?_
  refine A.ret ?_
  refine End.ret_then ?_
  first | (refine End.ret2 rfl rfl ?_ rfl (Le.refl _); rw [xorV, if_neg hne]; exact bytes_nil_le) | (subst hi2; refine End.bytes 4 1000000 (xors a b) rfl (xors_length heq).symm rfl ?_ (by simp [xors_length heq]) (by simp only [maxLen]; omega) ?_; (simp only [Nat.sub_self, List.replicate_zero, List.append_nil, xors_length heq]; rw [← List.map_take, List.take_take, Nat.min_self, List.take_of_length_le (by rw [xors_length heq]; omega)]); exact End.ret2 rfl rfl (Le.eq (by rw [xorV, if_pos heq, xors_length heq])) rfl (Le.v (by rw [hchk.2 heq])))
 ·have heq : a.length = b.length := hchk.1 (by simpa using hc14)
  refine QK ?_
  refine GT ?_
  refine RM rfl ?_
  refine RS (ok_lenB Tryz.underlying22 rfl LA) ?_
  refine RS (ok_make a.length Tryz.underlying22 info5 (by decide) rfl rfl rfl rfl rfl (by omega)) ?_
  refine RVN 1 rfl ?_
  refine A.open (t := 7) (k := 1000000) rfl fun b0 hb0 => ?_
  have hb := hb0
  refine QS ?_
  refine GT ?_
  refine RM rfl ?_
  refine RS (ok_lenV Tryz.underlying22 rfl) ?_
  refine RVN 1 rfl ?_
  refine A.block ?_
  refine A.loop (ι := Nat) (fun i => i ≤ a.length) (fun i => [(0, old w₀.heap.size (byt a)), (1, old w₀.heap.size (byt b)), (7, .v (.slice (some ⟨b0, 0, none⟩) a.length a.length)), (20, .v (.int .i64 (a.length : Int))), (21, .v (.int .i64 (i : Int))), (1000000, blk b0 5 (((xors a b).take i).map byteV ++ List.replicate ((xors a b).length - i) (.int .u8 0)))]) (fun i => a.length - i) 0 ?_ ?_ ?_
  ·exact Nat.zero_le _
  ·exact (KC 0 rfl (KC 1 rfl (KE 7 rfl (by simp) (KC 20 rfl (KC 21 rfl (KE 1000000 rfl (by simp [xors_length heq]) KN))))))
  intro i hi
  refine GV rfl ?_
  refine QS ?_
  refine A.cond rfl (fun hc22 => ?_) (fun hc22 => ?_)
  ·have hlt : i < a.length := by simpa using hc22
   have hlb : i < b.length := by omega
   refine QK ?_
   refine QSB ?_
   refine GV rfl ?_
   refine A.reg (by kernel_rfl) (by kernel_rfl) (.inr (by kernel_rfl)) ?_
   refine TD 12 ?_
   refine RV 4 rfl ?_
   refine RS (ok_index (d := byteD a[i]) Tryz.underlying22 info5 rfl LA rfl (by omega) (by simp [hlt])) ?_
   refine RS (ok_load Tryz.underlying5 rfl rfl) ?_
   refine RV 2 rfl ?_
   refine RS (ok_index (d := byteD b[i]) Tryz.underlying22 info5 rfl LA rfl (by omega) (by simp [hlb])) ?_
   refine RS (ok_load Tryz.underlying5 rfl rfl) ?_
   refine RB rfl rfl rfl ?_
   refine RZ (byteV (a[i] ^^^ b[i])) (by rw [show IntKind.u8.bits = 8 from rfl, xor_u8_nat]; rfl) ?_
   refine RS (ok_indexV i Tryz.underlying22 info5 rfl rfl rfl hlt) ?_
   refine RN ?_
   refine ⟨_, eff_store (n := 38) (s := 1000000) info5 rfl rfl rfl hb rfl (by simp [xors_length heq]; omega) (Left.cons (t := 0) rfl (Stays.old _ _) (Left.cons (t := 1) rfl (Stays.old _ _) (Left.cons (t := 7) rfl (Stays.v _ _) (Left.cons (t := 20) rfl (Stays.v _ _) (Left.cons (t := 21) rfl (Stays.v _ _) Left.nil))))), ?_⟩
   refine TL ?_
   refine RN ?_
   refine End.normal_block ?_
   refine EN ?_
   refine GTE ?_
   refine RB rfl rfl rfl ?_
   refine RZ (nI (i + 1)) (by rw [wrap_i64 (by omega) (by omega)]; congr 1) ?_
   refine RVN 1 rfl ?_
   refine End.normal_then ?_
   refine End.again (i + 1) ?_ ?_ ?_
   ·show _ ≤ _; omega
   ·show _ - _ < _ - _; omega
   ·exact (KC 0 rfl (KC 1 rfl (KC 7 rfl (KC 20 rfl (KC 21 rfl (KE 1000000 rfl (by rw [Nat.zero_add]; exact congrArg _ (fill_step (xors_get hlt hlb))) KN))))))
  ·have hi2 : i = a.length := by simp at hc22; omega
   refine A.exit ?_
   refine End.exit_then ?_
   refine End.exit_then ?_
   refine End.exit_here ?_
   refine EN ?_
   refine GV rfl ?_
   refine A.ret ?_
   first | (refine End.ret2 rfl rfl ?_ rfl (Le.refl _); rw [xorV, if_neg hne]; exact bytes_nil_le) | (subst hi2; refine End.bytes 4 1000000 (xors a b) rfl (xors_length heq).symm rfl ?_ (by simp [xors_length heq]) (by simp only [maxLen]; omega) ?_; (simp only [Nat.sub_self, List.replicate_zero, List.append_nil, xors_length heq]; rw [← List.map_take, List.take_take, Nat.min_self, List.take_of_length_le (by rw [xors_length heq]; omega)]); exact End.ret2 rfl rfl (Le.eq (by rw [xorV, if_pos heq, xors_length heq])) rfl (Le.v (by rw [hchk.2 heq])))
end Go.Proofs.YtffiflfjlemggaaGreatDoor
namespace Go.Proofs.YtffiflfjlemggaaGreatDoor
open Go Go.RowKit
set_option linter.unusedVariables false
set_option maxRecDepth 20000

theorem zero106 : ZeroIs Tryz.prog 106 (List.replicate 8 (.int .u32 0) ++ List.replicate 64 (.int .u8 0) ++ [.int .u64 0]) := by unfold ZeroIs; kernel_rfl
theorem size106 : SizeIs Tryz.prog 106 73 := by unfold SizeIs; kernel_rfl
theorem field106_0 : FieldIs Tryz.prog 106 0 0 8 := by unfold FieldIs; kernel_rfl
theorem field106_1 : FieldIs Tryz.prog 106 1 8 64 := by unfold FieldIs; kernel_rfl
theorem field106_2 : FieldIs Tryz.prog 106 2 72 1 := by unfold FieldIs; kernel_rfl
/-- The first i words are sums already. -/
def half (s t : R8) (i : Nat) : List Value := ((s.add t).list.take i ++ s.list.drop i).map u32V
theorem half_length {s t : R8} {i : Nat} (h : i ≤ 8) : (half s t i).length = 8 := by
 have h1 : s.list.length = 8 := rfl
 have h2 : (s.add t).list.length = 8 := rfl
 simp [half, h1, h2]; omega
theorem half_get {s t : R8} {i : Nat} (h : i < 8) : (half s t i)[i]? = some (u32V (s.list.getD i 0)) := by
 rcases i with _ | _ | _ | _ | _ | _ | _ | _ | i
 all_goals first | rfl | omega
theorem half_set {s t : R8} {i : Nat} (h : i < 8) : (half s t i).set i (u32V (s.list.getD i 0 + t.list.getD i 0)) = half s t (i + 1) := by
 rcases i with _ | _ | _ | _ | _ | _ | _ | _ | i
 all_goals first | rfl | omega

set_option maxHeartbeats 400000 in
theorem Compress_fn (h : R8) (l : List UInt8) (hl : l.length = 64) : FnM Tryz.prog 101 tabs [.v (aggV (h.list.map u32V)), .v (aggV (l.map byteV))] (.v (aggV ((compress h l).list.map u32V))) := by
 refine FnM.of Tryz.func101 rfl (by kernel_rfl) Tryz.ntmps101 (by simp) (by decide) (fun w => [(0, .v (aggV (h.list.map u32V))), (1, .v (aggV (l.map byteV))), (1900000, tab 0 (H8.list.map u32V)), (1900001, tab 1 (K64.map u32V))]) (fun w => (StartM.v rfl (StartM.v rfl (StartM.m (by simp [tabs]) (by decide) (StartM.m (by simp [tabs]) (by decide) StartM.nil))))) fun w₀ hM => ?_
 have htab := tabs_hi hM
 refine GS ?_
 refine TN 0 ?_
 refine RN ?_
 refine ZB 1000002 rfl fun b2 ⟨hBb2, hb2⟩ => ?_
 refine TN 1 ?_
 refine RN ?_
 refine ZB 1000003 rfl fun b3 ⟨hBb3, hb3⟩ => ?_
 refine TN 2 ?_
 refine RN ?_
 refine ZN 1000004 zero104 fun b4 ⟨hBb4, hb4⟩ => ?_
 have hlt_b2_b4 := hb4 1000002 b2 _ _ rfl
 refine TL ?_
 refine RN ?_
 refine QS ?_
 refine GTD ?_
 refine RS (ok_loadA (s := 1000002) (by decide) Tryz.underlying104 rfl (size104.of (R8.size _)) rfl rfl) ?_
 refine RS (ok_loadA (s := 1000003) (by decide) Tryz.underlying24 rfl (size24.of (by rw [List.length_map, hl])) rfl rfl) ?_
 refine RS (ok_call (schedule_fn l hl) (A1 rfl)) ?_
 refine RS (ok_callM (rounds_fn h (sched l 64) (sched_length l 64)) (Sub.cons rfl (Sub.cons rfl KN)) tabs_v (Args.cons rfl LA (Args.cons rfl LA Args.nil))) ?_
 refine RVN 1 rfl ?_
 refine A.block ?_
 refine A.loop (ι := Nat) (fun i => i ≤ 8) (fun i => [(2, .v (.pointer (some ⟨b2, 0, none⟩))), (4, .v (.pointer (some ⟨b4, 0, none⟩))), (10, .v (aggV ((rounds h K64 (sched l 64) 64).list.map u32V))), (11, .v (.int .i64 ((i : Nat) : Int))), (1000002, blk b2 104 (half h (rounds h K64 (sched l 64) 64) i)), (1000004, blk b4 104 (List.replicate 8 (.int .u32 0))), (1900000, tab 0 (H8.list.map u32V)), (1900001, tab 1 (K64.map u32V))]) (fun i => 8 - i) 0 ?_ ?_ ?_
 ·exact Nat.zero_le _
 ·exact (KC 2 rfl (KC 4 rfl (KC 10 rfl (KC 11 rfl (KE 1000002 rfl (rfl) (KC 1000004 rfl (KC 1900000 rfl (KC 1900001 rfl KN))))))))
 intro i hi
 refine GV rfl ?_
 refine QS ?_
 refine A.cond rfl (fun hc12 => ?_) (fun hc12 => ?_)
 ·have hlt : i < 8 := by simp at hc12; omega
  refine QK ?_
  refine QSB ?_
  refine GT ?_
  refine RM rfl ?_
  refine RS (ok_indexV1 i Tryz.underlying104 Tryz.underlying38 rfl info38 rfl rfl rfl hlt (map_get32 (by show i < 8; omega))) ?_
  refine RVN 2 rfl ?_
  refine GE ?_
  refine TF 6 ?_
  refine RM rfl ?_
  refine RS (ok_index0 _ Tryz.underlying104 info38 rfl rfl (rfl) (by omega)) ?_
  refine RS (ok_loadV (s := 1000002) (by decide) Tryz.underlying38 rfl rfl rfl (half_get hlt)) ?_
  refine RM rfl ?_
  refine RS (ok_add32 rfl rfl) ?_
  refine RS (ok_index0 _ Tryz.underlying104 info38 rfl rfl (rfl) (by omega)) ?_
  refine RN ?_
  refine ⟨_, eff_storeS (n := 23) (s := 1000002) info38 rfl rfl rfl hBb2 rfl (by rw [half_length (by omega)]; omega) (LB 1000004 rfl (LeftS.cons (t := 1900000) rfl (Surv.tab (by omega)) (LeftS.cons (t := 1900001) rfl (Surv.tab (by omega)) (LW [2, 4, 10, 11] rfl)))), ?_⟩
  refine TL ?_
  refine RN ?_
  refine End.normal_block ?_
  refine EN ?_
  refine GTE ?_
  refine RB rfl rfl rfl ?_
  refine RZ (.int .i64 ((i + 1 : Nat) : Int)) (by rw [wrap_i64 (by omega) (by omega)]; first | rfl | (congr 1; omega)) ?_
  refine RVN 1 rfl ?_
  refine End.normal_then ?_
  refine End.again (i + 1) ?_ ?_ ?_
  ·show _ ≤ _; omega
  ·show _ - _ < _ - _; omega
  ·exact (KC 2 rfl (KC 4 rfl (KC 10 rfl (KC 11 rfl (KE 1000002 rfl (by rw [half_set hlt]) (KC 1000004 rfl (KC 1900000 rfl (KC 1900001 rfl KN))))))))
 ·obtain rfl : i = 8 := by simp at hc12; omega
  refine A.exit ?_
  refine End.exit_then ?_
  refine End.exit_then ?_
  refine End.exit_here ?_
  refine EN ?_
  refine GS ?_
  refine TF 1 ?_
  refine RS (ok_loadA (s := 1000002) (by decide) Tryz.underlying104 rfl (size104.of (half_length (by omega))) rfl rfl) ?_; refine RZ (aggV ((compress h l).list.map u32V)) (rfl) ?_
  refine RN ?_
  refine ⟨_, eff_storeA (n := 23) (s := 1000004) (size104.of (R8.size _)) rfl rfl (all_u32 _) hBb4 rfl ((R8.size _).symm) (LV 4 rfl (LB 1000002 rfl (LeftS.cons (t := 1900000) rfl (Surv.tab (by omega)) (LeftS.cons (t := 1900001) rfl (Surv.tab (by omega)) LN)))), ?_⟩
  refine TL ?_
  refine RN ?_
  refine A.ret ?_
  exact End.cell1 (s := 1000004) rfl Tryz.underlying104 rfl (size104.of (R8.size _)) rfl rfl (Le.refl _)
theorem New_fn  : Fn Tryz.prog 42 [] (.v (stV [])) := by
 refine FV Tryz.func42 rfl Tryz.ntmps42 rfl fun w₀ => ?_
 refine GS ?_
 refine TN 0 ?_
 refine RN ?_
 refine ZN 1000000 zero106 fun b0 ⟨hBb0, hb0⟩ => ?_
 refine TL ?_
 refine RN ?_
 refine GS ?_
 refine TF 1 ?_
 refine RS (ok_lit [] (List.replicate 8 (.int .u32 0) ++ List.replicate 64 (.int .u8 0) ++ [.int .u64 0]) (fun _ _ => rfl) (by kernel_rfl)) ?_
 refine RN ?_
 refine ⟨_, eff_storeA (n := 2) (s := 1000000) (size106.of (by decide)) rfl rfl (by decide) hBb0 rfl (rfl) (LV 0 rfl LN), ?_⟩
 refine TL ?_
 refine RN ?_
 refine A.ret ?_
 exact End.cell1 (s := 1000000) rfl Tryz.underlying106 rfl (size106.of (by decide)) rfl rfl (Le.eq (by rw [stV, stL_nil]))
theorem filled_fn (f : R8) (r : List UInt8) (m : Nat) (hr : r.length = 64) (hm : m ≤ 1000000) : Fn Tryz.prog 100 [.v (aggV (stM f r m))] (.v (.int .i64 ((m % 64 : Nat) : Int))) := by
 refine FV Tryz.func100 rfl Tryz.ntmps100 rfl fun w₀ => ?_
 refine GS ?_
 refine TN 0 ?_
 refine RN ?_
 refine ZB 1000001 rfl fun b1 ⟨hBb1, hb1⟩ => ?_
 refine TL ?_
 refine RVN 1 rfl ?_
 refine GT ?_
 refine RS (ok_field field106_2 (by decide) rfl) ?_
 refine RS (ok_loadV (s := 1000001) (by decide) Tryz.underlying39 rfl rfl rfl (stM_size hr)) ?_
 refine RS (ok_rem rfl rfl (by decide)) ?_; refine RZ (.int .u64 ((m % 64 : Nat) : Int)) (by rw [tmod_lit _ (by decide)]; rfl) ?_
 refine RS (ok_conv Tryz.underlying39 Tryz.underlying3 rfl) ?_; refine RZ (.int .i64 ((m % 64 : Nat) : Int)) (by rw [wrap_i64 (by omega) (by omega)]) ?_
 refine RVN 1 rfl ?_
 refine A.ret ?_
 exact ER rfl rfl
theorem compressed_fn (l : List UInt8) (hl : l.length ≤ 1000000) : FnM Tryz.prog 99 tabs [.v (stV l)] (.v (aggV ((chain H8 l (l.length / 64)).list.map u32V))) := by
 refine FnM.of Tryz.func99 rfl (by kernel_rfl) Tryz.ntmps99 (by simp) (by decide) (fun w => [(0, .v (stV l)), (1900000, tab 0 (H8.list.map u32V)), (1900001, tab 1 (K64.map u32V))]) (fun w => (StartM.v rfl (StartM.m (by simp [tabs]) (by decide) (StartM.m (by simp [tabs]) (by decide) StartM.nil)))) fun w₀ hM => ?_
 have htab := tabs_hi hM
 refine GS ?_
 refine TN 0 ?_
 refine RN ?_
 refine ZB 1000001 rfl fun b1 ⟨hBb1, hb1⟩ => ?_
 refine TN 1 ?_
 refine RN ?_
 refine ZN 1000002 zero104 fun b2 ⟨hBb2, hb2⟩ => ?_
 refine TL ?_
 refine RN ?_
 refine QS ?_
 refine GT ?_
 refine RS (ok_field field106_2 (by decide) rfl) ?_
 refine RS (ok_loadV (s := 1000001) (by decide) Tryz.underlying39 rfl rfl rfl (stL_size l)) ?_
 refine RVN 1 rfl ?_
 refine A.cond rfl (fun hc5 => ?_) (fun hc5 => ?_)
 ·have hs : l.length < 64 := by simp at hc5; omega
  refine GS ?_
  refine TF 1 ?_
  refine RS (ok_loadT (s := 1900000) (by decide) Tryz.underlying104 rfl (size104.of (R8.size _)) rfl rfl) ?_; refine RZ (aggV ((chain H8 l (l.length / 64)).list.map u32V)) (by rw [chain_start l hs]) ?_
  refine RN ?_
  refine ⟨_, eff_storeA (n := 9) (s := 1000002) (size104.of (R8.size _)) rfl rfl (all_u32 _) hBb2 rfl ((R8.size _).symm) (LV 2 rfl (LT 1000001 rfl (LeftS.cons (t := 1900000) rfl (Surv.tab (by omega)) (LeftS.cons (t := 1900001) rfl (Surv.tab (by omega)) LN)))), ?_⟩
  refine TL ?_
  refine RN ?_
  refine A.ret ?_
  refine End.ret_then ?_
  exact End.cell1 (s := 1000002) rfl Tryz.underlying104 rfl (size104.of (R8.size _)) rfl rfl (Le.refl _)
 ·have hs : ¬ l.length < 64 := by simp at hc5; omega
  refine QK ?_
  refine GS ?_
  refine TF 2 ?_
  refine RS (ok_field field106_0 (by decide) rfl) ?_
  refine RS (ok_loadP (s := 1000001) (by decide) Tryz.underlying104 rfl size104 rfl rfl (by rw [stL_length]; decide) (stL_full l)) ?_; refine RZ (aggV ((chain H8 l (l.length / 64)).list.map u32V)) (by rw [fullR, if_neg hs]) ?_
  refine RN ?_
  refine ⟨_, eff_storeA (n := 9) (s := 1000002) (size104.of (R8.size _)) rfl rfl (all_u32 _) hBb2 rfl ((R8.size _).symm) (LV 2 rfl (LT 1000001 rfl (LeftS.cons (t := 1900000) rfl (Surv.tab (by omega)) (LeftS.cons (t := 1900001) rfl (Surv.tab (by omega)) LN)))), ?_⟩
  refine TL ?_
  refine RN ?_
  refine A.ret ?_
  exact End.cell1 (s := 1000002) rfl Tryz.underlying104 rfl (size104.of (R8.size _)) rfl rfl (Le.refl _)
theorem ending_fn (l : List UInt8) (hl : l.length ≤ 1000000) : Fn Tryz.prog 102 [.v (stV l)] (byt (endL l.length)) := by
 refine FV Tryz.func102 rfl Tryz.ntmps102 rfl fun w₀ => ?_
 refine GS ?_
 refine TN 0 ?_
 refine RN ?_
 refine ZB 1000001 rfl fun b1 ⟨hBb1, hb1⟩ => ?_
 refine TL ?_
 refine RVN 1 rfl ?_
 refine GT ?_
 refine RS (ok_loadA (s := 1000001) (by decide) Tryz.underlying106 rfl (size106.of (stL_length l)) rfl rfl) ?_
 refine RS (ok_call (filled_fn (fullR l) (restL l) l.length (restL_length l) hl) (A1 rfl)) ?_
 refine RB rfl rfl rfl ?_
 refine RZ (.int .i64 ((119 - l.length % 64 : Nat) : Int)) (by rw [wrap_i64 (by omega) (by omega)]; congr 1; omega) ?_
 refine RS (ok_rem rfl rfl (by decide)) ?_; refine RZ (.int .i64 (((119 - l.length % 64) % 64 : Nat) : Int)) (by rw [tmod_lit _ (by decide)]; rfl) ?_
 refine RVN 1 rfl ?_
 refine GTD ?_
 refine RS (ok_build [byteD 128] Tryz.underlying22 info5 rfl (by decide) (by decide) rfl ⟨rfl, rfl, trivial⟩ (fun d hd w x h => by simp only [List.mem_cons, List.not_mem_nil, or_false] at hd; rcases hd with rfl; exact v_one rfl h)) ?_
 refine RM rfl ?_
 refine RS (ok_make ((119 - l.length % 64) % 64) Tryz.underlying22 info5 (by decide) rfl rfl rfl rfl rfl (by omega)) ?_
 refine RS (ok_field field106_2 (by decide) rfl) ?_
 refine RS (ok_loadV (s := 1000001) (by decide) Tryz.underlying39 rfl rfl rfl (stL_size l)) ?_
 refine RB rfl rfl rfl ?_
 refine RZ (.int .u64 ((8 * l.length : Nat) : Int)) (by rw [wrap_u64 (by omega) (by omega)]; congr 1) ?_
 refine RS (ok_call (Put64_fn ((8 * l.length : Nat) : Int) (by omega) (by omega)) (A1 rfl)) ?_
 refine RS (ok_build [list [byteD 128] 1, fresh w₀.heap.size 5 (List.replicate ((119 - l.length % 64) % 64) (.int .u8 0)) ((119 - l.length % 64) % 64), bytes (be 8 (8 * l.length)) 8] Tryz.underlying103 info22 rfl (by decide) (by decide) rfl ⟨rfl, rfl, rfl, rfl, rfl, rfl, trivial⟩ (fun d hd w x h => by simp only [List.mem_cons, List.not_mem_nil, or_false] at hd; rcases hd with rfl | rfl | rfl <;> first | exact list_one h | exact freshS_one h | exact bytes_one h)) ?_
 refine RS (ok_call ((Join_fn [[128], List.replicate ((119 - l.length % 64) % 64) 0, be 8 (8 * l.length)] (by simp) (by simp [be_length]; omega)).le (d' := byt (endL l.length)) ((le_byt _ _).trans (Le.eq (by simp [endL])))) (Args.cons rfl (list_lst3 (le_lst _ _) (fresh_zeros (by simp only [maxLen]; omega)) (le_byt _ _)) Args.nil)) ?_
 refine RVN 1 rfl ?_
 refine A.ret ?_
 exact ER rfl rfl
end Go.Proofs.YtffiflfjlemggaaGreatDoor
namespace Go.Proofs.YtffiflfjlemggaaGreatDoor
open Go Go.RowKit
variable {κ : Cx}

/-! ### There is something of which it is known -/
def exD {ι : Type} (P : ι → Prop) (d : ι → D) : D :=
  .p (fun B w x => ∃ i, P i ∧ (d i).OfB B w x) (fun _ _ _ _ g ⟨i, h, k⟩ => ⟨i, h, k.keep g⟩) (fun _ _ _ _ g ⟨i, h, k⟩ => ⟨i, h, k.up g⟩)
theorem Le.ex {ι : Type} {P : ι → Prop} {d : ι → D} (i : ι) (h : P i) : Le (d i) (exD P d) := fun _ _ _ hx => ⟨i, h, hx⟩
/-! ### Digits -/
/-! ### Prime numbers by trial -/
end Go.Proofs.YtffiflfjlemggaaGreatDoor
namespace Go.Proofs.YtffiflfjlemggaaGreatDoor
open Go Go.RowKit
set_option linter.unusedVariables false
set_option maxRecDepth 20000

theorem info39 : InfoIs Tryz.prog 39 (.int .u64 0) 8 := by unfold InfoIs; kernel_rfl
end Go.Proofs.YtffiflfjlemggaaGreatDoor
namespace Go.Proofs.YtffiflfjlemggaaGreatDoor
open Go Go.RowKit
set_option linter.unusedVariables false
set_option maxRecDepth 20000

end Go.Proofs.YtffiflfjlemggaaGreatDoor
namespace Go.Proofs.YtffiflfjlemggaaGreatDoor
open Go Go.RowKit
set_option linter.unusedVariables false
set_option maxRecDepth 20000

end Go.Proofs.YtffiflfjlemggaaGreatDoor
namespace Go.Proofs.YtffiflfjlemggaaGreatDoor
open Go Go.RowKit
set_option linter.unusedVariables false
set_option maxRecDepth 20000
theorem block_len (L r : List UInt8) (h : (L.length + min r.length (64 - L.length % 64)) % 64 = 0) (h0 : 0 < r.length) : L.length % 64 + (r.take (64 - L.length % 64)).length = 64 := by
 have hk : L.length % 64 < 64 := Nat.mod_lt _ (by decide)
 rw [List.length_take]; omega
theorem part_len (L r : List UInt8) (h : ¬ (L.length + min r.length (64 - L.length % 64)) % 64 = 0) : (L.length + (r.take (64 - L.length % 64)).length) / 64 = L.length / 64 := by
 have hk : L.length % 64 < 64 := Nat.mod_lt _ (by decide)
 rw [List.length_take]; omega

set_option maxHeartbeats 1000000 in
theorem Write_fn (l b : List UInt8) (hl : l.length + b.length ≤ 1000000) : FnM Tryz.prog 43 tabs [.v (stV l), byt b] (.v (stV (l ++ b))) := by
 refine FnM.of Tryz.func43 rfl (by kernel_rfl) Tryz.ntmps43 (by simp) (by decide) (fun w => [(0, .v (stV l)), (1, old w.heap.size (byt b)), (1900000, tab 0 (H8.list.map u32V)), (1900001, tab 1 (K64.map u32V))]) (fun w => (StartM.v rfl (StartM.old rfl (StartM.m (by simp [tabs]) (by decide) (StartM.m (by simp [tabs]) (by decide) StartM.nil))))) fun w₀ hM => ?_
 have htab := tabs_hi hM
 refine GS ?_
 refine TN 0 ?_
 refine RN ?_
 refine ZB 1000002 rfl fun b2 ⟨hBb2, hb2⟩ => ?_
 refine TN 1 ?_
 refine RN ?_
 refine ZN 1000004 zero106 fun b4 ⟨hBb4, hb4⟩ => ?_
 have hlt_b2_b4 := hb4 1000002 b2 _ _ rfl
 refine TL ?_
 refine RN ?_
 refine QSB ?_
 refine A.loop (ι := Nat) (fun c => c ≤ b.length) (fun c => [(1, old w₀.heap.size (byt (b.drop c))), (2, .v (.pointer (some ⟨b2, 0, none⟩))), (4, .v (.pointer (some ⟨b4, 0, none⟩))), (1000002, blk b2 106 (stL (l ++ b.take c))), (1000004, blk b4 106 (List.replicate 8 (.int .u32 0) ++ List.replicate 64 (.int .u8 0) ++ [.int .u64 0])), (1900000, tab 0 (H8.list.map u32V)), (1900001, tab 1 (K64.map u32V))]) (fun c => b.length - c) 0 ?_ ?_ ?_
 ·exact Nat.zero_le _
 ·exact (KE 1 rfl (by rw [List.drop_zero]) (KC 2 rfl (KC 4 rfl (KE 1000002 rfl (by rw [List.take_zero, List.append_nil]) (KC 1000004 rfl (KC 1900000 rfl (KC 1900001 rfl KN)))))))
 intro c hc
 obtain ⟨L, hL⟩ : ∃ L, l ++ b.take c = L := ⟨_, rfl⟩
 obtain ⟨r, hr⟩ : ∃ r, b.drop c = r := ⟨_, rfl⟩
 have hLl : L.length = l.length + c := by rw [← hL]; simp; omega
 have hrl' : r.length = b.length - c := by rw [← hr]; simp
 rw [hL, hr]
 refine QS ?_
 refine GT ?_
 refine RM rfl ?_
 refine RS (ok_lenB Tryz.underlying22 rfl (Le.old _ _)) ?_
 refine RVN 1 rfl ?_
 refine A.cond rfl (fun hc9 => ?_) (fun hc9 => ?_)
 ·have hrl : 0 < r.length := by simp at hc9; omega
  refine QK ?_
  refine A.block ?_
  refine GS ?_
  refine TN 2 ?_
  refine RS (ok_loadA (s := 1000002) (by decide) Tryz.underlying106 rfl (size106.of (stL_length _)) rfl rfl) ?_
  refine RS (ok_callM (compressed_fn L (by omega)) (Sub.cons rfl (Sub.cons rfl KN)) tabs_v (Args.cons rfl LA Args.nil)) ?_
  refine RN ?_
  refine ZN 1000005 zero104 fun b5 ⟨hBb5, hb5⟩ => ?_
  refine TF 3 ?_
  refine RN ?_
  refine ⟨_, eff_storeA (n := 36) (s := 1000005) (size104.of (R8.size _)) rfl rfl (all_u32 _) hBb5 rfl ((R8.size _).symm) (LO 1 rfl (LT 1000002 rfl (LT 1000004 rfl (LeftS.cons (t := 1900000) rfl (Surv.tab (by omega)) (LeftS.cons (t := 1900001) rfl (Surv.tab (by omega)) (LW [2, 4, 5] rfl)))))), ?_⟩
  refine TL ?_
  refine RN ?_
  refine GS ?_
  refine TF 5 ?_
  refine RS (ok_field field106_1 (by decide) rfl) ?_
  refine RS (ok_loadA (s := 1000002) (by decide) Tryz.underlying106 rfl (size106.of (stL_length _)) rfl rfl) ?_
  refine RS (ok_call (filled_fn (fullR L) (restL L) L.length (restL_length L) (by omega)) (A1 rfl)) ?_
  refine RS (ok_sliceX (l := L.length % 64) (h := 64) (m := 64) Tryz.underlying24 info5 rfl (.inl ⟨_, _, rfl, rfl⟩) (.inr ⟨rfl, rfl, rfl⟩) (.inr ⟨rfl, rfl⟩) (by omega) (by omega) (by omega) (.inl (by omega))) ?_
  refine RVN 1 rfl ?_
  refine ⟨_, eff_copyS (n := 36) (s := 1000002) (l := r) Tryz.underlying22 info5 rfl rfl (Le.old _ _) hBb2 rfl (by rw [stL_length]; omega) (by decide) (LO 1 rfl (LB 1000004 rfl (LT 1000005 rfl (LeftS.cons (t := 1900000) rfl (Surv.tab (by omega)) (LeftS.cons (t := 1900001) rfl (Surv.tab (by omega)) (LW [2, 4, 5] rfl)))))), ?_⟩
  refine TL ?_
  refine RVN 1 rfl ?_
  refine A.sub (KC 1 rfl (KC 2 rfl (KC 4 rfl (KC 5 rfl (KC 6 rfl (KE 1000002 rfl (show blk b2 106 _ = blk b2 106 (stM (fullR L) (restL (L ++ r.take (64 - L.length % 64))) L.length) from congrArg _ (st_copy L r)) (KC 1000004 rfl (KC 1000005 rfl (KC 1900000 rfl (KC 1900001 rfl KN)))))))))) ?_
  refine GT ?_
  refine RV 2 rfl ?_
  refine RS ((ok_sliceO (l := min r.length (64 - L.length % 64)) (h := r.length) (f := byt r) (ds := r.map byteD) Tryz.underlying22 info5 rfl (Le.refl _) (.inl ⟨_, _, rfl, rfl⟩) (.inr ⟨rfl, by simp⟩) (by omega) (by simp)).le (d' := old w₀.heap.size (byt (r.drop (min r.length (64 - L.length % 64))))) (Le.eq (by rw [byt, List.map_drop, List.take_of_length_le (by simp)]))) ?_
  refine RVN 1 rfl ?_
  refine GS ?_
  refine TF 6 ?_
  refine RS (ok_field field106_2 (by decide) rfl) ?_
  refine RS (ok_loadV (s := 1000002) (by decide) Tryz.underlying39 rfl rfl rfl (stM_size (restL_length _))) ?_
  refine RM rfl ?_
  refine RS (ok_conv Tryz.underlying3 Tryz.underlying39 rfl) ?_; refine RZ (.int .u64 ((min r.length (64 - L.length % 64) : Nat) : Int)) (by rw [wrapN_u64 (by omega)]) ?_
  refine RB rfl rfl rfl ?_
  refine RZ (.int .u64 ((L.length + min r.length (64 - L.length % 64) : Nat) : Int)) (by rw [wrap_u64 (by omega) (by omega)]; congr 1) ?_
  refine RS (ok_field field106_2 (by decide) rfl) ?_
  refine RN ?_
  refine ⟨_, eff_storeS (n := 36) (s := 1000002) info39 rfl rfl rfl hBb2 rfl (by rw [stM_length (restL_length _)]; decide) (LO 1 rfl (LB 1000004 rfl (LT 1000005 rfl (LeftS.cons (t := 1900000) rfl (Surv.tab (by omega)) (LeftS.cons (t := 1900001) rfl (Surv.tab (by omega)) (LW [2, 4, 5] rfl)))))), ?_⟩
  refine TL ?_
  refine RN ?_
  refine A.sub (KC 1 rfl (KC 2 rfl (KC 4 rfl (KC 5 rfl (KE 1000002 rfl (show blk b2 106 _ = blk b2 106 (stM (fullR L) (restL (L ++ r.take (64 - L.length % 64))) (L.length + min r.length (64 - L.length % 64))) from congrArg _ (stM_setSize (restL_length _))) (KC 1000004 rfl (KC 1000005 rfl (KC 1900000 rfl (KC 1900001 rfl KN))))))))) ?_
  refine GT ?_
  refine RS (ok_loadA (s := 1000002) (by decide) Tryz.underlying106 rfl (size106.of (stM_length (restL_length _))) rfl rfl) ?_
  refine RS (ok_call (filled_fn (fullR L) (restL (L ++ r.take (64 - L.length % 64))) (L.length + min r.length (64 - L.length % 64)) (restL_length _) (by omega)) (A1 rfl)) ?_
  refine RVN 1 rfl ?_
  refine A.cond rfl (fun hc29 => ?_) (fun hc29 => ?_)
  ·refine GE ?_
   refine TF 5 ?_
   refine RS (ok_loadA (s := 1000005) (by decide) Tryz.underlying104 rfl (size104.of (R8.size _)) rfl rfl) ?_
   refine RS (ok_field field106_1 (by decide) rfl) ?_
   refine RS (ok_loadP (s := 1000002) (by decide) Tryz.underlying24 rfl size24 rfl rfl (by rw [stM_length (restL_length _)]; decide) (stM_rest (restL_length _))) ?_
   refine RS (ok_callM (Compress_fn (chain H8 L (L.length / 64)) (restL (L ++ r.take (64 - L.length % 64))) (restL_length _)) (Sub.cons rfl (Sub.cons rfl KN)) tabs_v (Args.cons rfl LA (Args.cons rfl LA Args.nil))) ?_
   refine RS (ok_field field106_0 (by decide) rfl) ?_
   refine RN ?_
   refine ⟨_, eff_storeP (n := 36) (s := 1000002) (size104.of (R8.size _)) rfl rfl (all_u32 _) hBb2 rfl (by rw [stM_length (restL_length _), R8.size]; decide) (LO 1 rfl (LB 1000004 rfl (LT 1000005 rfl (LeftS.cons (t := 1900000) rfl (Surv.tab (by omega)) (LeftS.cons (t := 1900001) rfl (Surv.tab (by omega)) (LW [2, 4] rfl)))))), ?_⟩
   refine TL ?_
   refine RN ?_
   refine End.sub (KC 1 rfl (KC 2 rfl (KC 4 rfl (KE 1000002 rfl (show blk b2 106 _ = blk b2 106 (stL (L ++ r.take (64 - L.length % 64))) from congrArg _ (by rw [stM_setFull, stL, fullR_step L _ (block_len L r (by have := beq_iff_eq.1 hc29; omega) (by omega)), List.length_append, List.length_take, Nat.min_comm (64 - L.length % 64)])) (KC 1000004 rfl (KC 1000005 rfl (KC 1900000 rfl (KC 1900001 rfl KN)))))))) ?_
   refine End.normal_block ?_
   refine End.normal_then ?_
   refine End.again (c + min r.length (64 - L.length % 64)) ?_ ?_ ?_
   ·show _ ≤ _; omega
   ·show _ - _ < _ - _; omega
   ·exact (KE 1 rfl (by rw [← List.drop_drop, hr]) (KC 2 rfl (KC 4 rfl (KE 1000002 rfl (by rw [List.take_add, hr, ← List.append_assoc, hL, Nat.min_comm r.length, ← List.take_eq_take_min]) (KC 1000004 rfl (KC 1900000 rfl (KC 1900001 rfl KN)))))))
  ·have hst : stM (fullR L) (restL (L ++ r.take (64 - L.length % 64))) (L.length + min r.length (64 - L.length % 64)) = stL (L ++ r.take (64 - L.length % 64)) := by
    rw [stL, fullR_same L _ (part_len L r (by have := beq_eq_false_iff_ne.1 hc29; omega)), List.length_append, List.length_take, Nat.min_comm (64 - L.length % 64)]
   rw [hst]
   refine A.skip ?_
   refine End.normal_block ?_
   refine End.normal_then ?_
   refine End.again (c + min r.length (64 - L.length % 64)) ?_ ?_ ?_
   ·show _ ≤ _; omega
   ·show _ - _ < _ - _; omega
   ·exact (KE 1 rfl (by rw [← List.drop_drop, hr]) (KC 2 rfl (KC 4 rfl (KE 1000002 rfl (by rw [List.take_add, hr, ← List.append_assoc, hL, Nat.min_comm r.length, ← List.take_eq_take_min]) (KC 1000004 rfl (KC 1900000 rfl (KC 1900001 rfl KN)))))))
 ·have hr0 : r = [] := by simpa using hc9
  refine A.exit ?_
  refine End.exit_then ?_
  refine End.exit_then ?_
  refine End.exit_here ?_
  refine EN ?_
  refine GS ?_
  refine TF 1 ?_
  refine RS (ok_loadA (s := 1000002) (by decide) Tryz.underlying106 rfl (size106.of (stL_length _)) rfl rfl) ?_
  refine RN ?_
  refine ⟨_, eff_storeA (n := 36) (s := 1000004) (size106.of (stL_length _)) rfl rfl (stL_ones _) hBb4 rfl ((stL_length _).symm) (LV 4 rfl (LB 1000002 rfl (LeftS.cons (t := 1900000) rfl (Surv.tab (by omega)) (LeftS.cons (t := 1900001) rfl (Surv.tab (by omega)) LN)))), ?_⟩
  refine TL ?_
  refine RN ?_
  refine A.ret ?_
  exact End.cell1 (s := 1000004) rfl Tryz.underlying106 rfl (size106.of (stL_length _)) rfl rfl (Le.v (by rw [← hL, stV]; simp [List.drop_eq_nil_iff.1 (hr.trans hr0), List.take_of_length_le]))
end Go.Proofs.YtffiflfjlemggaaGreatDoor
namespace Go.Proofs.YtffiflfjlemggaaGreatDoor
open Go Go.RowKit
set_option linter.unusedVariables false
set_option maxRecDepth 20000

theorem Chunk_fnB (g m c : Nat) : FnB Tryz.prog 103 [.v (.slice (some ⟨g, 0, none⟩) m c), .v (.int .i64 64)] (fun B => closD B 121 22 3 (.slice (some ⟨g, 0, none⟩) m c) (.int .i64 64)) := by
 refine FnB.of Tryz.func103 rfl (by kernel_rfl) Tryz.ntmps103 (by simp) (fun w => [(0, .v (.slice (some ⟨g, 0, none⟩) m c)), (1, .v (.int .i64 64))]) (fun w => (Start.v rfl (Start.v rfl Start.nil))) fun w₀ => ?_
 refine GS ?_
 refine TN 0 ?_
 refine RN ?_
 refine ⟨_, _, eff_box1 (n := 9) (d := 2) (k := 1000002) rfl rfl (by decide), fun b2 hb2 => ?_⟩
 have hBb2 := hb2.1
 refine TN 1 ?_
 refine RN ?_
 refine ⟨_, _, eff_box1 (n := 9) (d := 3) (k := 1000003) rfl rfl (by decide), fun b3 hb3 => ?_⟩
 have hBb3 := hb3.1
 have hlt_b2_b3 : b2 < b3 := hb3.2 1000002 _ _ _ rfl
 refine TL ?_
 refine RVN 1 rfl ?_
 refine QS ?_
 refine GT ?_
 refine RLV 1000003 Tryz.underlying3 rfl rfl rfl ?_
 refine RB rfl rfl rfl ?_
 refine RZ (.bool false) (rfl) ?_
 refine RN ?_
 refine A.no rfl ?_
 refine QK ?_
 refine GT ?_
 refine RS (ok_makeFunc2 rfl rfl) ?_
 refine RVN 1 rfl ?_
 refine A.ret ?_
 exact End.clos rfl hBb2 hlt_b2_b3 rfl (k₁ := 1000002) (k₂ := 1000003) rfl rfl
theorem Chunk1_seq {w₀ : World} {N m l p q g cap : Nat} {J : Nat → World → Prop} {arg : Nat → D} (hm : m = 64 * N) (hcap : m ≤ cap) (hmax : cap ≤ maxLen) (harg : ∀ i, i < N → arg i = .v (.slice (some ⟨g, 64 * i, none⟩) 64 64))
  (hq : Seqs Tryz.prog w₀ N l arg (fun _ => [(1000091, blk p 22 [.slice (some ⟨g, 0, none⟩) m cap]), (1000092, blk q 3 [.int .i64 64])]) J) {w : World} (h0 : J 0 w) :
  Calls Tryz.prog 121 (.func (.yield l) #[] #[] :: [.pointer (some ⟨p, 0, none⟩), .pointer (some ⟨q, 0, none⟩)] : List Value).toArray w fun e W => (∃ v, e = .returned v) ∧ J N W := by
 have hmx : maxLen = 9223372036854775807 := rfl
 obtain ⟨hb, hs, hV⟩ := hq.holds 0 w h0
 refine Calls.within (n := 31) (E := [(0, .v (.func (.yield l) #[] #[])), (1, .v (.pointer (some ⟨p, 0, none⟩))), (2, .v (.pointer (some ⟨q, 0, none⟩))), (1000090, jD (J 0)), (1000091, blk p 22 [.slice (some ⟨g, 0, none⟩) m cap]), (1000092, blk q 3 [.int .i64 64])]) Tryz.func121 rfl Tryz.ntmps121 (by simp) (by decide) hb hs ?_ ?_
 ·intro x hx
  simp only [List.mem_cons, List.not_mem_nil, or_false] at hx
  rcases hx with rfl | rfl | rfl | rfl | rfl | rfl
  ·exact .inr ⟨_, rfl, rfl⟩
  ·exact .inr ⟨_, rfl, rfl⟩
  ·exact .inr ⟨_, rfl, rfl⟩
  ·exact .inl ⟨vle rfl, jD_mk h0⟩
  ·exact .inl ⟨vle rfl, hV _ (by simp)⟩
  ·exact .inl ⟨vle rfl, hV _ (by simp)⟩
 refine GV rfl ?_
 refine A.block ?_
 refine A.loop (ι := Nat) (fun i => i ≤ N) (fun i => [(0, .v (.func (.yield l) #[] #[])), (1, .v (.pointer (some ⟨p, 0, none⟩))), (2, .v (.pointer (some ⟨q, 0, none⟩))), (4, .v (.int .i64 ((64 * i : Nat) : Int))), (1000090, jD (J i)), (1000091, blk p 22 [.slice (some ⟨g, 0, none⟩) m cap]), (1000092, blk q 3 [.int .i64 64])]) (fun i => N - i) 0 ?_ ?_ ?_
 ·exact Nat.zero_le _
 ·exact (SV [0, 1, 2, 4, 1000090, 1000091, 1000092] rfl)
 intro i hi
 refine QS ?_
 refine GT ?_
 refine RM rfl ?_
 refine RLV 1000091 Tryz.underlying22 rfl rfl rfl ?_
 refine RS (ok_lenV Tryz.underlying22 rfl) ?_
 refine RVN 1 rfl ?_
 refine A.cond rfl (fun hc9 => ?_) (fun hc9 => ?_)
 ·have hlt : i < N := by simp at hc9; omega
  refine QK ?_
  refine QSB ?_
  refine GTD ?_
  refine RLV 1000092 Tryz.underlying3 rfl rfl rfl ?_
  refine RLV 1000091 Tryz.underlying22 rfl rfl rfl ?_
  refine RM rfl ?_
  refine RS (ok_sliceS (l := 64 * i) (h := m) (m := cap) Tryz.underlying22 info5 rfl (.inl ⟨_, _, rfl, rfl⟩) (.inr ⟨rfl, rfl, rfl⟩) (.inr ⟨rfl, rfl⟩) (by omega) (by omega) (by omega) (.inl (by omega))) ?_
  refine RS (ok_lenV Tryz.underlying22 rfl) ?_
  refine RS (ok_min rfl rfl) ?_; refine RZ (.int .i64 ((64 : Nat) : Int)) (by congr 1; omega) ?_
  refine RVN 1 rfl ?_
  refine GS ?_
  refine TF 10 ?_
  refine RM rfl ?_
  refine RLV 1000091 Tryz.underlying22 rfl rfl rfl ?_
  refine RV 4 rfl ?_
  refine RZ (.int .i64 ((64 * i + 64 : Nat) : Int)) (by rw [wrap_i64 (by omega) (by omega)]; first | rfl | (congr 1; omega)) ?_
  refine RV 3 rfl ?_
  refine RZ (.int .i64 ((64 * i + 64 : Nat) : Int)) (by rw [wrap_i64 (by omega) (by omega)]; first | rfl | (congr 1; omega)) ?_
  refine RS (ok_sliceS (l := 64 * i) (h := 64 * i + 64) (m := 64 * i + 64) Tryz.underlying22 info5 rfl (.inl ⟨_, _, rfl, rfl⟩) (.inl ⟨_, _, rfl, rfl⟩) (.inl ⟨_, _, rfl, rfl⟩) (by omega) (by omega) (by omega) (.inl (by omega))) ?_; refine RZ (.slice (some ⟨g, 64 * i, none⟩) 64 64) (by rw [Nat.zero_add, show 64 * i + 64 - 64 * i = 64 from by omega]) ?_
  refine RN ?_
  refine ⟨_, eff_yield (vJ := 1000090) hq i hlt rfl rfl rfl (Le.eq (harg i hlt).symm) (by decide) (fun p hp => by simp only [List.mem_cons, List.not_mem_nil, or_false] at hp; rcases hp with rfl | rfl <;> exact vle rfl) (by decide) (Left.cons (t := 0) rfl (Stays.v _ _) (Left.cons (t := 1) rfl (Stays.v _ _) (Left.cons (t := 2) rfl (Stays.v _ _) (Left.cons (t := 4) rfl (Stays.v _ _) Left.nil)))), ?_⟩
  refine TL ?_
  refine RS (ok_not rfl) ?_; refine RZ (.bool false) (rfl) ?_
  refine RN ?_
  refine A.no rfl ?_
  refine A.skip ?_
  refine End.normal_block ?_
  refine EN ?_
  refine GTE ?_
  refine RM rfl ?_
  refine RLV 1000092 Tryz.underlying3 rfl rfl rfl ?_
  refine RB rfl rfl rfl ?_
  refine RZ (.int .i64 ((64 * (i + 1) : Nat) : Int)) (by rw [wrap_i64 (by omega) (by omega)]; first | rfl | (congr 1; omega)) ?_
  refine RVN 1 rfl ?_
  refine End.sub (SV [0, 1, 2, 4, 1000090, 1000091, 1000092] rfl) ?_
  refine End.normal_then ?_
  refine End.again (i + 1) ?_ ?_ ?_
  ·show _ ≤ _; omega
  ·show _ - _ < _ - _; omega
  ·exact (SV [0, 1, 2, 4, 1000090, 1000091, 1000092] rfl)
 ·obtain rfl : i = N := by simp at hc9; omega
  refine A.exit ?_
  refine End.exit_then ?_
  refine End.exit_then ?_
  refine End.exit_here ?_
  exact End.seq (vJ := 1000090) hq rfl rfl
set_option maxHeartbeats 1000000 in
theorem Sum_fn (l : List UInt8) (hl : l.length ≤ 1000000) : FnM Tryz.prog 44 tabs [.v (stV l)] (.v (aggV ((sha l).map byteV))) := by
 refine FnM.of Tryz.func44 rfl (by kernel_rfl) Tryz.ntmps44 (by simp) (by decide) (fun w => [(0, .v (stV l)), (1900000, tab 0 (H8.list.map u32V)), (1900001, tab 1 (K64.map u32V))]) (fun w => (StartM.v rfl (StartM.m (by simp [tabs]) (by decide) (StartM.m (by simp [tabs]) (by decide) StartM.nil)))) fun w₀ hM => ?_
 have htab := tabs_hi hM
 refine GS ?_
 refine TN 0 ?_
 refine RN ?_
 refine ZB 1000001 rfl fun b1 ⟨hBb1, hb1⟩ => ?_
 refine TN 1 ?_
 refine RN ?_
 refine ZN 1000002 zero31 fun b2 ⟨hBb2, hb2⟩ => ?_
 refine TL ?_
 refine RN ?_
 refine GT ?_
 refine RS (ok_loadA (s := 1000001) (by decide) Tryz.underlying106 rfl (size106.of (stL_length l)) rfl rfl) ?_
 refine RS (ok_call (filled_fn (fullR l) (restL l) l.length (restL_length l) hl) (A1 rfl)) ?_
 refine RVN 1 rfl ?_
 refine GTD ?_
 refine RS (ok_field field106_1 (by decide) rfl) ?_
 refine RV 2 rfl ?_
 refine RS (ok_sliceX (l := 0) (h := l.length % 64) (m := l.length % 64) Tryz.underlying24 info5 rfl (.inr ⟨rfl, rfl⟩) (.inl ⟨_, _, rfl, rfl⟩) (.inl ⟨_, _, rfl, rfl⟩) (by omega) (by omega) (by omega) (.inr rfl)) ?_
 refine RS (ok_loadA (s := 1000001) (by decide) Tryz.underlying106 rfl (size106.of (stL_length l)) rfl rfl) ?_
 refine RS (ok_call (ending_fn l hl) (A1 rfl)) ?_
 refine RS ((ok_appendCap (s := 1000001) (m := l.length % 64) (us := (l.drop (64 * (l.length / 64))).map byteV) (vs := (endL l.length).map byteV) (by decide) Tryz.underlying22 info5 (by decide) rfl rfl rfl (by rw [← restL_take, List.map_take, ← stL_rest, List.take_take, Nat.min_eq_left (by omega)]) (by rw [stL_length]; omega) rfl (Le.eq (byt_vals _)) (by rw [List.length_map, endL_length]; omega) (by rw [List.length_map, endL_length]; omega)).le (d' := own w₀.heap.size 5 (tailL l).length ((tailL l).map byteV)) (Le.eq (by rw [tailL_length, List.length_map, endL_length, ← List.map_append]; rfl))) ?_
 refine RVN 1 rfl ?_
 refine A.openOwn (t := 4) (k := 1000090) rfl (by rw [tailL_length]; omega) fun g cap ys hBg hcap1 hcap2 hgl hgx => ?_
 refine GS ?_
 refine TN 2 ?_
 refine RS (ok_loadA (s := 1000001) (by decide) Tryz.underlying106 rfl (size106.of (stL_length l)) rfl rfl) ?_
 refine RS (ok_callM (compressed_fn l hl) (Sub.cons rfl (Sub.cons rfl KN)) tabs_v (Args.cons rfl LA Args.nil)) ?_
 refine RN ?_
 refine ZN 1000005 zero104 fun b5 ⟨hBb5, hb5⟩ => ?_
 refine TF 3 ?_
 refine RN ?_
 refine ⟨_, eff_storeA (n := 42) (s := 1000005) (size104.of (R8.size _)) rfl rfl (all_u32 _) hBb5 rfl (by first | exact (R8.size _).trans (R8.size _).symm | rfl) (LT 1000001 rfl (LT 1000002 rfl (LT 1000090 rfl (LeftS.cons (t := 1900000) rfl (Surv.tab (by omega)) (LeftS.cons (t := 1900001) rfl (Surv.tab (by omega)) (LW [2, 4, 5] rfl)))))), ?_⟩
 refine TL ?_
 refine RN ?_
 refine QS ?_
 refine GT ?_
 refine RM rfl ?_
 refine RS (ok_callB (Chunk_fnB g (tailL l).length cap) (fun _ _ => closD_mono _ _) (A2 rfl rfl)) ?_
 refine RN ?_
 refine A.openClos (t := 22) (k₁ := 1000091) (k₂ := 1000092) rfl fun p q hBp hpq => ?_
 refine A.block ?_
 refine A.range (gf := 121) (N := (tailL l).length / 64) (vL := 1000098) (vD := 1000099) (tp := 23) (lb := [.pointer (some ⟨p, 0, none⟩), .pointer (some ⟨q, 0, none⟩)]) (S := [(2, .v (.pointer (some ⟨b2, 0, none⟩))), (5, .v (.pointer (some ⟨b5, 0, none⟩)))])
  (V := fun i => [(1000002, blk b2 31 (List.replicate 32 (.int .u8 0))), (1000005, blk b5 104 ((chain (chain H8 l (l.length / 64)) (tailL l) i).list.map u32V)), (1000090, blk g 5 ((tailL l).map byteV ++ ys)), (1000091, blk p 22 [.slice (some ⟨g, 0, none⟩) (tailL l).length cap]), (1000092, blk q 3 [.int .i64 64]), (1900000, tab 0 (H8.list.map u32V)), (1900001, tab 1 (K64.map u32V))])
  (Eb := fun i => (6, .v (.slice (some ⟨g, 64 * i, none⟩) 64 64)) :: (23, .v (.slice (some ⟨g, 64 * i, none⟩) 64 64)) :: ([(1000002, blk b2 31 (List.replicate 32 (.int .u8 0))), (1000005, blk b5 104 ((chain (chain H8 l (l.length / 64)) (tailL l) i).list.map u32V)), (1000090, blk g 5 ((tailL l).map byteV ++ ys)), (1000091, blk p 22 [.slice (some ⟨g, 0, none⟩) (tailL l).length cap]), (1000092, blk q 3 [.int .i64 64]), (1900000, tab 0 (H8.list.map u32V)), (1900001, tab 1 (K64.map u32V))] ++ [(2, .v (.pointer (some ⟨b2, 0, none⟩))), (5, .v (.pointer (some ⟨b5, 0, none⟩)))]))
  (arg := fun i => .v (.slice (some ⟨g, 64 * i, none⟩) 64 64)) rfl ⟨_, Tryz.func121, by kernel_rfl, rfl⟩ (by decide) (by decide) (SV [1000002, 1000005, 1000090, 1000091, 1000092, 1900000, 1900001, 2, 5] rfl)
  (fun x hx => by simp only [List.mem_cons, List.not_mem_nil, or_false] at hx; rcases hx with rfl | rfl <;> exact ⟨vlt rfl, .inl ⟨_, rfl⟩⟩)
  (fun i x hx => by simp only [List.mem_cons, List.not_mem_nil, or_false] at hx; rcases hx with rfl | rfl | rfl | rfl | rfl | rfl | rfl <;> exact vle rfl)
  (fun i l' _ x hx => by simp only [List.mem_cons, List.not_mem_nil, or_false] at hx; rcases hx with rfl | rfl | rfl | rfl | rfl | rfl | rfl <;> first | exact Firm.blk | exact Firm.tab)
  (fun i l' _ x hx => by simp only [List.mem_cons, List.mem_append, List.not_mem_nil, or_false] at hx; rcases hx with rfl | rfl | (rfl | rfl | rfl | rfl | rfl | rfl | rfl) | rfl | rfl <;> first | exact Firm.blk | exact Firm.tab | exact Firm.v _ _)
  (fun J l' w hq h0 => Chunk1_seq (g := g) (cap := cap) (tailL_mod l) hcap1 hcap2 (fun i _ => rfl) (hq.sub fun i x hx => by simp only [List.mem_cons, List.not_mem_nil, or_false] at hx ⊢; rcases hx with rfl | rfl <;> simp) h0)
  (fun i l' a w _ h => assign_one (by decide) (by decide) (by decide) h) ?_ ?_
 ·intro i l' D rr mm hi
  refine A.block ?_
  refine A.reg (by kernel_rfl) (by kernel_rfl) (.inr (by kernel_rfl)) ?_
  refine TD 5 ?_
  refine RS (ok_loadA (s := 1000005) (by decide) Tryz.underlying104 rfl (size104.of (R8.size _)) rfl rfl) ?_
  refine RM rfl ?_
  refine RS (ok_arrayAt Tryz.underlying24 rfl (by decide)) ?_
  refine RS (ok_loadP (s := 1000090) (by decide) Tryz.underlying24 rfl size24 rfl rfl (by have := tailL_mod l; simp; omega) (tailL_block l hi)) ?_
  refine RS (ok_callM (Compress_fn (chain (chain H8 l (l.length / 64)) (tailL l) i) (((tailL l).drop (64 * i)).take 64) (by have := tailL_mod l; simp; omega)) (Sub.cons rfl (Sub.cons rfl KN)) tabs_v (Args.cons rfl LA (Args.cons rfl LA Args.nil))) ?_; refine RZ (aggV ((chain (chain H8 l (l.length / 64)) (tailL l) (i + 1)).list.map u32V)) (rfl) ?_
  refine RN ?_
  refine ⟨_, eff_storeA (n := 42) (s := 1000005) (size104.of (R8.size _)) rfl rfl (all_u32 _) hBb5 rfl (by first | exact (R8.size _).trans (R8.size _).symm | rfl) (LT 1000002 rfl (LT 1000090 rfl (LT 1000091 rfl (LT 1000092 rfl (LeftS.cons (t := 1000098) rfl (Surv.rec rfl) (LeftS.cons (t := 1000099) rfl (Surv.rec rfl) (LeftS.cons (t := 1900000) rfl (Surv.tab (by omega)) (LeftS.cons (t := 1900001) rfl (Surv.tab (by omega)) LN)))))))), ?_⟩
  refine TL ?_
  refine RN ?_
  refine End.normal_block ?_
  exact End.round (SV [1000098, 1000099, 1000002, 1000005, 1000090, 1000091, 1000092, 1900000, 1900001] rfl) (fun x hx => by simp only [List.mem_cons, List.not_mem_nil, or_false] at hx; rcases hx with rfl | rfl | rfl | rfl | rfl | rfl | rfl | rfl | rfl <;> exact vle rfl) (by decide)
 ·intro D hD
  refine End.normal_block ?_
  refine EN ?_
  refine GS ?_
  refine TN 0 ?_
  refine RN ?_
  refine ZN 1000007 zero31 fun b7 ⟨hBb7, hb7⟩ => ?_
  have hlt_b2_b7 := hb7 1000002 b2 _ _ rfl
  refine TL ?_
  refine RN ?_
  refine QS ?_
  refine GT ?_
  refine RS (ok_loadA (s := 1000005) (by decide) Tryz.underlying104 rfl (size104.of (R8.size _)) rfl rfl) ?_; refine RZ (aggV ((shaR l).list.map u32V)) (by rw [tailL_sha]) ?_
  refine RVN 1 rfl ?_
  refine A.block ?_
  refine A.loop (ι := Nat) (fun i => i ≤ 8) (fun i => [(2, .v (.pointer (some ⟨b2, 0, none⟩))), (7, .v (.pointer (some ⟨b7, 0, none⟩))), (29, .v (aggV ((shaR l).list.map u32V))), (30, .v (.int .i64 ((i : Nat) : Int))), (1000002, blk b2 31 (List.replicate 32 (.int .u8 0))), (1000007, blk b7 31 (tableB ((sha l).take (4 * i)) 32)), (1000099, recD D (.deferred (some [])) 0), (1900000, tab 0 (H8.list.map u32V)), (1900001, tab 1 (K64.map u32V))]) (fun i => 8 - i) 0 ?_ ?_ ?_
  ·exact Nat.zero_le _
  ·exact (KC 2 rfl (KC 7 rfl (KC 29 rfl (KC 30 rfl (KC 1000002 rfl (KE 1000007 rfl (by rw [Nat.mul_zero, List.take_zero, ← tableB_nil]) (KC 1000099 rfl (KC 1900000 rfl (KC 1900001 rfl KN)))))))))
  intro i hi
  refine GV rfl ?_
  refine QS ?_
  refine A.cond rfl (fun hc31 => ?_) (fun hc31 => ?_)
  ·have hlt : i < 8 := by simp at hc31; omega
   refine QK ?_
   refine QSB ?_
   refine GT ?_
   refine RM rfl ?_
   refine RS (ok_indexV1 i Tryz.underlying104 Tryz.underlying38 rfl info38 rfl rfl rfl hlt (map_get32 (by show i < 8; omega))) ?_
   refine RVN 2 rfl ?_
   refine A.reg (by kernel_rfl) (by kernel_rfl) (.inr (by kernel_rfl)) ?_
   refine TD 5 ?_
   refine RV 2 rfl ?_
   refine RZ (.int .i64 ((4 * i : Nat) : Int)) (by rw [wrap_i64 (by omega) (by omega)]; first | rfl | (congr 1; omega)) ?_
   refine RS (ok_sliceX (l := 4 * i) (h := 32) (m := 32) Tryz.underlying31 info5 rfl (.inl ⟨_, _, rfl, rfl⟩) (.inr ⟨rfl, rfl, rfl⟩) (.inr ⟨rfl, rfl⟩) (by omega) (by omega) (by omega) (.inl (by omega))) ?_
   refine RM rfl ?_
   refine RS (ok_call (Put32_fn ((((shaR l).list.getD i 0).toNat : Nat) : Int) (Int.natCast_nonneg _) (by have := u32_lt ((shaR l).list.getD i 0); omega)) (A1 rfl)) ?_
   refine RN ?_
   refine ⟨_, eff_copyS (n := 42) (s := 1000007) (l := be 4 ((shaR l).list.getD i 0).toNat) Tryz.underlying22 info5 rfl rfl (le_byt _ _) hBb7 rfl (by rw [tableB_length (by simp [sha_length]; omega)]; omega) (by decide) (LB 1000002 rfl (LeftS.cons (t := 1000099) rfl (Surv.rec rfl) (LeftS.cons (t := 1900000) rfl (Surv.tab (by omega)) (LeftS.cons (t := 1900001) rfl (Surv.tab (by omega)) (LW [2, 7, 29, 30] rfl))))), ?_⟩
   refine TL ?_
   refine RN ?_
   refine End.sub (KC 2 rfl (KC 7 rfl (KC 29 rfl (KC 30 rfl (KC 1000002 rfl (KE 1000007 rfl (show blk b7 31 _ = blk b7 31 (tableB ((sha l).take (4 * (i + 1))) 32) from congrArg _ (sha_copy l hlt)) (KC 1000099 rfl (KC 1900000 rfl (KC 1900001 rfl KN))))))))) ?_
   refine End.normal_block ?_
   refine EN ?_
   refine GTE ?_
   refine RB rfl rfl rfl ?_
   refine RZ (.int .i64 ((i + 1 : Nat) : Int)) (by rw [wrap_i64 (by omega) (by omega)]; first | rfl | (congr 1; omega)) ?_
   refine RVN 1 rfl ?_
   refine End.normal_then ?_
   refine End.again (i + 1) ?_ ?_ ?_
   ·show _ ≤ _; omega
   ·show _ - _ < _ - _; omega
   ·exact (SV [2, 7, 29, 30, 1000002, 1000007, 1000099, 1900000, 1900001] rfl)
  ·obtain rfl : i = 8 := by simp at hc31; omega
   refine A.exit ?_
   refine End.exit_then ?_
   refine End.exit_then ?_
   refine End.exit_here ?_
   refine EN ?_
   refine GS ?_
   refine TF 1 ?_
   refine RS (ok_loadA (s := 1000007) (by decide) Tryz.underlying31 rfl (size31.of (by rw [tableB_length (by simp [sha_length])])) rfl rfl) ?_; refine RZ (aggV ((sha l).map byteV)) (by rw [tableB_full (by simp [sha_length]), List.take_of_length_le (by rw [sha_length]; decide)]) ?_
   refine RN ?_
   refine ⟨_, eff_storeA (n := 42) (s := 1000002) (size31.of (by rw [List.length_map, sha_length])) rfl rfl (all_bytes _) hBb2 rfl (by rw [List.length_map, sha_length, List.length_replicate]) (LV 2 rfl (LB 1000007 rfl (LeftS.cons (t := 1000099) rfl (Surv.rec rfl) (LeftS.cons (t := 1900000) rfl (Surv.tab (by omega)) (LeftS.cons (t := 1900001) rfl (Surv.tab (by omega)) LN))))), ?_⟩
   refine TL ?_
   refine RN ?_
   refine A.ret ?_
   exact End.cell1C (D := D) (vD := 1000099) rfl hD rfl Tryz.underlying31 rfl (size31.of (by rw [List.length_map, sha_length])) rfl (s := 1000002) rfl (fun _ => rfl)
end Go.Proofs.YtffiflfjlemggaaGreatDoor
namespace Go.Proofs.YtffiflfjlemggaaGreatDoor
open Go Go.RowKit
set_option linter.unusedVariables false
set_option maxRecDepth 20000

set_option maxHeartbeats 400000 in
theorem Of_fn (ps : List (List UInt8)) (l : List UInt8) (hl : ps.flatten = l) (hps : ps.length ≤ 1000000) (htot : l.length ≤ 1000000) : FnM Tryz.prog 12 tabs [lst (ps.map byt)] (.v (aggV ((sha l).map byteV))) := by
 subst hl
 refine FnM.of Tryz.func12 rfl (by kernel_rfl) Tryz.ntmps12 (by simp) (by decide) (fun w => [(0, old w.heap.size (lst (ps.map byt))), (1900000, tab 0 (H8.list.map u32V)), (1900001, tab 1 (K64.map u32V))]) (fun w => (StartM.old rfl (StartM.m (by simp [tabs]) (by decide) (StartM.m (by simp [tabs]) (by decide) StartM.nil)))) fun w₀ hM => ?_
 have htab := tabs_hi hM
 refine GS ?_
 refine TN 0 ?_
 refine RN ?_
 refine ZN 1000002 zero31 fun b2 ⟨hBb2, hb2⟩ => ?_
 refine TL ?_
 refine RN ?_
 refine GS ?_
 refine TN 1 ?_
 refine RS (ok_call New_fn Args.nil) ?_
 refine RN ?_
 refine ZN 1000003 zero106 fun b3 ⟨hBb3, hb3⟩ => ?_
 refine TF 2 ?_
 refine RN ?_
 refine ⟨_, eff_storeA (n := 19) (s := 1000003) (size106.of (stL_length _)) rfl rfl (stL_ones _) hBb3 rfl (by first | exact (stL_length _).trans (stL_length _).symm | exact (stL_length _).symm) (LO 0 rfl (LT 1000002 rfl (LeftS.cons (t := 1900000) rfl (Surv.tab (by omega)) (LeftS.cons (t := 1900001) rfl (Surv.tab (by omega)) (LW [2, 3] rfl))))), ?_⟩
 refine TL ?_
 refine RN ?_
 refine QS ?_
 refine GT ?_
 refine RM rfl ?_
 refine RS (ok_len Tryz.underlying103 rfl LA) ?_; refine RZ (.int .i64 (ps.length : Int)) (by simp) ?_
 refine RVN 1 rfl ?_
 refine A.block ?_
 refine A.loop (ι := Nat) (fun i => i ≤ ps.length) (fun i => [(2, .v (.pointer (some ⟨b2, 0, none⟩))), (3, .v (.pointer (some ⟨b3, 0, none⟩))), (7, old w₀.heap.size (lst (ps.map byt))), (8, .v (.int .i64 (ps.length : Int))), (9, .v (.int .i64 (i : Int))), (1000002, blk b2 31 (List.replicate 32 (.int .u8 0))), (1000003, blk b3 106 (stL ((ps.take i).flatten))), (1900000, tab 0 (H8.list.map u32V)), (1900001, tab 1 (K64.map u32V))]) (fun i => ps.length - i) 0 ?_ ?_ ?_
 ·exact Nat.zero_le _
 ·exact (SV [2, 3, 7, 8, 9, 1000002, 1000003, 1900000, 1900001] rfl)
 intro i hi
 refine GV rfl ?_
 refine QS ?_
 refine A.cond rfl (fun hc10 => ?_) (fun hc10 => ?_)
 ·have hlt : i < ps.length := by simpa using hc10
  have hget : ps[i]? = some ps[i] := List.getElem?_eq_getElem hlt
  have hT := flatten_take_le ps (i + 1)
  rw [flatten_take_succ hget, List.length_append] at hT
  refine QK ?_
  refine QSB ?_
  refine GT ?_
  refine RS (ok_index (d := byt ps[i]) Tryz.underlying103 info22 rfl LA rfl (by omega) (by simp [hlt])) ?_
  refine RS (ok_load Tryz.underlying22 rfl rfl) ?_
  refine RVN 1 rfl ?_
  refine GE ?_
  refine TF 3 ?_
  refine RS (ok_loadA (s := 1000003) (by decide) Tryz.underlying106 rfl (size106.of (stL_length _)) rfl rfl) ?_
  refine RM rfl ?_
  refine RS (ok_callM (Write_fn ((ps.take i).flatten) ps[i] (by omega)) (Sub.cons rfl (Sub.cons rfl KN)) tabs_v (Args.cons rfl LA (Args.cons rfl LA Args.nil))) ?_; refine RZ (aggV (stL ((ps.take (i + 1)).flatten))) (by rw [flatten_take_succ hget]; rfl) ?_
  refine RN ?_
  refine ⟨_, eff_storeA (n := 19) (s := 1000003) (size106.of (stL_length _)) rfl rfl (stL_ones _) hBb3 rfl (by first | exact (stL_length _).trans (stL_length _).symm | exact (stL_length _).symm) (LO 7 rfl (LT 1000002 rfl (LeftS.cons (t := 1900000) rfl (Surv.tab (by omega)) (LeftS.cons (t := 1900001) rfl (Surv.tab (by omega)) (LW [2, 3, 8, 9] rfl))))), ?_⟩
  refine TL ?_
  refine RN ?_
  refine End.normal_block ?_
  refine EN ?_
  refine GTE ?_
  refine RB rfl rfl rfl ?_
  refine RZ (.int .i64 ((i + 1 : Nat) : Int)) (by rw [wrap_i64 (by omega) (by omega)]; first | rfl | (congr 1; omega)) ?_
  refine RVN 1 rfl ?_
  refine End.normal_then ?_
  refine End.again (i + 1) ?_ ?_ ?_
  ·show _ ≤ _; omega
  ·show _ - _ < _ - _; omega
  ·exact (SV [2, 3, 7, 8, 9, 1000002, 1000003, 1900000, 1900001] rfl)
 ·have hi2 : i = ps.length := by simp at hc10; omega
  subst hi2
  refine A.exit ?_
  refine End.exit_then ?_
  refine End.exit_then ?_
  refine End.exit_here ?_
  refine EN ?_
  refine GS ?_
  refine TF 2 ?_
  refine RS (ok_loadA (s := 1000003) (by decide) Tryz.underlying106 rfl (size106.of (stL_length _)) rfl rfl) ?_; refine RZ (stV ps.flatten) (by rw [List.take_length]; rfl) ?_
  refine RS (ok_callM (Sum_fn ps.flatten htot) (Sub.cons rfl (Sub.cons rfl KN)) tabs_v (Args.cons rfl LA Args.nil)) ?_
  refine RN ?_
  refine ⟨_, eff_storeA (n := 19) (s := 1000002) (size31.of (by rw [List.length_map, sha_length])) rfl rfl (all_bytes _) hBb2 rfl (by rw [List.length_map, sha_length, List.length_replicate]) (LV 2 rfl (LT 1000003 rfl (LeftS.cons (t := 1900000) rfl (Surv.tab (by omega)) (LeftS.cons (t := 1900001) rfl (Surv.tab (by omega)) LN)))), ?_⟩
  refine TL ?_
  refine RN ?_
  refine A.ret ?_
  exact End.cell1 (s := 1000002) rfl Tryz.underlying31 rfl (size31.of (by rw [List.length_map, sha_length])) rfl rfl (Le.refl _)
end Go.Proofs.YtffiflfjlemggaaGreatDoor
namespace Go.Proofs.YtffiflfjlemggaaGreatDoor
open Go Go.RowKit
def kbase (k : List UInt8) : List UInt8 := if 64 < k.length then sha k else k
def kblock (k : List UInt8) : List UInt8 := kbase k ++ List.replicate (64 - (kbase k).length) 0
theorem kbase_length (k : List UInt8) : (kbase k).length ≤ 64 := by
  unfold kbase; split
  · rw [sha_length]; decide
  · omega
theorem kblock_length (k : List UInt8) : (kblock k).length = 64 := by
  have := kbase_length k
  simp [kblock]; omega
def kpad (c : UInt8) (k : List UInt8) : List UInt8 := (kblock k).map (· ^^^ c)
theorem kpad_length (c : UInt8) (k : List UInt8) : (kpad c k).length = 64 := by simp [kpad, kblock_length]
def hmac (k m : List UInt8) : List UInt8 := sha (kpad 0x5c k ++ sha (kpad 0x36 k ++ m))
theorem hmac_length (k m : List UInt8) : (hmac k m).length = 32 := sha_length _
theorem kblock_get {k : List UInt8} {i : Nat} (h : i < 64) : (kblock k)[i]? = some ((kblock k).getD i 0) := by
  rw [List.getD_eq_getElem?_getD, List.getElem?_eq_getElem (by rw [kblock_length]; exact h)]; rfl
theorem kpad_get {c : UInt8} {k : List UInt8} {i : Nat} (h : i < 64) : (kpad c k)[i]? = some ((kblock k).getD i 0 ^^^ c) := by
  rw [kpad, List.getElem?_map, kblock_get h]; rfl
/-! ### Ways of computing these -/
/-- A key block whose first i bytes are exclusive-ored with c. -/
def kpart (c : UInt8) (k : List UInt8) (i : Nat) : List UInt8 := (kpad c k).take i ++ (kblock k).drop i
theorem kpart_zero (c : UInt8) (k : List UInt8) : kpart c k 0 = kblock k := by simp [kpart]
theorem kpart_full (c : UInt8) (k : List UInt8) : kpart c k 64 = kpad c k := by
  rw [kpart, List.take_of_length_le (by rw [kpad_length]; exact Nat.le_refl _), List.drop_eq_nil_of_le (by rw [kblock_length]; exact Nat.le_refl _), List.append_nil]
theorem kpart_length {c : UInt8} {k : List UInt8} {i : Nat} (h : i ≤ 64) : (kpart c k i).length = 64 := by
  rw [kpart, List.length_append, List.length_take, List.length_drop, kpad_length, kblock_length]; omega
theorem kpart_get {c : UInt8} {k : List UInt8} {i : Nat} (h : i < 64) : ((kpart c k i).map byteV)[i]? = some (byteV ((kblock k).getD i 0)) := by
  have hl : ((kpad c k).take i).length = i := by rw [List.length_take, kpad_length]; omega
  rw [List.getElem?_map, kpart, List.getElem?_append_right (by omega), hl, Nat.sub_self, List.getElem?_drop, Nat.add_zero, kblock_get h]
  rfl
theorem kpart_set {c : UInt8} {k : List UInt8} {i : Nat} (h : i < 64) : ((kpart c k i).map byteV).set i (byteV ((kblock k).getD i 0 ^^^ c)) = (kpart c k (i + 1)).map byteV := by
  have hl : ((kpad c k).take i).length = i := by rw [List.length_take, kpad_length]; omega
  rw [← List.map_set, kpart, List.set_append_right _ _ (by omega), hl, Nat.sub_self, List.drop_eq_getElem_cons (by rw [kblock_length]; exact h), List.set_cons_zero, kpart, List.take_add_one, kpad_get h]
  simp
theorem kblock_copy {k l : List UInt8} (h : kbase k = l) : (List.replicate 64 (Value.int .u8 0)).take 0 ++ (l.take 64).map byteV ++ (List.replicate 64 (Value.int .u8 0)).drop (0 + min l.length 64) = (kblock k).map byteV := by
  have hk := kbase_length k
  rw [h] at hk
  rw [kblock, h, List.take_zero, List.nil_append, List.take_of_length_le hk, Nat.zero_add, Nat.min_eq_left hk, List.drop_replicate, List.map_append, List.map_replicate]
  rfl
end Go.Proofs.YtffiflfjlemggaaGreatDoor
namespace Go.Proofs.YtffiflfjlemggaaGreatDoor
open Go Go.RowKit
set_option linter.unusedVariables false
set_option maxRecDepth 20000

end Go.Proofs.YtffiflfjlemggaaGreatDoor
namespace Go.Proofs.YtffiflfjlemggaaGreatDoor
open Go Go.RowKit
set_option linter.unusedVariables false
set_option maxRecDepth 20000

set_option maxHeartbeats 1000000 in
theorem macBlock_fn (k : List UInt8) (hk : k.length ≤ 1000) : FnM Tryz.prog 9 tabs [byt k] (.v (aggV ((kblock k).map byteV))) := by
 refine FnM.of Tryz.func9 rfl (by kernel_rfl) Tryz.ntmps9 (by simp) (by decide) (fun w => [(0, old w.heap.size (byt k)), (1900000, tab 0 (H8.list.map u32V)), (1900001, tab 1 (K64.map u32V))]) (fun w => (StartM.old rfl (StartM.m (by simp [tabs]) (by decide) (StartM.m (by simp [tabs]) (by decide) StartM.nil)))) fun w₀ hM => ?_
 have htab := tabs_hi hM
 refine GS ?_
 refine TN 0 ?_
 refine RN ?_
 refine ZN 1000002 zero24 fun b2 ⟨hBb2, hb2⟩ => ?_
 refine TL ?_
 refine RN ?_
 refine GS ?_
 refine TN 0 ?_
 refine RN ?_
 refine ZN 1000003 zero24 fun b3 ⟨hBb3, hb3⟩ => ?_
 have hlt_b2_b3 := hb3 1000002 b2 _ _ rfl
 refine TL ?_
 refine RN ?_
 refine QS ?_
 refine GT ?_
 refine RM rfl ?_
 refine RS (ok_lenB Tryz.underlying22 rfl (Le.old _ _)) ?_
 refine RVN 1 rfl ?_
 refine A.cond rfl (fun hc7 => ?_) (fun hc7 => ?_)
 ·have h64 : 64 < k.length := by simp at hc7; omega
  obtain ⟨L, hL⟩ : ∃ L, sha k = L := ⟨_, rfl⟩
  have hkb : kbase k = L := by rw [kbase, if_pos h64, hL]
  refine GS ?_
  refine TN 3 ?_
  refine RM rfl ?_
  refine RS (ok_build [old w₀.heap.size (byt k)] Tryz.underlying103 info22 rfl (by decide) (by decide) rfl ⟨rfl, rfl, trivial⟩ (fun d hd w x h => by simp only [List.mem_cons, List.not_mem_nil, or_false] at hd; subst hd; exact old_one (fun _ _ h => lst_one h) h)) ?_
  refine RS (ok_callM (Of_fn [k] k (by simp) (by simp) (by omega)) (Sub.cons rfl (Sub.cons rfl KN)) tabs_v (Args.cons rfl (list_lst1 (Le.old _ _)) Args.nil)) ?_
  refine RN ?_
  refine ZN 1000004 zero31 fun b4 ⟨hBb4, hb4⟩ => ?_
  refine TF 4 ?_
  refine RN ?_
  refine ⟨_, eff_storeA (n := 16) (s := 1000004) (size31.of (by rw [List.length_map, sha_length])) rfl rfl (all_bytes _) hBb4 rfl (by rw [List.length_map, sha_length, List.length_replicate]) (LT 1000002 rfl (LT 1000003 rfl (LeftS.cons (t := 1900000) rfl (Surv.tab (by omega)) (LeftS.cons (t := 1900001) rfl (Surv.tab (by omega)) (LW [2, 3, 4] rfl))))), ?_⟩
  refine TL ?_
  refine RN ?_
  refine GTE ?_
  refine RS (ok_sliceA (s := 1000004) 0 32 (by decide) Tryz.underlying31 info5 rfl rfl (.inr ⟨rfl, rfl⟩) (.inr ⟨rfl, rfl⟩) (by omega) (by omega) (by rw [List.length_map, sha_length]) (by decide)) ?_
  refine RVN 1 rfl ?_
  refine EN ?_
  refine GS ?_
  refine TF 2 ?_
  refine RS (ok_sliceX (l := 0) (h := 64) (m := 64) Tryz.underlying24 info5 rfl (.inr ⟨rfl, rfl⟩) (.inr ⟨rfl, rfl, rfl⟩) (.inr ⟨rfl, rfl⟩) (by omega) (by omega) (by omega) (.inr rfl)) ?_
  refine RVN 1 rfl ?_
  refine ⟨_, eff_copyS (n := 16) (s := 1000003) (l := L) Tryz.underlying22 info5 rfl rfl (by first | exact hL ▸ Le.old _ _ | (rw [← hL]; exact (Le.eq (by rw [byt_vals]; congr 2 <;> rw [List.drop_zero, List.take_of_length_le (by rw [List.length_map, sha_length]; exact Nat.le_refl _)])))) hBb3 rfl (by simp) (by decide) (LB 1000002 rfl (LT 1000004 rfl (LeftS.cons (t := 1900000) rfl (Surv.tab (by omega)) (LeftS.cons (t := 1900001) rfl (Surv.tab (by omega)) (LW [2, 3] rfl))))), ?_⟩
  refine TL ?_
  refine RN ?_
  refine A.sub (KC 2 rfl (KC 3 rfl (KC 1000002 rfl (KE 1000003 rfl (show blk b3 24 _ = blk b3 24 ((kblock k).map byteV) from congrArg _ (kblock_copy hkb)) (KC 1000004 rfl (KC 1900000 rfl (KC 1900001 rfl KN))))))) ?_
  refine GS ?_
  refine TF 1 ?_
  refine RS (ok_loadA (s := 1000003) (by decide) Tryz.underlying24 rfl (size24.of (by rw [List.length_map, kblock_length])) rfl rfl) ?_
  refine RN ?_
  refine ⟨_, eff_storeA (n := 16) (s := 1000002) (size24.of (by rw [List.length_map, kblock_length])) rfl rfl (all_bytes _) hBb2 rfl (by rw [List.length_map, kblock_length, List.length_replicate]) (LV 2 rfl (LB 1000003 rfl (LT 1000004 rfl (LeftS.cons (t := 1900000) rfl (Surv.tab (by omega)) (LeftS.cons (t := 1900001) rfl (Surv.tab (by omega)) LN))))), ?_⟩
  refine TL ?_
  refine RN ?_
  refine A.ret ?_
  exact End.cell1 (s := 1000002) rfl Tryz.underlying24 rfl (size24.of (by rw [List.length_map, kblock_length])) rfl rfl (Le.refl _)
 ·have h64 : ¬ 64 < k.length := by simp at hc7; omega
  obtain ⟨L, hL⟩ : ∃ L, k = L := ⟨_, rfl⟩
  have hkb : kbase k = L := by rw [kbase, if_neg h64, hL]
  refine QK ?_
  refine GS ?_
  refine TF 2 ?_
  refine RS (ok_sliceX (l := 0) (h := 64) (m := 64) Tryz.underlying24 info5 rfl (.inr ⟨rfl, rfl⟩) (.inr ⟨rfl, rfl, rfl⟩) (.inr ⟨rfl, rfl⟩) (by omega) (by omega) (by omega) (.inr rfl)) ?_
  refine RVN 1 rfl ?_
  refine ⟨_, eff_copyS (n := 16) (s := 1000003) (l := L) Tryz.underlying22 info5 rfl rfl (by first | exact hL ▸ Le.old _ _ | (rw [← hL]; exact (Le.eq (by rw [byt_vals]; congr 2 <;> rw [List.drop_zero, List.take_of_length_le (by rw [List.length_map, sha_length]; exact Nat.le_refl _)])))) hBb3 rfl (by simp) (by decide) (LB 1000002 rfl (LeftS.cons (t := 1900000) rfl (Surv.tab (by omega)) (LeftS.cons (t := 1900001) rfl (Surv.tab (by omega)) (LW [2, 3] rfl)))), ?_⟩
  refine TL ?_
  refine RN ?_
  refine A.sub (KC 2 rfl (KC 3 rfl (KC 1000002 rfl (KE 1000003 rfl (show blk b3 24 _ = blk b3 24 ((kblock k).map byteV) from congrArg _ (kblock_copy hkb)) (KC 1900000 rfl (KC 1900001 rfl KN)))))) ?_
  refine GS ?_
  refine TF 1 ?_
  refine RS (ok_loadA (s := 1000003) (by decide) Tryz.underlying24 rfl (size24.of (by rw [List.length_map, kblock_length])) rfl rfl) ?_
  refine RN ?_
  refine ⟨_, eff_storeA (n := 16) (s := 1000002) (size24.of (by rw [List.length_map, kblock_length])) rfl rfl (all_bytes _) hBb2 rfl (by rw [List.length_map, kblock_length, List.length_replicate]) (LV 2 rfl (LB 1000003 rfl (LeftS.cons (t := 1900000) rfl (Surv.tab (by omega)) (LeftS.cons (t := 1900001) rfl (Surv.tab (by omega)) LN)))), ?_⟩
  refine TL ?_
  refine RN ?_
  refine A.ret ?_
  exact End.cell1 (s := 1000002) rfl Tryz.underlying24 rfl (size24.of (by rw [List.length_map, kblock_length])) rfl rfl (Le.refl _)
set_option maxHeartbeats 1000000 in
theorem macKeyed_fn (c : UInt8) (k : List UInt8) : FnM Tryz.prog 45 tabs [.v (aggV ((kblock k).map byteV)), .v (byteV c)] (.v (stV (kpad c k))) := by
 refine FnM.of Tryz.func45 rfl (by kernel_rfl) Tryz.ntmps45 (by simp) (by decide) (fun w => [(0, .v (aggV ((kblock k).map byteV))), (1, .v (byteV c)), (1900000, tab 0 (H8.list.map u32V)), (1900001, tab 1 (K64.map u32V))]) (fun w => (StartM.v rfl (StartM.v rfl (StartM.m (by simp [tabs]) (by decide) (StartM.m (by simp [tabs]) (by decide) StartM.nil))))) fun w₀ hM => ?_
 have htab := tabs_hi hM
 refine GS ?_
 refine TN 0 ?_
 refine RN ?_
 refine ZB 1000002 rfl fun b2 ⟨hBb2, hb2⟩ => ?_
 refine TN 1 ?_
 refine RN ?_
 refine ZN 1000004 zero106 fun b4 ⟨hBb4, hb4⟩ => ?_
 refine TL ?_
 refine RN ?_
 refine QS ?_
 refine GV rfl ?_
 refine A.block ?_
 refine A.loop (ι := Nat) (fun i => i ≤ 64) (fun i => [(1, .v (byteV c)), (2, .v (.pointer (some ⟨b2, 0, none⟩))), (4, .v (.pointer (some ⟨b4, 0, none⟩))), (6, .v (.int .i64 ((i : Nat) : Int))), (1000002, blk b2 24 ((kpart c k i).map byteV)), (1000004, blk b4 106 (List.replicate 8 (.int .u32 0) ++ List.replicate 64 (.int .u8 0) ++ [.int .u64 0])), (1900000, tab 0 (H8.list.map u32V)), (1900001, tab 1 (K64.map u32V))]) (fun i => 64 - i) 0 ?_ ?_ ?_
 ·exact Nat.zero_le _
 ·exact (KC 1 rfl (KC 2 rfl (KC 4 rfl (KC 6 rfl (KE 1000002 rfl (by rw [kpart_zero]) (KC 1000004 rfl (KC 1900000 rfl (KC 1900001 rfl KN))))))))
 intro i hi
 refine GV rfl ?_
 refine QS ?_
 refine A.cond rfl (fun hc7 => ?_) (fun hc7 => ?_)
 ·have hlt : i < 64 := by simp at hc7; omega
  refine QK ?_
  refine QSB ?_
  refine GV rfl ?_
  refine GE ?_
  refine TF 6 ?_
  refine RM rfl ?_
  refine RS (ok_index0 _ Tryz.underlying24 info5 rfl rfl (rfl) (by omega)) ?_
  refine RS (ok_loadV (s := 1000002) (by decide) Tryz.underlying5 rfl rfl rfl (kpart_get (by omega))) ?_
  refine RV 2 rfl ?_
  refine RZ (byteV ((kblock k).getD i 0 ^^^ c)) (congrArg (Value.int .u8) (xor_u8_nat ((kblock k).getD i 0) c)) ?_
  refine RS (ok_index0 _ Tryz.underlying24 info5 rfl rfl (rfl) (by omega)) ?_
  refine RN ?_
  refine ⟨_, eff_storeS (n := 19) (s := 1000002) info5 rfl rfl rfl hBb2 rfl (by rw [List.length_map, kpart_length (by omega)]; exact hlt) (LT 1000004 rfl (LeftS.cons (t := 1900000) rfl (Surv.tab (by omega)) (LeftS.cons (t := 1900001) rfl (Surv.tab (by omega)) (LW [1, 2, 4, 6] rfl)))), ?_⟩
  refine TL ?_
  refine RN ?_
  refine End.sub (KC 1 rfl (KC 2 rfl (KC 4 rfl (KC 6 rfl (KE 1000002 rfl (show blk b2 24 _ = blk b2 24 ((kpart c k (i + 1)).map byteV) from congrArg _ (kpart_set hlt)) (KC 1000004 rfl (KC 1900000 rfl (KC 1900001 rfl KN)))))))) ?_
  refine End.normal_block ?_
  refine EN ?_
  refine GTE ?_
  refine RB rfl rfl rfl ?_
  refine RZ (.int .i64 ((i + 1 : Nat) : Int)) (by rw [wrap_i64 (by omega) (by omega)]; first | rfl | (congr 1; omega)) ?_
  refine RVN 1 rfl ?_
  refine End.normal_then ?_
  refine End.again (i + 1) ?_ ?_ ?_
  ·show _ ≤ _; omega
  ·show _ - _ < _ - _; omega
  ·exact (SV [1, 2, 4, 6, 1000002, 1000004, 1900000, 1900001] rfl)
 ·obtain rfl : i = 64 := by simp at hc7; omega
  rw [kpart_full]
  refine A.exit ?_
  refine End.exit_then ?_
  refine End.exit_then ?_
  refine End.exit_here ?_
  refine EN ?_
  refine GD ?_
  refine TD 3 ?_
  refine RS (ok_call New_fn Args.nil) ?_
  refine RS ((ok_sliceA (s := 1000002) 0 64 (by decide) Tryz.underlying24 info5 rfl rfl (.inr ⟨rfl, rfl⟩) (.inr ⟨rfl, rfl⟩) (by omega) (by omega) (by rw [List.length_map, kpad_length]) (by decide)).le (d' := byt (kpad c k)) (Le.eq (by rw [byt_vals]; congr 2 <;> rw [List.drop_zero, List.take_of_length_le (by rw [List.length_map, kpad_length]; exact Nat.le_refl _)]))) ?_
  refine RS (ok_callM (Write_fn [] (kpad c k) (by simp [kpad_length])) (Sub.cons rfl (Sub.cons rfl KN)) tabs_v (A2 rfl rfl)) ?_; refine RZ (stV (kpad c k)) (by rw [List.nil_append]) ?_
  refine RN ?_
  refine ⟨_, eff_storeA (n := 19) (s := 1000004) (size106.of (stL_length _)) rfl rfl (stL_ones _) hBb4 rfl (by first | exact (stL_length _).trans (stL_length _).symm | exact (stL_length _).symm | rfl) (LV 4 rfl (LT 1000002 rfl (LeftS.cons (t := 1900000) rfl (Surv.tab (by omega)) (LeftS.cons (t := 1900001) rfl (Surv.tab (by omega)) LN)))), ?_⟩
  refine TL ?_
  refine RN ?_
  refine A.ret ?_
  exact End.cell1 (s := 1000004) rfl Tryz.underlying106 rfl (size106.of (stL_length _)) rfl rfl (Le.refl _)
set_option maxHeartbeats 2000000 in
theorem macOf_fn (k : List UInt8) (ps : List (List UInt8)) (m : List UInt8) (hm : ps.flatten = m) (hk : k.length ≤ 1000) (hps : ps.length ≤ 1000) (hml : m.length ≤ 10000) : FnM Tryz.prog 13 tabs [byt k, lst (ps.map byt)] (.v (aggV ((hmac k m).map byteV))) := by
 subst hm
 refine FnM.of Tryz.func13 rfl (by kernel_rfl) Tryz.ntmps13 (by simp) (by decide) (fun w => [(0, old w.heap.size (byt k)), (1, old w.heap.size (lst (ps.map byt))), (1900000, tab 0 (H8.list.map u32V)), (1900001, tab 1 (K64.map u32V))]) (fun w => (StartM.old rfl (StartM.old rfl (StartM.m (by simp [tabs]) (by decide) (StartM.m (by simp [tabs]) (by decide) StartM.nil))))) fun w₀ hM => ?_
 have htab := tabs_hi hM
 refine GS ?_
 refine TN 0 ?_
 refine RN ?_
 refine ZN 1000004 zero31 fun b4 ⟨hBb4, hb4⟩ => ?_
 refine TL ?_
 refine RN ?_
 refine GS ?_
 refine TN 2 ?_
 refine RM rfl ?_
 refine RS (ok_callM (macBlock_fn k hk) (Sub.cons rfl (Sub.cons rfl KN)) tabs_v (Args.cons rfl LA Args.nil)) ?_
 refine RN ?_
 refine ZN 1000005 zero24 fun b5 ⟨hBb5, hb5⟩ => ?_
 refine TF 3 ?_
 refine RN ?_
 refine ⟨_, eff_storeA (n := 31) (s := 1000005) (size24.of (by rw [List.length_map, kblock_length])) rfl rfl (all_bytes _) hBb5 rfl (by rw [List.length_map, kblock_length, List.length_replicate]) (LO 1 rfl (LT 1000004 rfl (LeftS.cons (t := 1900000) rfl (Surv.tab (by omega)) (LeftS.cons (t := 1900001) rfl (Surv.tab (by omega)) (LW [4, 5] rfl))))), ?_⟩
 refine TL ?_
 refine RN ?_
 refine GS ?_
 refine TN 2 ?_
 refine RS (ok_loadA (s := 1000005) (by decide) Tryz.underlying24 rfl (size24.of (by rw [List.length_map, kblock_length])) rfl rfl) ?_
 refine RS (ok_callM (macKeyed_fn 54 k) (Sub.cons rfl (Sub.cons rfl KN)) tabs_v (A2 rfl rfl)) ?_
 refine RN ?_
 refine ZN 1000006 zero106 fun b6 ⟨hBb6, hb6⟩ => ?_
 refine TF 3 ?_
 refine RN ?_
 refine ⟨_, eff_storeA (n := 31) (s := 1000006) (size106.of (stL_length _)) rfl rfl (stL_ones _) hBb6 rfl (by first | exact (stL_length _).trans (stL_length _).symm | exact (stL_length _).symm | rfl) (LO 1 rfl (LT 1000004 rfl (LT 1000005 rfl (LeftS.cons (t := 1900000) rfl (Surv.tab (by omega)) (LeftS.cons (t := 1900001) rfl (Surv.tab (by omega)) (LW [4, 5, 6] rfl)))))), ?_⟩
 refine TL ?_
 refine RN ?_
 refine QS ?_
 refine GT ?_
 refine RM rfl ?_
 refine RS (ok_len Tryz.underlying103 rfl LA) ?_; refine RZ (.int .i64 (ps.length : Int)) (by simp) ?_
 refine RVN 1 rfl ?_
 refine A.block ?_
 refine A.loop (ι := Nat) (fun i => i ≤ ps.length) (fun i => [(14, old w₀.heap.size (lst (ps.map byt))), (4, .v (.pointer (some ⟨b4, 0, none⟩))), (5, .v (.pointer (some ⟨b5, 0, none⟩))), (6, .v (.pointer (some ⟨b6, 0, none⟩))), (15, .v (.int .i64 (ps.length : Int))), (16, .v (.int .i64 ((i : Nat) : Int))), (1000004, blk b4 31 (List.replicate 32 (.int .u8 0))), (1000005, blk b5 24 ((kblock k).map byteV)), (1000006, blk b6 106 (stL ((kpad 54 k) ++ (ps.take i).flatten))), (1900000, tab 0 (H8.list.map u32V)), (1900001, tab 1 (K64.map u32V))]) (fun i => ps.length - i) 0 ?_ ?_ ?_
 ·exact Nat.zero_le _
 ·exact (KC 14 rfl (KC 4 rfl (KC 5 rfl (KC 6 rfl (KC 15 rfl (KC 16 rfl (KC 1000004 rfl (KC 1000005 rfl (KE 1000006 rfl (by simp) (KC 1900000 rfl (KC 1900001 rfl KN)))))))))))
 intro i hi
 refine GV rfl ?_
 refine QS ?_
 refine A.cond rfl (fun hc17 => ?_) (fun hc17 => ?_)
 ·have hlt : i < ps.length := by simp at hc17; omega
  have hget : ps[i]? = some ps[i] := List.getElem?_eq_getElem hlt
  have hT := flatten_take_le ps (i + 1)
  rw [flatten_take_succ hget, List.length_append] at hT
  refine QK ?_
  refine QSB ?_
  refine GT ?_
  refine RS (ok_index (d := byt ps[i]) Tryz.underlying103 info22 rfl LA rfl (by omega) (by simp [hlt])) ?_
  refine RS (ok_load Tryz.underlying22 rfl rfl) ?_
  refine RVN 1 rfl ?_
  refine GE ?_
  refine TF 3 ?_
  refine RS (ok_loadA (s := 1000006) (by decide) Tryz.underlying106 rfl (size106.of (stL_length _)) rfl rfl) ?_
  refine RM rfl ?_
  refine RS (ok_callM (Write_fn ((kpad 54 k) ++ (ps.take i).flatten) ps[i] (by simp only [List.length_append, kpad_length]; omega)) (Sub.cons rfl (Sub.cons rfl KN)) tabs_v (A2 rfl rfl)) ?_; refine RZ (stV ((kpad 54 k) ++ (ps.take (i + 1)).flatten)) (by rw [flatten_take_succ hget, List.append_assoc]) ?_
  refine RN ?_
  refine ⟨_, eff_storeA (n := 31) (s := 1000006) (size106.of (stL_length _)) rfl rfl (stL_ones _) hBb6 rfl (by first | exact (stL_length _).trans (stL_length _).symm | exact (stL_length _).symm | rfl) (LO 14 rfl (LT 1000004 rfl (LT 1000005 rfl (LeftS.cons (t := 1900000) rfl (Surv.tab (by omega)) (LeftS.cons (t := 1900001) rfl (Surv.tab (by omega)) (LW [4, 5, 6, 15, 16] rfl)))))), ?_⟩
  refine TL ?_
  refine RN ?_
  refine End.normal_block ?_
  refine EN ?_
  refine GTE ?_
  refine RB rfl rfl rfl ?_
  refine RZ (.int .i64 ((i + 1 : Nat) : Int)) (by rw [wrap_i64 (by omega) (by omega)]; first | rfl | (congr 1; omega)) ?_
  refine RVN 1 rfl ?_
  refine End.normal_then ?_
  refine End.again (i + 1) ?_ ?_ ?_
  ·show _ ≤ _; omega
  ·show _ - _ < _ - _; omega
  ·exact (SV [14, 4, 5, 6, 15, 16, 1000004, 1000005, 1000006, 1900000, 1900001] rfl)
 ·obtain rfl : i = ps.length := by simp at hc17; omega
  rw [List.take_length]
  refine A.exit ?_
  refine End.exit_then ?_
  refine End.exit_then ?_
  refine End.exit_here ?_
  refine EN ?_
  refine GS ?_
  refine TN 2 ?_
  refine RS (ok_loadA (s := 1000006) (by decide) Tryz.underlying106 rfl (size106.of (stL_length _)) rfl rfl) ?_
  refine RS (ok_callM (Sum_fn ((kpad 54 k) ++ ps.flatten) (by simp only [List.length_append, kpad_length]; omega)) (Sub.cons rfl (Sub.cons rfl KN)) tabs_v (A1 rfl)) ?_
  refine RN ?_
  refine ZN 1000009 zero31 fun b9 ⟨hBb9, hb9⟩ => ?_
  have hlt_b4_b9 := hb9 1000004 b4 _ _ rfl
  refine TF 3 ?_
  refine RN ?_
  refine ⟨_, eff_storeA (n := 31) (s := 1000009) (size31.of (by rw [List.length_map, sha_length])) rfl rfl (all_bytes _) hBb9 rfl (by rw [List.length_map, sha_length, List.length_replicate]) (LB 1000004 rfl (LT 1000005 rfl (LT 1000006 rfl (LeftS.cons (t := 1900000) rfl (Surv.tab (by omega)) (LeftS.cons (t := 1900001) rfl (Surv.tab (by omega)) (LW [4, 5, 9] rfl)))))), ?_⟩
  refine TL ?_
  refine RN ?_
  refine GD ?_
  refine TD 5 ?_
  refine RS (ok_loadA (s := 1000005) (by decide) Tryz.underlying24 rfl (size24.of (by rw [List.length_map, kblock_length])) rfl rfl) ?_
  refine RS (ok_callM (macKeyed_fn 92 k) (Sub.cons rfl (Sub.cons rfl KN)) tabs_v (A2 rfl rfl)) ?_
  refine RS ((ok_sliceA (s := 1000009) 0 32 (by decide) Tryz.underlying31 info5 rfl rfl (.inr ⟨rfl, rfl⟩) (.inr ⟨rfl, rfl⟩) (by omega) (by omega) (by rw [List.length_map, sha_length]) (by decide)).le (d' := byt (sha ((kpad 54 k) ++ ps.flatten))) (Le.eq (by rw [byt_vals]; congr 2 <;> rw [List.drop_zero, List.take_of_length_le (by rw [List.length_map, sha_length]; exact Nat.le_refl _)]))) ?_
  refine RS (ok_callM (Write_fn (kpad 92 k) (sha ((kpad 54 k) ++ ps.flatten)) (by simp [kpad_length, sha_length])) (Sub.cons rfl (Sub.cons rfl KN)) tabs_v (A2 rfl rfl)) ?_
  refine RS (ok_callM (Sum_fn (kpad 92 k ++ sha ((kpad 54 k) ++ ps.flatten)) (by simp [kpad_length, sha_length])) (Sub.cons rfl (Sub.cons rfl KN)) tabs_v (A1 rfl)) ?_; refine RZ (aggV ((hmac k ps.flatten).map byteV)) (rfl) ?_
  refine RN ?_
  refine ⟨_, eff_storeA (n := 31) (s := 1000004) (size31.of (by rw [List.length_map, hmac_length])) rfl rfl (all_bytes _) hBb4 rfl (by rw [List.length_map, hmac_length, List.length_replicate]) (LV 4 rfl (LT 1000005 rfl (LT 1000006 rfl (LB 1000009 rfl (LeftS.cons (t := 1900000) rfl (Surv.tab (by omega)) (LeftS.cons (t := 1900001) rfl (Surv.tab (by omega)) LN)))))), ?_⟩
  refine TL ?_
  refine RN ?_
  refine A.ret ?_
  exact End.cell1 (s := 1000004) rfl Tryz.underlying31 rfl (size31.of (by rw [List.length_map, hmac_length])) rfl rfl (Le.refl _)
end Go.Proofs.YtffiflfjlemggaaGreatDoor
namespace Go.Proofs.YtffiflfjlemggaaGreatDoor
open Go Go.RowKit
/-- T(i). -/
def hkT (prk info : List UInt8) : Nat → List UInt8
  | 0 => []
  | i + 1 => hmac prk (hkT prk info i ++ info ++ [UInt8.ofNat (i + 1)])
/-- T(1) to T(i), one after another. -/
def hkO (prk info : List UInt8) : Nat → List UInt8
  | 0 => []
  | i + 1 => hkO prk info i ++ hkT prk info (i + 1)
def hkdf (prk info : List UInt8) (n : Nat) : List UInt8 := (hkO prk info ((n + 31) / 32)).take n
variable {prk info : List UInt8}
theorem hkT_length (i : Nat) : (hkT prk info (i + 1)).length = 32 := by rw [hkT, hmac_length]
theorem hkT_le (i : Nat) : (hkT prk info i).length ≤ 32 := by
  cases i with
  | zero => simp [hkT]
  | succ i => rw [hkT_length]; exact Nat.le_refl _
theorem hkO_length : ∀ i, (hkO prk info i).length = 32 * i
  | 0 => rfl
  | i + 1 => by rw [hkO, List.length_append, hkO_length i, hkT_length]; omega
theorem hkO_take {i : Nat} : ∀ {j : Nat}, i ≤ j → (hkO prk info j).take (32 * i) = hkO prk info i
  | 0, h => by obtain rfl : i = 0 := by omega
               rfl
  | j + 1, h => by
    rcases Nat.lt_or_ge j i with hj | hj
    · obtain rfl : i = j + 1 := by omega
      rw [List.take_of_length_le (by rw [hkO_length]; exact Nat.le_refl _)]
    · rw [hkO, List.take_append_of_le_length (by rw [hkO_length]; omega)]
      exact hkO_take hj
theorem hkdf_length (n : Nat) : (hkdf prk info n).length = n := by rw [hkdf, List.length_take, hkO_length]; omega
theorem hkO_hkdf {n j : Nat} (h : n ≤ 32 * j) : (hkO prk info j).take n = hkdf prk info n := by
  have h1 : (n + 31) / 32 ≤ j := by omega
  rw [hkdf, ← hkO_take h1, List.take_take, Nat.min_eq_left (by omega)]
end Go.Proofs.YtffiflfjlemggaaGreatDoor
namespace Go.Proofs.YtffiflfjlemggaaGreatDoor
open Go Go.RowKit
set_option linter.unusedVariables false
set_option maxRecDepth 20000

theorem zero37 : ZeroIs Tryz.prog 37 (List.replicate 16 (.int .u8 0)) := by unfold ZeroIs; kernel_rfl
theorem size37 : SizeIs Tryz.prog 37 16 := by unfold SizeIs; kernel_rfl
theorem size52 : SizeIs Tryz.prog 52 32 := by unfold SizeIs; kernel_rfl
end Go.Proofs.YtffiflfjlemggaaGreatDoor
namespace Go.Proofs.YtffiflfjlemggaaGreatDoor
open Go Go.RowKit
variable {κ : Cx}
section
variable {P : Program} {n : Nat} {w₀ : World} {ops : Array Oper} {E : Env} {ty : TypeId} {pos : String} {after : Array Edge}
def YieldsX (P : Program) (N : Nat) (l : Nat) (arg : Nat → D) (J : Nat → World → Prop) {X : Type} (XE : X → Env) : Prop :=
  ∀ (i : Nat) (W : World) (u : Value) (x : X), i < N → J i W → (arg i).Of W u → (∀ p ∈ XE x, p.2.Of W undef) → YieldAt (FR none) 0 P l #[u] W fun e W' => e = .returned (.bool true) ∧ J (i + 1) W' ∧ W.heap.size ≤ W'.heap.size ∧ ∀ p ∈ XE x, p.2.Of W' undef
structure SeqsX (P : Program) (w₀ : World) (N : Nat) (l : Nat) (arg : Nat → D) (V : Nat → Env) (J : Nat → World → Prop) {X : Type} (XE : X → Env) : Prop where
  grow : ∀ i a b, J i a → Grow a b → J i b
  holds : ∀ i W, J i W → Holds w₀ (V i) W
  yields : YieldsX P N l arg J XE
theorem SeqsX.sub {N l : Nat} {arg : Nat → D} {V V' : Nat → Env} {J : Nat → World → Prop} {X : Type} {XE : X → Env} (h : SeqsX P w₀ N l arg V J XE) (hs : ∀ i, ∀ p ∈ V' i, p ∈ V i) : SeqsX P w₀ N l arg V' J XE :=
  ⟨h.grow, fun i W hJ => ⟨(h.holds i W hJ).1, (h.holds i W hJ).2.1, fun p hp => (h.holds i W hJ).2.2 p (hs i p hp)⟩, h.yields⟩
theorem eff_yieldX {N l : Nat} {arg : Nat → D} {V : Nat → Env} {J : Nat → World → Prop} {X : Type} {XE : X → Env} {d vJ : Nat} {fv x : Operand} {ex : D} {tys : Array TypeId} {E' : Env} (hq : SeqsX P w₀ N l arg V J XE) (z : X) (i : Nat) (hi : i < N)
    (hJ : E.look vJ = some (jD (J i))) (hf : E.at fv = some (.v (.func (.yield l) #[] #[]))) (hx : E.at x = some ex) (hle : Le ex (arg i)) (hd : d < n) (hV : ∀ p ∈ V (i + 1), vbase ≤ p.1) (hXv : ∀ p ∈ XE z, vbase ≤ p.1) (hXE : ∀ p ∈ XE z, E.look p.1 = some p.2) (hn : n ≤ vbase)
    (hl : Left w₀.heap.size E' E) :
    Eff P n w₀.heap.size ops ⟨some d, .call { callee := .value fv, args := #[x], argTypes := tys }, ty, pos, after, none⟩ E ((d, .v (.bool true)) :: (vJ, jD (J (i + 1))) :: (V (i + 1) ++ XE z ++ E')) := by
  intro κ a w K Q h hK
  have h1 : a.eval fv = _ := h.at_ fv _ hf
  have h2 := hle.of (h.at_ x _ hx)
  have hJw : J i w := jD_get (hq.grow i) (h.of vJ _ hJ)
  have hund : ∀ t, vbase ≤ t → a.tmps.getD t undef = undef := fun t ht => by
    rw [Array.getD_eq_getD_getElem?, Array.getElem?_eq_none (by rw [h.size]; omega)]; rfl
  obtain ⟨fn, tmps, assign, body, hy, hr⟩ := hq.yields i w _ z hi hJw h2 fun p hp => by
    have := h.of _ _ (hXE p hp)
    rwa [hund _ (hXv p hp)] at this
  rw [if_pos (by simp [Region.wanted])]
  refine ⟨fun _ _ => trivial, ?_⟩
  rw [Oper.semAt_eq _ _ _ (by nofun)]
  have hrun : (execOp a.eval ⟨some d, .call { callee := .value fv, args := #[x], argTypes := tys }, ty, pos, after, none⟩).run P w = .ok (.round l fn tmps assign body) w := by
    simp [execOp, resolve, Deferred.ofValue, h1, invoke, hy]
  rw [hrun, Oper.uponIn_round]
  refine ⟨fun e => absurd e (by simp [FR, Fence.wide]), RoundIn.mono (F := FR κ.rd) (n := 0) hr ?_⟩
  rintro e W' ⟨rfl, hJ', hs, hX'⟩
  obtain ⟨hb, hsz, hv⟩ := hq.holds _ _ hJ'
  have hb0 := (hq.holds _ _ hJw).1
  have hbel := below_two hb0 hb hs
  refine hK _ _ hbel (St.put ⟨hsz, h.defers, h.size, fun t e he => ?_⟩ hd rfl)
  by_cases hts : vJ = t
  · subst hts
    rw [look_here] at he; injection he with he; subst he
    exact jD_mk hJ'
  · rw [look_past _ _ hts] at he
    rcases List.mem_append.1 (look_mem he) with hm | hm
    · rcases List.mem_append.1 hm with hm | hm
      · have := hv _ hm
        rwa [hund t (hV _ hm)]
      · have := hX' _ hm
        rwa [hund t (hXv _ hm)]
    · obtain ⟨h7, h8⟩ := hl _ hm
      exact h8 _ _ _ hbel h.base (h.of t e h7)
/-- The end of a function that is ranged over. -/
theorem End.seqX {fn : Func} {N l : Nat} {arg : Nat → D} {V : Nat → Env} {J : Nat → World → Prop} {X : Type} {XE : X → Env} {vJ : Nat} (hq : SeqsX P w₀ N l arg V J XE) (hr : fn.results = #[]) (hJ : E.look vJ = some (jD (J N))) :
    End Cx.top w₀ n E (BP P fn (fun e W => (∃ v, e = .returned v) ∧ J N W) .normal) := fun a w _ hs => by
  show LeavesInM (FR none) 0 P fn a.tmps _ a.defers .returning w
  rw [show a.defers = [] from hs.defers]
  exact ⟨_, by simp [results, hr]; rfl, ⟨_, rfl⟩, jD_get (hq.grow N) (hs.of vJ _ hJ)⟩

/-- The loop's variable is a new block, filled with the round's value. -/
theorem assign_box {l tp t : Nat} {id : Nat} {ty ty' pos pos'} {e1 e2 : Array Edge} {T : TypeId} {zs ys : List Value} {E : Env} {a : Act} {w : World} (hz : ZeroIs P T zs) (hsz : SizeIs P T ys.length) (h1 : ys.all (·.oneCell') = true) (ho : zs.length = ys.length)
    (ht : t < n) (hne : t ≠ tp) (hb : w₀.heap.size ≤ w.heap.size) (h : St ⟨some l, []⟩ n w₀.heap.size ((tp, .v (aggV ys)) :: E) a w) :
    (Code.region id #[⟨some t, .alloc T, ty, pos, e1, none⟩, ⟨none, .store T (.tmp t) (.tmp tp), ty', pos', e2, none⟩] false).wpIn (FR (some l)) 0 P (fun e a' w' => e = .normal ∧ Grow w w' ∧ St ⟨some l, []⟩ n w₀.heap.size ((t, freshV w₀.heap.size [] T ys) :: (tp, .v (aggV ys)) :: E) a' w') a w := by
  obtain ⟨zi, zv, hzi, hzv, hzc⟩ := hz.get
  have ht' : t < a.tmps.size := by rw [h.size]; exact ht
  have hv : a.eval (.tmp tp) = aggV ys := h.at_ (.tmp tp) _ (look_here _ _ _)
  refine wpIn_region_list ?_
  obtain ⟨W1, hW1⟩ : ∃ W1, w.alloc (.cells zs.toArray T) = W1 := ⟨_, rfl⟩
  have hh : W1.heap[w.heap.size]? = some (.cells zs.toArray T (0, 0)) := by rw [← hW1]; exact heap_alloc_new w _
  have hg1 : Grow w W1 := by rw [← hW1]; exact Grow.alloc w _
  have hlt : w.heap.size < W1.heap.size := (Array.getElem?_eq_some_iff.1 hh).1
  refine wpListR_step (κ := ⟨some l, []⟩) fun K hK => ?_
  rw [if_pos (by simp [Region.wanted])]
  refine opR (by nofun) ?_
  unfold Oper.wp
  have hr1 : (execOp a.eval ⟨some t, .alloc T, ty, pos, e1, none⟩).run P w = .ok (.value (ptr w.heap.size)) W1 := by
    rw [← hW1]; simp [execOp, Instr.alloc, zeroValue, typeInfo, hzi, hzv, newVar, newRow, hzc]
  rw [hr1, Oper.upon_value]
  refine hK _ _ ?_
  refine wpListR_step (κ := ⟨some l, []⟩) fun K' hK' => ?_
  rw [if_pos (by simp [Region.wanted])]
  refine opR (by nofun) ?_
  unfold Oper.wp
  have hp : (a.put (some t) (ptr w.heap.size)).eval (.tmp t) = ptr w.heap.size := getD_put_here a _ ht'
  have hx : (a.put (some t) (ptr w.heap.size)).eval (.tmp tp) = aggV ys := (getD_put_past a _ hne).trans hv
  have hr2 : (execOp (a.put (some t) (ptr w.heap.size)).eval ⟨none, .store T (.tmp t) (.tmp tp), ty', pos', e2, none⟩).run P W1 = .ok .skip (W1.setRow w.heap.size ys.toArray) := by
    have := run_storeVar_row (P := P) W1 w.heap.size T T zs.toArray ys.toArray hh (by simpa [SizeIs] using hsz) (by simpa using ho) (by simpa using h1)
    simp [execOp, hp, hx, Instr.storeAt, Instr.sureAddr, aggV, this]
  rw [hr2, Oper.upon_skip]
  refine hK' _ _ (wpListIn_nil ?_)
  have hwr := Wrote.setRow (B := w.heap.size) (Nat.le_refl _) hh ys.toArray
  have hg2 : Grow w (W1.setRow w.heap.size ys.toArray) := Below.trans hg1 (hwr.below (Nat.le_of_lt hlt))
  refine ⟨rfl, hg2, ?_⟩
  have hst := h.grow hg2
  exact St.put (t := t) (d := freshV w₀.heap.size [] T ys) (h.grow hg2) ht ⟨w.heap.size, rfl, hb, (fun _ h => by cases h), by simpa using hlt, setRow_heap W1 _ _ _ T _ hh⟩

theorem A.rangeX {X : Type} {XE : X → Env} {Q : Exit → Act → World → Prop} {g : Operand} {tp gf N vL vD : Nat} {assign body : Code} {lb : List Value} {S : Env} {V : Nat → Env} {Eb : Nat → X → Env} {arg : Nat → D} (hg : E.at g = some (.v (.func (.func gf) #[] lb.toArray)))
    (hgf : ∃ fn, P.funcs[gf]? = some fn ∧ (fn.name == "runtime.NumGoroutine") = false ∧ fn.body.isNone = false) (htp : tp < n) (hn : n ≤ vbase) (h0 : Sub (V 0 ++ S) E)
    (hS : ∀ p ∈ S, p.1 < vbase ∧ ((∃ x, p.2 = .v x) ∨ ∃ d, p.2 = old w₀.heap.size d)) (hV : ∀ i, ∀ p ∈ V i, vbase ≤ p.1) (hX : ∀ x, ∀ p ∈ XE x, vbase ≤ p.1) (hfX : ∀ x l, w₀.heap.size ≤ l → ∀ p ∈ XE x, Firm l p.2)
    (hfV : ∀ i l, w₀.heap.size ≤ l → ∀ p ∈ V i, Firm l p.2) (hfE : ∀ i x l, w₀.heap.size ≤ l → ∀ p ∈ Eb i x, Firm l p.2)
    (hseq : ∀ (J : Nat → World → Prop) (l : Nat) (w : World), SeqsX P w₀ N l arg V J XE → J 0 w → Calls P gf (.func (.yield l) #[] #[] :: lb).toArray w fun e W => (∃ v, e = .returned v) ∧ J N W)
    (hassign : ∀ i l a w x, i < N → w₀.heap.size ≤ w.heap.size → St ⟨some l, []⟩ n w₀.heap.size ((tp, arg i) :: (V i ++ S ++ XE x)) a w → assign.wpIn (FR (some l)) 0 P (fun e a' w' => e = .normal ∧ Grow w w' ∧ St ⟨some l, []⟩ n w₀.heap.size (Eb i x) a' w') a w)
    (hbody : ∀ i l D r m x, i < N → A ⟨some l, []⟩ P w₀ n body ((vL, recD l (.loop r) m) :: (vD, recD D (.deferred (some [])) 0) :: Eb i x) (RoundQ w₀ ((vL, recD l (.loop r) m) :: (vD, recD D (.deferred (some [])) 0) :: (V (i + 1) ++ XE x))))
    (hend : ∀ D, w₀.heap.size ≤ D → End ⟨none, [{ target := .collected D, args := #[] }]⟩ w₀ n ((vD, recD D (.deferred (some [])) 0) :: (V N ++ S)) (Q .normal)) :
    A ⟨none, []⟩ P w₀ n (.rangeFunc g #[tp] assign body) E Q := fun a w hb hst => by
  show (Code.rangeFunc g #[tp] assign body).wpIn (FR none) 0 P Q a w
  refine wpIn_rangeFunc fun fn _ => ?_
  obtain ⟨rec, hrec⟩ : ∃ rec : LoopState → Option Code → Loop, rec = fun st pe => { state := st, pending := pe, fn, tmps := a.tmps, params := #[tp], assign, body, defers := w.heap.size } := ⟨_, rfl⟩
  obtain ⟨W1, hW1⟩ : ∃ W1, (w.alloc (.deferred (some []))).alloc (.loop (rec .ready none)) = W1 := ⟨_, rfl⟩
  have hg' : a.eval g = .func (.func gf) #[] lb.toArray := hst.at_ g _ hg
  obtain ⟨gfn, hf1, hf2, hf3⟩ := hgf
  have eg : ∀ args w, (callFunc gf args).run P w = .ok (.enter gf args) w := fun args w => by
    have h2' : ¬ gfn.name = "runtime.NumGoroutine" := by simpa using hf2
    have h3' : ¬ gfn.body = none := by intro h; rw [h] at hf3; cases hf3
    simp [callFunc, hf1, h2', h3']
  have hgr : Grow w W1 := by
    rw [← hW1]; exact (Grow.alloc w _).trans (Grow.alloc _ _)
  have hL1 : W1.heap[w.heap.size + 1]? = some (.loop (rec .ready none)) := by
    rw [← hW1]; have := World.alloc_heap_new (w.alloc (.deferred (some []))) (.loop (rec .ready none)); rwa [World.size_alloc] at this
  have hK1 : W1.heap[w.heap.size]? = some (.deferred (some [])) := by
    rw [← hW1]; exact (Below.heap_alloc _ _ _ (by simp)).trans (World.alloc_heap_new w _)
  have hund : ∀ t, vbase ≤ t → a.tmps.getD t undef = undef := fun t ht => by
    rw [Array.getD_eq_getD_getElem?, Array.getElem?_eq_none (by rw [hst.size]; omega)]; rfl
  have hH0 : Holds w₀ (V 0) w := ⟨hb, hst.base, fun p hp => by
    have h1 := hst.of p.1 p.2 (h0 p (List.mem_append_left _ hp))
    rwa [hund _ (hV 0 p hp)] at h1⟩
  -- what holds between two rounds
  have hstS : ∀ (κ' : Cx) (i : Nat) (W : World) (a' : Act) (E' : Env), κ'.df = a'.defers → a'.tmps.size = n → Holds w₀ (V i) W → w.heap.size ≤ W.heap.size → (∀ t e, E'.look t = some e → e.Of W (a'.tmps.getD t undef) ∨ ((t, e) ∈ V i ++ S ∧ (t < vbase → a'.tmps.getD t undef = a.tmps.getD t undef))) → St κ' n w₀.heap.size E' a' W := by
    intro κ' i W a' E' hd hsz hH hs hE
    refine ⟨hH.2.1, hd.symm, hsz, fun t e he => ?_⟩
    rcases hE t e he with h | ⟨hm, hsame⟩
    · exact h
    · rcases List.mem_append.1 hm with hm | hm
      · have h1 := hH.2.2 _ hm
        have ht := hV i _ hm
        simp only at ht
        rwa [Array.getD_eq_getD_getElem?, Array.getElem?_eq_none (by rw [hsz]; omega)]
      · obtain ⟨ht, hk⟩ := hS _ hm
        rw [hsame ht]
        have h1 := hst.of t e (h0 _ (List.mem_append_right _ hm))
        rcases hk with ⟨x, hx⟩ | ⟨d, hd'⟩
        · simp only at hx; subst hx; exact h1
        · simp only at hd'; subst hd'
          exact ⟨hH.2.1, D.OfB.keep h1.2 (below_two hb hH.1 hs)⟩
  refine ⟨w.heap.size + 1, [{ target := .collected w.heap.size, args := #[] }], W1, { target := .fn (.func gf) lb.toArray, args := #[.func (.yield (w.heap.size + 1)) #[] #[]] }, W1, gf,
    #[.func (.yield (w.heap.size + 1)) #[] #[]] ++ lb.toArray, W1, ?_, ?_, fun _ _ => trivial, ?_, fun e => absurd e (by simp [FR, Fence.wide]), ?_⟩
  · rw [← hW1, hrec]; exact run_enterLoop_outer _ _ _ _ _
  · have hy : a.eval (.const (.func (.yield (w.heap.size + 1)) #[] #[])) = .func (.yield (w.heap.size + 1)) #[] #[] := rfl
    simp only [resolve, hg']
    simp [Deferred.ofValue, hy]
  · simp [invoke, eg]
  · have harr : (#[.func (.yield (w.heap.size + 1)) #[] #[]] ++ lb.toArray : Array Value) = (.func (.yield (w.heap.size + 1)) #[] #[] :: lb).toArray := by simp
    rw [harr]
    refine callsIn_FR.2 ((hseq (fun i W => Holds w₀ (V i) W ∧ W.heap[w.heap.size + 1]? = some (.loop (rec .ready none)) ∧ W.heap[w.heap.size]? = some (.deferred (some []))) (w.heap.size + 1) W1 ⟨?_, fun i W h => h.1, ?_⟩ ⟨hH0.grow hgr, hL1, hK1⟩).mono ?_)
    · rintro i x y ⟨h1, h2, h3⟩ k
      exact ⟨h1.grow k, (k.block _ (Array.getElem?_eq_some_iff.1 h2).1).trans h2, (k.block _ (Array.getElem?_eq_some_iff.1 h3).1).trans h3⟩
    · -- one round
      rintro i W u x hi ⟨hH, hl, hk⟩ hu hXE
      have hlt : w.heap.size + 1 < W.heap.size := (Array.getElem?_eq_some_iff.1 hl).1
      have hBl : w₀.heap.size ≤ w.heap.size + 1 := by have := hst.base; omega
      have hy := run_yield (P := P) (args := #[u]) hl (by rw [hrec]; rfl)
      rw [hrec] at hy
      refine ⟨fn, _, assign, body, hy, roundIn_of_wpIn (F := FR none) trivial ?_⟩
      have htm : (List.foldl (fun (tmps : Array Value) (x : Tmp × Value) => tmps.setIfInBounds x.1 x.2) a.tmps ((#[tp].zip #[u]).toList)) = a.tmps.setIfInBounds tp u := by simp
      have hsta : St ⟨some (w.heap.size + 1), []⟩ n w₀.heap.size ((tp, arg i) :: (V i ++ S ++ XE x)) { tmps := a.tmps.setIfInBounds tp u, defers := [] } W := by
        refine hstS _ i W _ _ rfl (by simp [hst.size]) hH (by omega) fun t e he => ?_
        by_cases hts : tp = t
        · subst hts
          rw [look_here] at he; injection he with he; subst he
          left
          have : tp < a.tmps.size := by rw [hst.size]; exact htp
          simpa [this] using hu
        · rw [look_past _ _ hts] at he
          rcases List.mem_append.1 (look_mem he) with hm | hm
          · exact .inr ⟨hm, fun _ => by simp [Array.getElem?_setIfInBounds_ne hts]⟩
          · left
            have h1 := hXE _ hm
            have h2 := hX x _ hm
            simp only at h2 h1
            have h3 : ({ tmps := a.tmps.setIfInBounds tp u, defers := [] } : Act).tmps.getD t undef = undef := by
              rw [Array.getD_eq_getD_getElem?, Array.getElem?_eq_none (by simp [hst.size]; omega)]; rfl
            rw [h3]; exact h1
      have has := hassign i (w.heap.size + 1) _ W x hi hH.2.1 hsta
      have hrun0 : ({ tmps := Array.foldl (fun (tmps : Array Value) (x : Tmp × Value) => tmps.setIfInBounds x.1 x.2) a.tmps (#[tp].zip #[u]), defers := [] } : Act) = { tmps := a.tmps.setIfInBounds tp u, defers := [] } := by simp
      show assign.wpIn (FR (some (w.heap.size + 1))) 0 P _ _ W
      refine wpIn_mono (F := FR (some (w.heap.size + 1))) (n := 0) (by first | exact has | (rw [← hrun0] at has; exact has)) ?_
      rintro e a1 W2 ⟨rfl, hg2, hst2⟩
      have hl2 : W2.heap[w.heap.size + 1]? = some (.loop (rec .ready none)) := (hg2.block _ hlt).trans hl
      have hk2 : W2.heap[w.heap.size]? = some (.deferred (some [])) := (hg2.block _ (by omega)).trans hk
      have hH2 := hH.grow hg2
      have hlt2 : w.heap.size + 1 < W2.heap.size := (Array.getElem?_eq_some_iff.1 hl2).1
      refine ⟨_, run_beginRound hl2 (by rw [hrec]), ?_⟩
      have hl3 : (W2.putObj (w.heap.size + 1) (.loop { rec .ready none with state := .busy })).heap[w.heap.size + 1]? = some (.loop { rec .ready none with state := .busy }) := World.putObj_heap_same hlt2
      have hk3 : (W2.putObj (w.heap.size + 1) (.loop { rec .ready none with state := .busy })).heap[w.heap.size]? = some (.deferred (some [])) := (World.putObj_heap_other (by omega)).trans hk2
      have hH3 := hH2.putObj (.loop { rec .ready none with state := .busy }) hl2 rfl hBl (hfV i _ hBl)
      have hst3 : St ⟨some (w.heap.size + 1), []⟩ n w₀.heap.size ((vL, recD (w.heap.size + 1) (.loop { rec .ready none with state := .busy }) W.heap.size) :: (vD, recD w.heap.size (.deferred (some [])) 0) :: Eb i x) a1 (W2.putObj (w.heap.size + 1) (.loop { rec .ready none with state := .busy })) := by
        refine ⟨hH3.2.1, hst2.defers, hst2.size, fun t e he => ?_⟩
        by_cases hts : vL = t
        · subst hts
          rw [look_here] at he; injection he with he; subst he
          exact ⟨by simpa using hlt2, by simpa using hg2.size, hl3⟩
        · rw [look_past _ _ hts] at he
          by_cases hts' : vD = t
          · subst hts'
            rw [look_here] at he; injection he with he; subst he
            exact ⟨by simp; omega, Nat.zero_le _, hk3⟩
          · rw [look_past _ _ hts'] at he
            exact hfE i x _ hBl _ (look_mem he) W2 _ _ _ hl2 rfl (hst2.of t e he)
      refine wpIn_mono (F := FR (some (w.heap.size + 1))) (n := 0) (hbody i _ _ _ _ x hi a1 _ hH3.1 hst3) ?_
      rintro e a3 W3 hp
      cases e with
      | normal =>
        obtain ⟨hb3, hs3, hv3⟩ := hp
        obtain ⟨hlt3, hm3, hl4⟩ := hv3 _ List.mem_cons_self
        obtain ⟨_, _, hk4⟩ := hv3 _ (List.mem_cons_of_mem _ List.mem_cons_self)
        have hH4 : Holds w₀ (V (i + 1)) W3 := ⟨hb3, hs3, fun p hp => hv3 p (List.mem_cons_of_mem _ (List.mem_cons_of_mem _ (List.mem_append_left _ hp)))⟩
        have hX4 : ∀ p ∈ XE x, p.2.Of W3 undef := fun p hp => hv3 p (List.mem_cons_of_mem _ (List.mem_cons_of_mem _ (List.mem_append_right _ hp)))
        have hend := run_endRound (P := P) none hl4
        refine ⟨_, _, hend, rfl, ⟨hH4.putObj _ hl4 rfl hBl (hfV _ _ hBl), ?_, (World.putObj_heap_other (by omega)).trans hk4⟩, by simpa using hm3, fun p hp => hfX x _ hBl p hp W3 _ _ _ hl4 rfl (hX4 p hp)⟩
        have := World.putObj_heap_same (o := .loop { { rec .ready none with state := .busy } with state := .ready, pending := none }) hlt3
        rw [hrec] at this ⊢
        exact this
      | _ => exact hp.elim
    · -- behind it
      rintro e W2 ⟨⟨v, rfl⟩, hH, hl, hk⟩
      have hBl : w₀.heap.size ≤ w.heap.size + 1 := by have := hst.base; omega
      have hlt2 : w.heap.size + 1 < W2.heap.size := (Array.getElem?_eq_some_iff.1 hl).1
      have hel := run_endLoop (P := P) hl (by rw [hrec]; simp)
      refine ⟨none, _, by rw [hrec] at hel; exact hel, ?_⟩
      have hH3 := hH.putObj (.loop { state := .exhausted, pending := none, fn, tmps := a.tmps, params := #[tp], assign, body, defers := w.heap.size }) hl rfl hBl (hfV N _ hBl)
      refine hend w.heap.size hst.base _ _ hH3.1 (hstS _ N _ _ _ (by simp [hst.defers]) hst.size hH3 (by simp; omega) fun t e he => ?_)
      by_cases hts : vD = t
      · subst hts
        rw [look_here] at he; injection he with he; subst he
        exact .inl ⟨by simp; omega, Nat.zero_le _, (World.putObj_heap_other (by omega)).trans hk⟩
      · rw [look_past _ _ hts] at he
        exact .inr ⟨look_mem he, fun _ => rfl⟩


/-- return of values, from a function in which a range over a function ended. -/
theorem End.ret2C {fn : Func} {D vD r₁ r₂ : Nat} {f₁ f₂ d₁ d₂ : Go.Proofs.YtffiflfjlemggaaGreatDoor.D} {m : Nat} (hD : E.look vD = some (recD D (.deferred (some [])) m)) (hDB : w₀.heap.size ≤ D) (hr : fn.results = #[.tmp r₁, .tmp r₂])
    (h1 : E.look r₁ = some f₁) (hf1 : Firm D f₁) (hl1 : Le f₁ d₁) (h2 : E.look r₂ = some f₂) (hf2 : Firm D f₂) (hl2 : Le f₂ d₂) : End ⟨none, [{ target := .collected D, args := #[] }]⟩ w₀ n E (BP P fn (PostOf w₀ (tup [d₁, d₂])) .ret) := fun a w g hs => by
  obtain ⟨hlt, _, hk⟩ := hs.of vD _ hD
  have k1 := hl1.of (hf1 w _ (.deferred none) _ hk rfl (hs.of r₁ _ h1))
  have k2 := hl2.of (hf2 w _ (.deferred none) _ hk rfl (hs.of r₂ _ h2))
  show LeavesInM (FR none) 0 P fn a.tmps _ a.defers .returning w
  rw [show a.defers = [{ target := .collected D, args := #[] }] from hs.defers]
  refine ⟨by simp, .inl ⟨D, _, rfl, run_takeDeferred hk, ?_⟩⟩
  refine ⟨.tuple #[a.tmps.getD r₁ undef, a.tmps.getD r₂ undef], by simp [results, hr], _, rfl, Below.trans g (below_putObj w _ hDB), [a.tmps.getD r₁ undef, a.tmps.getD r₂ undef], rfl, rfl, fun j e u he hu => ?_⟩
  match j, he, hu with
  | 0, he, hu => simp only [List.getElem?_cons_zero, Option.some.injEq] at he hu; subst he; subst hu; exact k1
  | 1, he, hu => simp only [List.getElem?_cons_succ, List.getElem?_cons_zero, Option.some.injEq] at he hu; subst he; subst hu; exact k2
  | j + 2, he, _ => simp at he
end
end Go.Proofs.YtffiflfjlemggaaGreatDoor
namespace Go.Proofs.YtffiflfjlemggaaGreatDoor
open Go Go.RowKit
set_option linter.unusedVariables false
set_option maxRecDepth 20000
theorem zero22 : ZeroIs Tryz.prog 22 [.slice none 0 0] := by unfold ZeroIs; kernel_rfl

theorem zero58 : ZeroIs Tryz.prog 58 (List.replicate 16 (.int .u8 0) ++ List.replicate 32 (.int .u8 0)) := by unfold ZeroIs; kernel_rfl
theorem size58 : SizeIs Tryz.prog 58 48 := by unfold SizeIs; kernel_rfl
theorem field58_0 : FieldIs Tryz.prog 58 0 0 16 := by unfold FieldIs; kernel_rfl
theorem field58_1 : FieldIs Tryz.prog 58 1 16 32 := by unfold FieldIs; kernel_rfl
theorem Extract_fn (k m : List UInt8) (hk : k.length ≤ 1000) (hm : m.length ≤ 10000) : FnM Tryz.prog 14 tabs [byt k, byt m] (.v (aggV ((hmac k m).map byteV))) := by
 refine FnM.of Tryz.func14 rfl (by kernel_rfl) Tryz.ntmps14 (by simp) (by decide) (fun w => [(0, old w.heap.size (byt k)), (1, old w.heap.size (byt m)), (1900000, tab 0 (H8.list.map u32V)), (1900001, tab 1 (K64.map u32V))]) (fun w => (StartM.old rfl (StartM.old rfl (StartM.m (by simp [tabs]) (by decide) (StartM.m (by simp [tabs]) (by decide) StartM.nil))))) fun w₀ hM => ?_
 have htab := tabs_hi hM
 refine GS ?_
 refine TN 0 ?_
 refine RN ?_
 refine ZN 1000004 zero31 fun b4 ⟨hBb4, hb4⟩ => ?_
 refine TL ?_
 refine RN ?_
 refine GS ?_
 refine TF 4 ?_
 refine RV 2 rfl ?_
 refine RS (ok_build [old w₀.heap.size (byt m)] Tryz.underlying103 info22 rfl (by decide) (by decide) rfl ⟨rfl, rfl, trivial⟩ (fun d hd w x h => by simp only [List.mem_cons, List.not_mem_nil, or_false] at hd; subst hd; exact old_one (fun _ _ h => lst_one h) h)) ?_
 refine RS (ok_callM (macOf_fn k [m] m (by simp) hk (by simp) hm) (Sub.cons rfl (Sub.cons rfl KN)) tabs_v (Args.cons rfl (Le.old _ _) (Args.cons rfl (list_lst1 (Le.old _ _)) Args.nil))) ?_
 refine RN ?_
 refine ⟨_, eff_storeA (n := 9) (s := 1000004) (size31.of (by rw [List.length_map, hmac_length])) rfl rfl (all_bytes _) hBb4 rfl (by rw [List.length_map, hmac_length, List.length_replicate]) (LV 4 rfl (LeftS.cons (t := 1900000) rfl (Surv.tab (by omega)) (LeftS.cons (t := 1900001) rfl (Surv.tab (by omega)) LN))), ?_⟩
 refine TL ?_
 refine RN ?_
 refine A.ret ?_
 exact End.cell1 (s := 1000004) rfl Tryz.underlying31 rfl (size31.of (by rw [List.length_map, hmac_length])) rfl rfl (Le.refl _)
theorem tags_fnB (d₀ d₁ : D) (n : Int) (h₀ : ∀ w u, d₀.Of w u → u.oneCell' = true) (h₁ : ∀ w u, d₁.Of w u → u.oneCell' = true) : FnB Tryz.prog 46 [d₀, d₁, .v (.int .i64 n)] (fun B => clos3 B 104 3 (.v (.int .i64 n)) 22 d₀ 22 d₁) := by
 refine FnB.of Tryz.func46 rfl (by kernel_rfl) Tryz.ntmps46 (by simp) (fun w => [(0, old w.heap.size (d₀)), (1, old w.heap.size (d₁)), (2, .v (.int .i64 n))]) (fun w => (Start.old rfl (Start.old rfl (Start.v rfl Start.nil)))) fun w₀ => ?_
 refine GS ?_
 refine TN 0 ?_
 refine RN ?_
 refine ⟨_, _, eff_boxD (n := 8) (d := 3) (k := 1000003) rfl (fun w u h => h₀ w u ((Le.old _ _).of h)) (by decide), fun b3 hb3 => ?_⟩
 have hBb3 := hb3.1
 refine TN 1 ?_
 refine RN ?_
 refine ⟨_, _, eff_boxD (n := 8) (d := 4) (k := 1000004) rfl (fun w u h => h₁ w u ((Le.old _ _).of h)) (by decide), fun b4 hb4 => ?_⟩
 have hBb4 := hb4.1
 have hlt_b3_b4 : b3 < b4 := hb4.2.2 1000003 _ _ _ rfl
 refine TN 2 ?_
 refine RN ?_
 refine ⟨_, _, eff_boxD (n := 8) (d := 5) (k := 1000005) rfl (fun w u h => v_one rfl h) (by decide), fun b5 hb5 => ?_⟩
 have hBb5 := hb5.1
 have hlt_b3_b5 : b3 < b5 := hb5.2.2 1000003 _ _ _ rfl
 have hlt_b4_b5 : b4 < b5 := hb5.2.2 1000004 _ _ _ rfl
 refine TL ?_
 refine RVN 1 rfl ?_
 refine GT ?_
 refine RS (ok_makeFuncN [ptr b5, ptr b3, ptr b4] ⟨rfl, rfl, rfl, trivial⟩) ?_
 refine RVN 1 rfl ?_
 refine A.ret ?_
 exact End.clos3 rfl ⟨hBb5, hBb3, hBb4⟩ ⟨by omega, by omega, by omega⟩ rfl (k₁ := 1000005) (k₂ := 1000003) (k₃ := 1000004) rfl (Le.refl _) rfl (Le.old _ _) rfl (Le.old _ _)
theorem tags1_seq {w₀ : World} {N l p q r : Nat} {J : Nat → World → Prop} {prk info : List UInt8} (hN : N ≤ 255) (hp : prk.length ≤ 1000) (hi : info.length ≤ 1000) (htab : 1 < w₀.heap.size)
  (hq : SeqsX Tryz.prog w₀ N l (fun i => .v (aggV ((hkT prk info (i + 1)).map byteV))) (fun _ => [(1000091, varD p 3 (.v (.int .i64 ((N : Nat) : Int)))), (1000092, varD q 22 (old w₀.heap.size (byt prk))), (1000093, varD r 22 (old w₀.heap.size (byt info))), (1900000, tab 0 (H8.list.map u32V)), (1900001, tab 1 (K64.map u32V))]) J (fun z : Nat × List Value => [(1000007, blk z.1 31 z.2)])) {w : World} (h0 : J 0 w) :
  Calls Tryz.prog 104 (.func (.yield l) #[] #[] :: [ptr p, ptr q, ptr r] : List Value).toArray w fun e W => (∃ v, e = .returned v) ∧ J N W := by
 obtain ⟨hb, hs, hV⟩ := hq.holds 0 w h0
 refine Calls.within (n := 27) (E := [(0, .v (.func (.yield l) #[] #[])), (1, .v (ptr p)), (2, .v (ptr q)), (3, .v (ptr r)), (1000090, jD (J 0)), (1000091, varD p 3 (.v (.int .i64 ((N : Nat) : Int)))), (1000092, varD q 22 (old w₀.heap.size (byt prk))), (1000093, varD r 22 (old w₀.heap.size (byt info))), (1900000, tab 0 (H8.list.map u32V)), (1900001, tab 1 (K64.map u32V))]) Tryz.func104 rfl Tryz.ntmps104 (by simp) (by decide) hb hs ?_ ?_
 ·intro x hx
  simp only [List.mem_cons, List.not_mem_nil, or_false] at hx
  rcases hx with rfl | rfl | rfl | rfl | rfl | rfl | rfl | rfl | rfl | rfl
  ·exact .inr ⟨_, rfl, rfl⟩
  ·exact .inr ⟨_, rfl, rfl⟩
  ·exact .inr ⟨_, rfl, rfl⟩
  ·exact .inr ⟨_, rfl, rfl⟩
  ·exact .inl ⟨vle rfl, jD_mk h0⟩
  ·exact .inl ⟨vle rfl, hV _ (by simp)⟩
  ·exact .inl ⟨vle rfl, hV _ (by simp)⟩
  ·exact .inl ⟨vle rfl, hV _ (by simp)⟩
  ·exact .inl ⟨vle rfl, hV _ (by simp)⟩
  ·exact .inl ⟨vle rfl, hV _ (by simp)⟩
 refine GV rfl ?_
 refine GT ?_
 refine RS (ok_loadD (s := 1000091) (by decide) Tryz.underlying3 rfl rfl rfl) ?_
 refine RVN 1 rfl ?_
 refine A.block ?_
 refine A.subL (SubL.cons (t := 0) rfl (Le.refl _) (SubL.cons (t := 2) rfl (Le.refl _) (SubL.cons (t := 3) rfl (Le.refl _) (SubL.cons (t := 5) rfl (byt_nil_le) (SubL.cons (t := 8) rfl (Le.refl _) (SubL.cons (t := 9) rfl (Le.refl _) (SubL.cons (t := 1000090) rfl (Le.refl _) (SubL.cons (t := 1000091) rfl (Le.refl _) (SubL.cons (t := 1000092) rfl (Le.refl _) (SubL.cons (t := 1000093) rfl (Le.refl _) (SubL.cons (t := 1900000) rfl (Le.refl _) (SubL.cons (t := 1900001) rfl (Le.refl _) SubL.nil)))))))))))) ?_
 refine A.loop (ι := Nat) (fun i => i ≤ N) (fun i => [(0, .v (.func (.yield l) #[] #[])), (2, .v (ptr q)), (3, .v (ptr r)), (5, byt (hkT prk info i)), (8, .v (.int .i64 ((N : Nat) : Int))), (9, .v (.int .i64 ((i : Nat) : Int))), (1000090, jD (J i)), (1000091, varD p 3 (.v (.int .i64 ((N : Nat) : Int)))), (1000092, varD q 22 (old w₀.heap.size (byt prk))), (1000093, varD r 22 (old w₀.heap.size (byt info))), (1900000, tab 0 (H8.list.map u32V)), (1900001, tab 1 (K64.map u32V))]) (fun i => N - i) 0 ?_ ?_ ?_
 ·exact Nat.zero_le _
 ·exact (KC 0 rfl (KC 2 rfl (KC 3 rfl (KE 5 rfl (by rfl) (KC 8 rfl (KC 9 rfl (KC 1000090 rfl (KC 1000091 rfl (KC 1000092 rfl (KC 1000093 rfl (KC 1900000 rfl (KC 1900001 rfl KN))))))))))))
 intro i hi'
 refine GV rfl ?_
 refine QS ?_
 refine A.cond rfl (fun hc10 => ?_) (fun hc10 => ?_)
 ·have hlt : i < N := by simp at hc10; omega
  refine QK ?_
  refine QSB ?_
  refine GV rfl ?_
  refine A.regsH _ (fun B => (OldH.same (t := 0) rfl (OldH.same (t := 2) rfl (OldH.same (t := 3) rfl (OldH.p (t := 5) rfl (OldH.same (t := 6) rfl (OldH.same (t := 8) rfl (OldH.same (t := 9) rfl (OldH.p (t := 1000090) rfl (OldH.same (t := 1000091) rfl (OldH.same (t := 1000092) rfl (OldH.same (t := 1000093) rfl (OldH.same (t := 1900000) rfl (OldH.same (t := 1900001) rfl OldH.nil)))))))))))))) (by kernel_rfl) (by kernel_rfl) (.inl rfl) (fun B hB => ?_)
  refine TN 9 ?_
  refine RS (ok_loadD (s := 1000092) (by decide) Tryz.underlying22 rfl rfl rfl) ?_
  refine RM rfl ?_
  refine RS (ok_loadD (s := 1000093) (by decide) Tryz.underlying22 rfl rfl rfl) ?_
  refine RV 2 rfl ?_
  refine RZ (.int .i64 ((i + 1 : Nat) : Int)) (by rw [wrap_i64 (by omega) (by omega)]; first | rfl | (congr 1; omega)) ?_
  refine RS (ok_conv Tryz.underlying3 Tryz.underlying5 rfl) ?_; refine RZ (byteV (UInt8.ofNat (i + 1))) (by rw [wrap_u8_nat]; rfl) ?_
  refine RS (ok_build [byteD (UInt8.ofNat (i + 1))] Tryz.underlying22 info5 rfl (by decide) (by decide) rfl ⟨rfl, rfl, trivial⟩ (fun d hd w x h => by simp only [List.mem_cons, List.not_mem_nil, or_false] at hd; rcases hd with rfl; exact v_one rfl h)) ?_
  refine RS (ok_build [old B (byt (hkT prk info i)), old w₀.heap.size (byt info), list [byteD (UInt8.ofNat (i + 1))] 1] Tryz.underlying103 info22 rfl (by decide) (by decide) rfl ⟨rfl, rfl, rfl, rfl, rfl, rfl, trivial⟩ (fun d hd w x h => by simp only [List.mem_cons, List.not_mem_nil, or_false] at hd; rcases hd with rfl | rfl | rfl <;> first | exact old_one (fun _ _ h => lst_one h) h | exact list_one h)) ?_
  refine RS (ok_callM (macOf_fn prk [(hkT prk info i), info, [UInt8.ofNat (i + 1)]] ((hkT prk info i) ++ info ++ [UInt8.ofNat (i + 1)]) (by simp) hp (by simp) (by have := hkT_le (prk := prk) (info := info) i; simp only [List.length_append, List.length_cons, List.length_nil]; omega)) (Sub.cons rfl (Sub.cons rfl KN)) tabs_v (Args.cons rfl (Le.old _ _) (Args.cons rfl (list_lst3 (Le.old _ _) (Le.old _ _) (le_byt [UInt8.ofNat (i + 1)] 1)) Args.nil))) ?_; refine RZ (aggV ((hkT prk info (i + 1)).map byteV)) (rfl) ?_
  refine RN ?_
  refine ⟨_, _, eff_allocN (n := 27) (d := 7) (k := 1000007) zero31 (by decide), fun b7 hb7 => ?_⟩
  have hBb7 := hb7.1
  refine TF 10 ?_
  refine RN ?_
  refine ⟨_, eff_storeA (n := 27) (s := 1000007) (size31.of (by rw [List.length_map, hkT_length])) rfl rfl (all_bytes _) hBb7 rfl (by rw [List.length_map, hkT_length, List.length_replicate]) (LO 1000090 rfl (LeftS.cons (t := 1000091) rfl (Surv.varDT (by decide) (Surv.v _)) (LeftS.cons (t := 1000092) rfl (Surv.varDT (by decide) (Surv.old (by omega))) (LeftS.cons (t := 1000093) rfl (Surv.varDT (by decide) (Surv.old (by omega))) (LeftS.cons (t := 1900000) rfl (Surv.tab (by omega)) (LeftS.cons (t := 1900001) rfl (Surv.tab (by omega)) (LW [0, 2, 3, 7, 8, 9] rfl))))))), ?_⟩
  refine TL ?_
  refine RN ?_
  refine A.sub (SV [0, 2, 3, 7, 8, 9, 1000007, 1000090, 1000091, 1000092, 1000093, 1900000, 1900001] rfl) ?_
  refine A.subL (SubL.cons (t := 0) rfl (Le.refl _) (SubL.cons (t := 2) rfl (Le.refl _) (SubL.cons (t := 3) rfl (Le.refl _) (SubL.cons (t := 7) rfl (Le.refl _) (SubL.cons (t := 8) rfl (Le.refl _) (SubL.cons (t := 9) rfl (Le.refl _) (SubL.cons (t := 1000007) rfl (Le.refl _) (SubL.cons (t := 1000090) rfl (Le.old _ _) (SubL.cons (t := 1000091) rfl (Le.refl _) (SubL.cons (t := 1000092) rfl (Le.refl _) (SubL.cons (t := 1000093) rfl (Le.refl _) (SubL.cons (t := 1900000) rfl (Le.refl _) (SubL.cons (t := 1900001) rfl (Le.refl _) SubL.nil))))))))))))) ?_
  refine QS ?_
  refine GS ?_
  refine TF 2 ?_
  refine RM rfl ?_
  refine RS (ok_loadA (s := 1000007) (by decide) Tryz.underlying31 rfl (size31.of (by rw [List.length_map, hkT_length])) rfl rfl) ?_
  refine RN ?_
  refine ⟨_, eff_yieldX (vJ := 1000090) hq (b7, (hkT prk info (i + 1)).map byteV) i hlt rfl rfl rfl (Le.refl _) (by decide) (fun p hp => by simp only [List.mem_cons, List.not_mem_nil, or_false] at hp; rcases hp with rfl | rfl | rfl | rfl | rfl <;> exact vle rfl) (fun p hp => by simp only [List.mem_cons, List.not_mem_nil, or_false] at hp; rcases hp with rfl; exact vle rfl) (fun p hp => by simp only [List.mem_cons, List.not_mem_nil, or_false] at hp; rcases hp with rfl; rfl) (by decide) (Left.cons (t := 0) rfl (Stays.v _ _) (Left.cons (t := 2) rfl (Stays.v _ _) (Left.cons (t := 3) rfl (Stays.v _ _) (Left.cons (t := 7) rfl (Stays.v _ _) (Left.cons (t := 8) rfl (Stays.v _ _) (Left.cons (t := 9) rfl (Stays.v _ _) (Left.cons (t := 1900000) rfl (Stays.tab (by omega)) (Left.cons (t := 1900001) rfl (Stays.tab (by omega)) Left.nil)))))))), ?_⟩
  refine TL ?_
  refine RS (ok_not rfl) ?_; refine RZ (.bool false) (rfl) ?_
  refine RN ?_
  refine A.no rfl ?_
  refine QK ?_
  refine GTE ?_
  refine RS ((ok_sliceA (s := 1000007) 0 32 (by decide) Tryz.underlying31 info5 rfl rfl (.inr ⟨rfl, rfl⟩) (.inr ⟨rfl, rfl⟩) (by omega) (by omega) (by rw [List.length_map, hkT_length]) (by decide)).le (d' := byt (hkT prk info (i + 1))) (byt_all (hkT_length _))) ?_
  refine RVN 1 rfl ?_
  refine End.normal_block ?_
  refine EN ?_
  refine GTE ?_
  refine RB rfl rfl rfl ?_
  refine RZ (.int .i64 ((i + 1 : Nat) : Int)) (by rw [wrap_i64 (by omega) (by omega)]; first | rfl | (congr 1; omega)) ?_
  refine RVN 1 rfl ?_
  refine End.normal_then ?_
  refine End.again (i + 1) ?_ ?_ ?_
  ·show _ ≤ _; omega
  ·show _ - _ < _ - _; omega
  ·exact (SV [0, 2, 3, 5, 8, 9, 1000090, 1000091, 1000092, 1000093, 1900000, 1900001] rfl)
 ·obtain rfl : i = N := by simp at hc10; omega
  refine A.exit ?_
  refine End.exit_then ?_
  refine End.exit_then ?_
  refine End.exit_here ?_
  exact End.seqX (vJ := 1000090) hq rfl rfl
set_option maxHeartbeats 2000000 in
theorem Expand4_fn (prk info : List UInt8) (n : Nat) (hp : prk.length ≤ 1000) (hi : info.length ≤ 1000) (hn : n ≤ 8160) : FnM Tryz.prog 15 tabs [byt prk, byt info, .v (.int .i64 ((n : Nat) : Int))] (tup [bytes (hkdf prk info n) n, .v (.int .i64 0)]) := by
 refine FnM.of Tryz.func15 rfl (by kernel_rfl) Tryz.ntmps15 (by simp) (by decide) (fun w => [(0, old w.heap.size (byt prk)), (1, old w.heap.size (byt info)), (2, .v (.int .i64 ((n : Nat) : Int))), (1900000, tab 0 (H8.list.map u32V)), (1900001, tab 1 (K64.map u32V))]) (fun w => (StartM.old rfl (StartM.old rfl (StartM.v rfl (StartM.m (by simp [tabs]) (by decide) (StartM.m (by simp [tabs]) (by decide) StartM.nil)))))) fun w₀ hM => ?_
 have htab := tabs_hi hM
 refine GV rfl ?_
 refine QSB ?_
 refine GT ?_
 refine RV 2 rfl ?_
 refine RZ (.bool false) (by simp) ?_
 refine RVN 1 rfl ?_
 refine A.no rfl ?_
 refine GT ?_
 refine RV 2 rfl ?_
 refine RZ (.bool false) (by simp; omega) ?_
 refine RVN 1 rfl ?_
 refine A.no rfl ?_
 refine A.skip ?_
 refine End.normal_block ?_
 refine EN ?_
 refine GT ?_
 refine RV 2 rfl ?_
 refine RZ (.int .i64 ((n + 32 : Nat) : Int)) (by rw [wrap_i64 (by omega) (by omega)]; first | rfl | (congr 1; omega)) ?_
 refine RB rfl rfl rfl ?_
 refine RZ (.int .i64 ((n + 31 : Nat) : Int)) (by rw [wrap_i64 (by omega) (by omega)]; first | rfl | (congr 1; omega)) ?_
 refine RS (ok_div rfl rfl (by decide)) ?_; refine RZ (.int .i64 ((((n + 31) / 32) : Nat) : Int)) (by rw [tdiv_lit _ (by decide), show Int.toNat 32 = 32 from rfl, wrapN_i64 (by omega)]) ?_
 refine RVN 1 rfl ?_
 refine GS ?_
 refine TN 3 ?_
 refine RV 2 rfl ?_
 refine RZ (.int .i64 ((((n + 31) / 32) * 32 : Nat) : Int)) (by rw [wrap_i64 (by omega) (by omega)]; first | rfl | (congr 1; omega)) ?_
 refine RS (ok_make0 (((n + 31) / 32) * 32) Tryz.underlying22 info5 (by decide) rfl rfl rfl rfl rfl (by omega)) ?_
 refine RN ?_
 refine ZN 1000009 zero22 fun b9 ⟨hBb9, hb9⟩ => ?_
 refine TF 4 ?_
 refine RN ?_
 refine ⟨_, eff_storeD (n := 36) (s := 1000009) info22 rfl rfl (fun _ _ h => own_one h) hBb9 rfl (Surv.own (by decide)) (LO 0 rfl (LO 1 rfl (LeftS.cons (t := 1900000) rfl (Surv.tab (by omega)) (LeftS.cons (t := 1900001) rfl (Surv.tab (by omega)) (LW [2, 8, 9] rfl))))), ?_⟩
 refine TL ?_
 refine RN ?_
 refine QS ?_
 refine A.regsH _ (fun B => (OldH.p (t := 0) rfl (OldH.p (t := 1) rfl (OldH.same (t := 2) rfl (OldH.same (t := 8) rfl (OldH.same (t := 9) rfl (OldH.p (t := 1000009) rfl (OldH.same (t := 1900000) rfl (OldH.same (t := 1900001) rfl OldH.nil))))))))) (by kernel_rfl) (by kernel_rfl) (.inl rfl) (fun B hB => ?_)
 refine TL ?_
 refine RV 3 rfl ?_
 refine RS (ok_callB (tags_fnB (old w₀.heap.size (byt prk)) (old w₀.heap.size (byt info)) ((((n + 31) / 32) : Nat) : Int) (fun _ _ h => old_one (fun _ _ h => lst_one h) h) (fun _ _ h => old_one (fun _ _ h => lst_one h) h)) (fun _ _ => clos3_mono _ _) (Args.cons rfl (Le.old _ _) (Args.cons rfl (Le.old _ _) (A1 rfl)))) ?_
 refine RN ?_
 refine A.sub (SV [2, 9, 27, 1000009, 1900000, 1900001] rfl) ?_
 refine A.ltVar (k := 1000009) rfl fun hb9 => ?_
 refine A.openClos3 (t := 27) (k₁ := 1000091) (k₂ := 1000092) (k₃ := 1000093) rfl fun p q r hBp hBq hBr hpq hpr hqr => ?_
 refine A.subL (SubL.cons (t := 2) rfl (Le.refl _) (SubL.cons (t := 9) rfl (Le.refl _) (SubL.cons (t := 27) rfl (Le.refl _) (SubL.cons (t := 1000009) rfl (Le.old _ _) (SubL.cons (t := 1000091) rfl (Le.refl _) (SubL.cons (t := 1000092) rfl (Le.refl _) (SubL.cons (t := 1000093) rfl (Le.refl _) (SubL.cons (t := 1900000) rfl (Le.refl _) (SubL.cons (t := 1900001) rfl (Le.refl _) SubL.nil))))))))) ?_
 refine A.block ?_
 refine A.rangeX (gf := 104) (N := ((n + 31) / 32)) (vL := 1000098) (vD := 1000099) (tp := 28) (lb := [ptr p, ptr q, ptr r]) (S := [(2, .v (.int .i64 ((n : Nat) : Int))), (9, .v (ptr b9))]) (XE := fun z : Nat × List Value => [(1000007, blk z.1 31 z.2)])
  (V := fun i => [(1000009, varD b9 22 (own w₀.heap.size 5 (32 * i) ((hkO prk info i).map byteV))), (1000091, varD p 3 (.v (.int .i64 ((((n + 31) / 32) : Nat) : Int)))), (1000092, varD q 22 (old w₀.heap.size (byt prk))), (1000093, varD r 22 (old w₀.heap.size (byt info))), (1900000, tab 0 (H8.list.map u32V)), (1900001, tab 1 (K64.map u32V))])
  (Eb := fun i z => (10, freshV w₀.heap.size [] 31 ((hkT prk info (i + 1)).map byteV)) :: (28, .v (aggV ((hkT prk info (i + 1)).map byteV))) :: ([(1000009, varD b9 22 (own w₀.heap.size 5 (32 * i) ((hkO prk info i).map byteV))), (1000091, varD p 3 (.v (.int .i64 ((((n + 31) / 32) : Nat) : Int)))), (1000092, varD q 22 (old w₀.heap.size (byt prk))), (1000093, varD r 22 (old w₀.heap.size (byt info))), (1900000, tab 0 (H8.list.map u32V)), (1900001, tab 1 (K64.map u32V))] ++ [(2, .v (.int .i64 ((n : Nat) : Int))), (9, .v (ptr b9))] ++ [(1000007, blk z.1 31 z.2)]))
  (arg := fun i => .v (aggV ((hkT prk info (i + 1)).map byteV))) rfl ⟨_, Tryz.func104, by kernel_rfl, rfl⟩ (by decide) (by decide) (KE 1000009 rfl (by rfl) (KC 1000091 rfl (KC 1000092 rfl (KC 1000093 rfl (KC 1900000 rfl (KC 1900001 rfl (KC 2 rfl (KC 9 rfl KN))))))))
  (fun x hx => by simp only [List.mem_cons, List.not_mem_nil, or_false] at hx; rcases hx with rfl | rfl <;> exact ⟨vlt rfl, .inl ⟨_, rfl⟩⟩)
  (fun i x hx => by simp only [List.mem_cons, List.not_mem_nil, or_false] at hx; rcases hx with rfl | rfl | rfl | rfl | rfl | rfl <;> exact vle rfl)
  (fun z x hx => by simp only [List.mem_cons, List.not_mem_nil, or_false] at hx; rcases hx with rfl; exact vle rfl)
  (fun z l _ x hx => by simp only [List.mem_cons, List.not_mem_nil, or_false] at hx; rcases hx with rfl; exact Firm.blk)
  (fun i l' hl x hx => by simp only [List.mem_cons, List.not_mem_nil, or_false] at hx; rcases hx with rfl | rfl | rfl | rfl | rfl | rfl <;> first | exact Firm.blk | exact Firm.tab | exact Firm.v _ _ | exact Firm.freshV | exact Firm.varD (Firm.own) | exact Firm.varD (Firm.v _ _) | exact Firm.varD (Firm.old hl))
  (fun i z l' hl x hx => by simp only [List.mem_cons, List.mem_append, List.not_mem_nil, or_false] at hx; rcases hx with rfl | rfl | ((rfl | rfl | rfl | rfl | rfl | rfl) | rfl | rfl) | rfl <;> first | exact Firm.blk | exact Firm.tab | exact Firm.v _ _ | exact Firm.freshV | exact Firm.varD (Firm.own) | exact Firm.varD (Firm.v _ _) | exact Firm.varD (Firm.old hl))
  (fun J l' w hq h0 => tags1_seq (by omega) hp hi (by omega) (hq.sub fun i x hx => by simp only [List.mem_cons, List.not_mem_nil, or_false] at hx ⊢; rcases hx with rfl | rfl | rfl | rfl | rfl <;> simp) h0)
  (fun i l' a w z _ hb h => assign_box zero31 (size31.of (by rw [List.length_map, hkT_length])) (all_bytes _) (by rw [List.length_map, hkT_length, List.length_replicate]) (by decide) (by decide) hb h) ?_ ?_
 ·intro i l' D rr mm z hi'
  refine A.openVar (k := 1000009) (k' := 1000209) rfl fun v9 => ?_
  refine A.openFresh (t := 10) (k := 1000010) rfl fun b10 hBb10 => ?_
  refine A.block ?_
  refine A.reg (by kernel_rfl) (by kernel_rfl) (.inr (by kernel_rfl)) ?_
  refine TD 2 ?_
  refine RLV 1000009 Tryz.underlying22 rfl rfl rfl ?_
  refine RS ((ok_sliceA (s := 1000010) 0 32 (by decide) Tryz.underlying31 info5 rfl rfl (.inr ⟨rfl, rfl⟩) (.inr ⟨rfl, rfl⟩) (by omega) (by omega) (by rw [List.length_map, hkT_length]) (by decide)).le (d' := byt (hkT prk info (i + 1))) (byt_all (hkT_length _))) ?_
  refine RN ?_
  refine ⟨_, eff_appendVO (n := 36) (k := 1000209) (vs := (hkT prk info (i + 1)).map byteV) Tryz.underlying22 info5 (by decide) rfl rfl rfl rfl (Le.eq (byt_vals _)) (by simp [byteV, Value.oneCell']) (by simp only [List.length_map, hkT_length]; omega) (by decide) (by decide) rfl (fun g hB hg => (LT 1000007 rfl (LT 1000009 rfl (LT 1000010 rfl (LeftS.cons (t := 1000091) rfl (Surv.varDT (by decide) (Surv.v _)) (LeftS.cons (t := 1000092) rfl (Surv.varDT (by decide) (Surv.old (by omega))) (LeftS.cons (t := 1000093) rfl (Surv.varDT (by decide) (Surv.old (by omega))) (LeftS.cons (t := 1000098) rfl (Surv.rec rfl) (LeftS.cons (t := 1000099) rfl (Surv.rec rfl) (LeftS.cons (t := 1900000) rfl (Surv.tab (by omega)) (LeftS.cons (t := 1900001) rfl (Surv.tab (by omega)) (LW [2, 9, 10, 28, 29] rfl)))))))))))), ?_⟩
  refine TD 3 ?_
  refine RN ?_
  refine ⟨_, eff_storeD (n := 36) (s := 1000009) info22 rfl rfl (fun _ _ h => own_one h) hBb9 rfl (Surv.own (by decide)) (LT 1000007 rfl (LT 1000010 rfl (LeftS.cons (t := 1000091) rfl (Surv.varDT (by decide) (Surv.v _)) (LeftS.cons (t := 1000092) rfl (Surv.varD (by omega) (Surv.old (by omega))) (LeftS.cons (t := 1000093) rfl (Surv.varD (by omega) (Surv.old (by omega))) (LeftS.cons (t := 1000098) rfl (Surv.rec rfl) (LeftS.cons (t := 1000099) rfl (Surv.rec rfl) (LeftS.cons (t := 1900000) rfl (Surv.tab (by omega)) (LeftS.cons (t := 1900001) rfl (Surv.tab (by omega)) LN))))))))), ?_⟩
  refine TL ?_
  refine RN ?_
  refine End.sub (KC 1000007 rfl (KE 1000009 rfl (show varD b9 22 (own w₀.heap.size 5 (32 * i + ((hkT prk info (i + 1)).map byteV).length) ((hkO prk info i).map byteV ++ (hkT prk info (i + 1)).map byteV)) = varD b9 22 (own w₀.heap.size 5 (32 * (i + 1)) ((hkO prk info (i + 1)).map byteV)) from varD_eq (by rw [List.length_map, hkT_length, hkO, List.map_append]; rfl)) (KC 1000010 rfl (KC 1000091 rfl (KC 1000092 rfl (KC 1000093 rfl (KC 1000098 rfl (KC 1000099 rfl (KC 1900000 rfl (KC 1900001 rfl KN)))))))))) ?_
  refine End.normal_block ?_
  exact End.round (SV [1000098, 1000099, 1000009, 1000091, 1000092, 1000093, 1900000, 1900001, 1000007] rfl) (fun x hx => by simp only [List.mem_cons, List.mem_append, List.not_mem_nil, or_false] at hx; rcases hx with rfl | rfl | (rfl | rfl | rfl | rfl | rfl | rfl) | rfl <;> exact vle rfl) (by decide)
 ·intro D hD
  refine End.normal_block ?_
  refine EN ?_
  refine GT ?_
  refine RS (ok_loadD (s := 1000009) (by decide) Tryz.underlying22 rfl rfl rfl) ?_
  refine RM rfl ?_
  refine RZ (.int .i64 (((hkdf prk info n).length : Nat) : Int)) (by rw [hkdf_length]) ?_
  refine RM rfl ?_
  refine RZ (.int .i64 (((hkdf prk info n).length : Nat) : Int)) (by rw [hkdf_length]) ?_
  refine RS ((ok_slice3 (hkdf prk info n) Tryz.underlying22 info5 rfl rfl rfl (by rw [hkdf_length, ← List.map_take, hkO_hkdf (by omega)]) (by rw [List.length_map, hkO_length]) (by rw [hkdf_length]; simp only [maxLen]; omega)).le (d' := bytes (hkdf prk info n) n) (Le.eq (by rw [hkdf_length]))) ?_
  refine RVN 2 rfl ?_
  refine A.ret ?_
  exact End.ret2C (D := D) (vD := 1000099) rfl hD rfl rfl Firm.bytes (Le.refl _) rfl (Firm.v _ _) (Le.refl _)
set_option maxHeartbeats 1000000 in
theorem fill_fnW (g o n c : Nat) (xs : List Value) (prk info : List UInt8) (hprk : prk.length = 32) (hi : info.length ≤ 1000) (hn : n ≤ 8160) (hfit : o + n ≤ xs.length) : FnW Tryz.prog 59 tabs 58 g xs (xs.take o ++ (hkdf prk info n).map byteV ++ xs.drop (o + n)) ([.slice (some ⟨g, o, none⟩) n c, aggV (prk.map byteV), .string ⟨info.toArray⟩].map D.v) := by
 refine FnW.of (n := 20) (kb := 1000080) (kw := 1000081) Tryz.func59 rfl (by kernel_rfl) Tryz.ntmps59 (by simp) (by decide) tabs_v (by decide) (by decide) [(0, .v (.slice (some ⟨g, o, none⟩) n c)), (1, .v (aggV (prk.map byteV))), (2, str info)]
  (fun p hp => by simp only [List.mem_cons, List.not_mem_nil, or_false] at hp; rcases hp with rfl | rfl | rfl <;> exact ⟨_, rfl, rfl⟩) fun w₀ w₁ hw hM => ?_
 have hBg : w₀.heap.size ≤ g := Nat.le_of_eq hw
 have htab : 1 < w₀.heap.size := (hM (1900001, tab 1 (K64.map u32V)) (by simp [tabs])).1
 refine GS ?_
 refine TN 0 ?_
 refine RN ?_
 refine ZB 1000004 rfl fun b4 ⟨hBb4, hb4⟩ => ?_
 refine TL ?_
 refine RN ?_
 refine GT ?_
 refine RS ((ok_sliceA (s := 1000004) 0 32 (by decide) Tryz.underlying31 info5 rfl rfl (.inr ⟨rfl, rfl⟩) (.inr ⟨rfl, rfl⟩) (by omega) (by omega) (by rw [List.length_map, hprk]) (by decide)).le (d' := byt prk) (byt_all hprk)) ?_
 refine RM rfl ?_
 refine RS (ok_strB Tryz.underlying9 Tryz.underlying22 Tryz.underlying5 rfl (by simp only [maxLen]; omega)) ?_
 refine RM rfl ?_
 refine RS (ok_lenV Tryz.underlying22 rfl) ?_
 refine RS (ok_callM (Expand4_fn prk info n (by omega) hi hn) (Sub.cons rfl (Sub.cons rfl KN)) tabs_v (A3 rfl rfl rfl)) ?_
 refine RM rfl ?_
 refine RS (ok_extract rfl rfl) ?_
 refine RS (ok_extract rfl rfl) ?_
 refine RVN 2 rfl ?_
 refine GE ?_
 refine TF 2 ?_
 refine RVN 2 rfl ?_
 refine ⟨_, eff_copyS (n := 20) (s := 1000080) (l := hkdf prk info n) Tryz.underlying22 info5 rfl rfl (le_byt _ _) hBg rfl hfit (by decide) (LT 1000004 rfl (LeftS.cons (t := 1000081) rfl (Surv.wrote) (LeftS.cons (t := 1900000) rfl (Surv.tab (by omega)) (LeftS.cons (t := 1900001) rfl (Surv.tab (by omega)) LN)))), ?_⟩
 refine TL ?_
 refine RN ?_
 exact End.wrote (kb := 1000080) (kw := 1000081) rfl rfl (by rw [hkdf_length, Nat.min_self, List.take_of_length_le (l := hkdf prk info n) (Nat.le_of_eq (hkdf_length n))]) rfl
set_option maxHeartbeats 2000000 in
theorem Volume_fn (mk : List UInt8) (hmk : mk.length = 32) : FnM Tryz.prog 23 tabs [.v (aggV (mk.map byteV))] (.v (aggV ((hkdf (hmac [99, 97, 105, 115, 115, 111, 110] mk) [101, 110, 99, 114, 121, 112, 116] 16).map byteV ++ (hkdf (hmac [99, 97, 105, 115, 115, 111, 110] mk) [109, 97, 99] 32).map byteV))) := by
 refine FnM.of Tryz.func23 rfl (by kernel_rfl) Tryz.ntmps23 (by simp) (by decide) (fun w => [(0, .v (aggV (mk.map byteV))), (1900000, tab 0 (H8.list.map u32V)), (1900001, tab 1 (K64.map u32V))]) (fun w => (StartM.v rfl (StartM.m (by simp [tabs]) (by decide) (StartM.m (by simp [tabs]) (by decide) StartM.nil)))) fun w₀ hM => ?_
 have htab := tabs_hi hM
 refine GS ?_
 refine TN 0 ?_
 refine RN ?_
 refine ZB 1000001 rfl fun b1 ⟨hBb1, hb1⟩ => ?_
 refine TN 1 ?_
 refine RN ?_
 refine ZN 1000002 zero58 fun b2 ⟨hBb2, hb2⟩ => ?_
 refine TL ?_
 refine RN ?_
 refine GS ?_
 refine TF 1 ?_
 refine RS (ok_buildT [99, 97, 105, 115, 115, 111, 110] Tryz.underlying22 info5 rfl (by decide) (by decide) rfl ⟨rfl, rfl, rfl, rfl, rfl, rfl, rfl, rfl, rfl, rfl, rfl, rfl, rfl, rfl, trivial⟩) ?_
 refine RN ?_
 refine ⟨_, eff_convN (n := 18) Tryz.underlying22 Tryz.underlying5 rfl (by decide) (fun g hg => (LeftM.cons (t := 1) rfl (.of (Surv.v _)) (LeftM.cons (t := 2) rfl (.of (Surv.v _)) (LeftM.cons (t := 5) rfl (.stb) (LeftM.cons (t := 1000001) rfl (.of (Surv.blkT (by decide))) (LeftM.cons (t := 1000002) rfl (.of (Surv.blkT (by decide))) (LeftM.cons (t := 1900000) rfl (.of (Surv.tab (by omega))) (LeftM.cons (t := 1900001) rfl (.of (Surv.tab (by omega))) LeftM.nil)))))))), ?_⟩
 refine TN 4 ?_
 refine RS ((ok_sliceA (s := 1000001) 0 32 (by decide) Tryz.underlying52 info5 rfl rfl (.inr ⟨rfl, rfl⟩) (.inr ⟨rfl, rfl⟩) (by omega) (by omega) (by rw [List.length_map, hmk]) (by decide)).le (d' := byt mk) (byt_all hmk)) ?_
 refine RS (ok_callM (Extract_fn [99, 97, 105, 115, 115, 111, 110] mk (by decide) (by omega)) (Sub.cons rfl (Sub.cons rfl KN)) tabs_v (Args.cons rfl newT_byt (A1 rfl))) ?_
 refine RN ?_
 refine ZN 1000003 zero31 fun b3 ⟨hBb3, hb3⟩ => ?_
 refine TF 5 ?_
 refine RN ?_
 refine ⟨_, eff_storeA (n := 18) (s := 1000003) (size31.of (by rw [List.length_map, hmac_length])) rfl rfl (all_bytes _) hBb3 rfl (by rw [List.length_map, hmac_length, List.length_replicate]) (LT 1000001 rfl (LT 1000002 rfl (LeftS.cons (t := 1900000) rfl (Surv.tab (by omega)) (LeftS.cons (t := 1900001) rfl (Surv.tab (by omega)) (LW [2, 3] rfl))))), ?_⟩
 refine TL ?_
 refine RN ?_
 refine GS ?_
 refine TN 0 ?_
 refine RN ?_
 refine ZN 1000004 zero58 fun b4 ⟨hBb4, hb4⟩ => ?_
 have hlt_b2_b4 := hb4 1000002 b2 _ _ rfl
 refine TL ?_
 refine RN ?_
 refine GD ?_
 refine TD 3 ?_
 refine RS (ok_field field58_0 (by decide) rfl) ?_
 refine RS (ok_sliceX (l := 0) (h := 16) (m := 16) Tryz.underlying37 info5 rfl (.inr ⟨rfl, rfl⟩) (.inr ⟨rfl, rfl, rfl⟩) (.inr ⟨rfl, rfl⟩) (by decide) (by decide) (by decide) (.inl (by decide))) ?_
 refine RS (ok_loadA (s := 1000003) (by decide) Tryz.underlying31 rfl (size31.of (by rw [List.length_map, hmac_length])) rfl rfl) ?_
 refine RN ?_
 refine ⟨_, eff_callW (n := 18) (s := 1000004) (fill_fnW b4 0 16 16 (List.replicate 16 (.int .u8 0) ++ List.replicate 32 (.int .u8 0)) (hmac [99, 97, 105, 115, 115, 111, 110] mk) [101, 110, 99, 114, 121, 112, 116] (hmac_length _ _) (by decide) (by decide) (by simp)) (fun p hp => by simp only [tabs, List.mem_cons, List.not_mem_nil, or_false] at hp; rcases hp with rfl | rfl <;> exact ⟨_, _, rfl, by omega, rfl⟩) (A3 rfl rfl rfl) hBb4 rfl (by decide) (LT 1000001 rfl (LB 1000002 rfl (LT 1000003 rfl (LeftS.cons (t := 1900000) rfl (Surv.tab (by omega)) (LeftS.cons (t := 1900001) rfl (Surv.tab (by omega)) (LW [2, 3, 4] rfl)))))), ?_⟩
 refine TL ?_
 refine RN ?_
 refine A.sub (KC 2 rfl (KC 3 rfl (KC 4 rfl (KC 1000001 rfl (KC 1000002 rfl (KC 1000003 rfl (KE 1000004 rfl (show blk b4 58 _ = blk b4 58 ((hkdf (hmac [99, 97, 105, 115, 115, 111, 110] mk) [101, 110, 99, 114, 121, 112, 116] 16).map byteV ++ List.replicate 32 (.int .u8 0)) from congrArg _ (by simp)) (KC 1900000 rfl (KC 1900001 rfl KN))))))))) ?_
 refine GD ?_
 refine TD 3 ?_
 refine RS (ok_field field58_1 (by decide) rfl) ?_
 refine RS (ok_sliceX (l := 0) (h := 32) (m := 32) Tryz.underlying52 info5 rfl (.inr ⟨rfl, rfl⟩) (.inr ⟨rfl, rfl, rfl⟩) (.inr ⟨rfl, rfl⟩) (by decide) (by decide) (by decide) (.inl (by decide))) ?_
 refine RS (ok_loadA (s := 1000003) (by decide) Tryz.underlying31 rfl (size31.of (by rw [List.length_map, hmac_length])) rfl rfl) ?_
 refine RN ?_
 refine ⟨_, eff_callW (n := 18) (s := 1000004) (fill_fnW b4 16 32 32 ((hkdf (hmac [99, 97, 105, 115, 115, 111, 110] mk) [101, 110, 99, 114, 121, 112, 116] 16).map byteV ++ List.replicate 32 (.int .u8 0)) (hmac [99, 97, 105, 115, 115, 111, 110] mk) [109, 97, 99] (hmac_length _ _) (by decide) (by decide) (by simp [hkdf_length])) (fun p hp => by simp only [tabs, List.mem_cons, List.not_mem_nil, or_false] at hp; rcases hp with rfl | rfl <;> exact ⟨_, _, rfl, by omega, rfl⟩) (A3 rfl rfl rfl) hBb4 rfl (by decide) (LT 1000001 rfl (LB 1000002 rfl (LT 1000003 rfl (LeftS.cons (t := 1900000) rfl (Surv.tab (by omega)) (LeftS.cons (t := 1900001) rfl (Surv.tab (by omega)) (LW [2, 4] rfl)))))), ?_⟩
 refine TL ?_
 refine RN ?_
 refine A.sub (KC 2 rfl (KC 4 rfl (KC 1000001 rfl (KC 1000002 rfl (KC 1000003 rfl (KE 1000004 rfl (show blk b4 58 _ = blk b4 58 ((hkdf (hmac [99, 97, 105, 115, 115, 111, 110] mk) [101, 110, 99, 114, 121, 112, 116] 16).map byteV ++ (hkdf (hmac [99, 97, 105, 115, 115, 111, 110] mk) [109, 97, 99] 32).map byteV) from congrArg _ (by simp [hkdf_length])) (KC 1900000 rfl (KC 1900001 rfl KN)))))))) ?_
 refine GS ?_
 refine TF 1 ?_
 refine RS (ok_loadA (s := 1000004) (by decide) Tryz.underlying58 rfl (size58.of (by simp [hkdf_length])) rfl rfl) ?_
 refine RN ?_
 refine ⟨_, eff_storeA (n := 18) (s := 1000002) (size58.of (by simp [hkdf_length])) rfl rfl (by simp [byteV, Value.oneCell']) hBb2 rfl (by simp [hkdf_length]) (LV 2 rfl (LT 1000001 rfl (LT 1000003 rfl (LB 1000004 rfl (LeftS.cons (t := 1900000) rfl (Surv.tab (by omega)) (LeftS.cons (t := 1900001) rfl (Surv.tab (by omega)) LN)))))), ?_⟩
 refine TL ?_
 refine RN ?_
 refine A.ret ?_
 exact End.cell1 (s := 1000002) rfl Tryz.underlying58 rfl (size58.of (by simp [hkdf_length])) rfl rfl (Le.refl _)
end Go.Proofs.YtffiflfjlemggaaGreatDoor
namespace Go.Proofs.YtffiflfjlemggaaGreatDoor
open Go Go.RowKit
set_option maxRecDepth 100000

/-- c where t holds, else 0. -/
def mask (t : Bool) (c : Nat) : Nat := bif t then c else 0
theorem mask_xor (s t : Bool) (c : Nat) : mask (s ^^ t) c = mask s c ^^^ mask t c := by cases s <;> cases t <;> simp [mask]
theorem mask_xor2 (t : Bool) (c d : Nat) : mask t (c ^^^ d) = mask t c ^^^ mask t d := by cases t <;> simp [mask]
theorem xor4 (a b c d : Nat) : (a ^^^ b) ^^^ (c ^^^ d) = (a ^^^ c) ^^^ (b ^^^ d) := by
  rw [Nat.xor_assoc, ← Nat.xor_assoc b, Nat.xor_comm b c, Nat.xor_assoc, Nat.xor_assoc]

/-- A map that keeps sums. -/
def Lin (f : Nat → Nat) : Prop := ∀ x y, f (x ^^^ y) = f x ^^^ f y
theorem Lin.zero {f : Nat → Nat} (h : Lin f) : f 0 = 0 := by
  have := h 0 0
  rwa [Nat.xor_self, Nat.xor_self] at this
theorem Lin.mask {f : Nat → Nat} (h : Lin f) (t : Bool) (c : Nat) : f (mask t c) = YtffiflfjlemggaaGreatDoor.mask t (f c) := by cases t <;> simp [YtffiflfjlemggaaGreatDoor.mask, h.zero]
theorem Lin.comp {f g : Nat → Nat} (hf : Lin f) (hg : Lin g) : Lin fun x => f (g x) := fun x y => by show f (g _) = _; rw [hg, hf]
theorem Lin.xor {f g : Nat → Nat} (hf : Lin f) (hg : Lin g) : Lin fun x => f x ^^^ g x := fun x y => by show f _ ^^^ g _ = _; rw [hf, hg, xor4]
theorem Lin.bit (k c : Nat) : Lin fun x => YtffiflfjlemggaaGreatDoor.mask (x.testBit k) c := fun x y => by show YtffiflfjlemggaaGreatDoor.mask ((x ^^^ y).testBit k) c = _; rw [Nat.testBit_xor, mask_xor]
theorem Lin.at (t : Bool) {f : Nat → Nat} (hf : Lin f) : Lin fun x => YtffiflfjlemggaaGreatDoor.mask t (f x) := fun x y => by show YtffiflfjlemggaaGreatDoor.mask t (f _) = _; rw [hf, mask_xor2]
theorem Lin.none : Lin fun _ => 0 := fun _ _ => (Nat.xor_self 0).symm
theorem Lin.id : Lin fun x => x := fun _ _ => rfl

theorem eight : ∀ a < 256, a = mask (a.testBit 0) 1 ^^^ mask (a.testBit 1) 2 ^^^ mask (a.testBit 2) 4 ^^^ mask (a.testBit 3) 8 ^^^ mask (a.testBit 4) 16 ^^^ mask (a.testBit 5) 32 ^^^ mask (a.testBit 6) 64 ^^^ mask (a.testBit 7) 128 := by decide
theorem Lin.ext {f g : Nat → Nat} (hf : Lin f) (hg : Lin g) (h : ∀ i < 8, f (2 ^ i) = g (2 ^ i)) {a : Nat} (ha : a < 256) : f a = g a := by
  have h0 := h 0 (by decide); have h1 := h 1 (by decide); have h2 := h 2 (by decide); have h3 := h 3 (by decide)
  have h4 := h 4 (by decide); have h5 := h 5 (by decide); have h6 := h 6 (by decide); have h7 := h 7 (by decide)
  simp only [Nat.reducePow] at h0 h1 h2 h3 h4 h5 h6 h7
  rw [eight a ha]
  simp only [hf _ _, hg _ _, hf.mask, hg.mask, h0, h1, h2, h3, h4, h5, h6, h7]

/-- An element times x. -/
def xt (a : Nat) : Nat := (2 * a % 256) ^^^ mask (a.testBit 7) 27
def xts (a : Nat) : Nat → Nat
  | 0 => a
  | k + 1 => xt (xts a k)
/-- The sum of the products with the first k terms of b. -/
def gacc (a b : Nat) : Nat → Nat
  | 0 => 0
  | k + 1 => gacc a b k ^^^ mask (b.testBit k) (xts a k)
/-- The product of two elements. -/
def gm (a b : Nat) : Nat := gacc a b 8

theorem two_xor (a b : Nat) : 2 * (a ^^^ b) = 2 * a ^^^ 2 * b := by
  have := Nat.shiftLeft_xor_distrib (a := a) (b := b) (i := 1)
  simp only [Nat.shiftLeft_eq, Nat.pow_one] at this
  rw [Nat.mul_comm 2, Nat.mul_comm 2, Nat.mul_comm 2, this]
theorem xt_add : Lin xt := fun x y => by
  unfold xt
  rw [Nat.testBit_xor, mask_xor, two_xor, show (256 : Nat) = 2 ^ 8 from rfl, Nat.xor_mod_two_pow, xor4]
theorem xts_add : ∀ k, Lin fun x => xts x k
  | 0 => Lin.id
  | k + 1 => xt_add.comp (xts_add k)
theorem gacc_addL (b : Nat) : ∀ k, Lin fun x => gacc x b k
  | 0 => Lin.none
  | k + 1 => (gacc_addL b k).xor (Lin.at _ (xts_add k))
theorem gacc_addR (a : Nat) : ∀ k, Lin fun x => gacc a x k
  | 0 => Lin.none
  | k + 1 => (gacc_addR a k).xor (Lin.bit k _)
theorem gm_addL (b : Nat) : Lin fun x => gm x b := gacc_addL b 8
theorem gm_addR (a : Nat) : Lin (gm a) := gacc_addR a 8
theorem xt_lt (a : Nat) : xt a < 256 := Nat.xor_lt_two_pow (n := 8) (Nat.mod_lt _ (by decide)) (by unfold mask; cases a.testBit 7 <;> decide)
theorem xts_lt {a : Nat} (h : a < 256) : ∀ k, xts a k < 256
  | 0 => h
  | _ + 1 => xt_lt _
theorem gacc_lt {a : Nat} (b : Nat) (h : a < 256) : ∀ k, gacc a b k < 256
  | 0 => Nat.zero_lt_succ _
  | k + 1 => Nat.xor_lt_two_pow (n := 8) (gacc_lt b h k) (by unfold mask; cases b.testBit k; exact Nat.zero_lt_succ _; exact xts_lt h k)
theorem gm_lt {a : Nat} (b : Nat) (h : a < 256) : gm a b < 256 := gacc_lt b h 8

theorem gm_comm {a b : Nat} (ha : a < 256) (hb : b < 256) : gm a b = gm b a :=
  Lin.ext (gm_addL b) (gm_addR b) (fun i hi => Lin.ext (gm_addR (2 ^ i)) (gm_addL (2 ^ i)) (fun j hj => by revert i j; decide) hb) ha
theorem gm_assoc {a b c : Nat} (ha : a < 256) (hb : b < 256) (hc : c < 256) : gm (gm a b) c = gm a (gm b c) :=
  Lin.ext ((gm_addL c).comp (gm_addL b)) (gm_addL (gm b c)) (fun i hi =>
    Lin.ext ((gm_addL c).comp (gm_addR (2 ^ i))) ((gm_addR (2 ^ i)).comp (gm_addL c)) (fun j hj =>
      Lin.ext (gm_addR (gm (2 ^ i) (2 ^ j))) ((gm_addR (2 ^ i)).comp (gm_addR (2 ^ j))) (fun k hk => by revert i j k; decide) hc) hb) ha
theorem gm_one {a : Nat} (ha : a < 256) : gm a 1 = a := Lin.ext (gm_addL 1) Lin.id (by decide) ha
theorem gm_one' {a : Nat} (ha : a < 256) : gm 1 a = a := by rw [gm_comm (by decide) ha, gm_one ha]
theorem gm_zero (a : Nat) : gm a 0 = 0 := (gm_addR a).zero
/-- The product of n factors a. -/
def gpow (a : Nat) : Nat → Nat
  | 0 => 1
  | n + 1 => gm (gpow a n) a
theorem gpow_lt {a : Nat} : ∀ n, gpow a n < 256
  | 0 => Nat.succ_lt_succ (Nat.zero_lt_succ _)
  | n + 1 => gm_lt _ (gpow_lt n)
theorem gpow_add {a : Nat} (ha : a < 256) (m : Nat) : ∀ n, gpow a (m + n) = gm (gpow a m) (gpow a n)
  | 0 => (gm_one (gpow_lt m)).symm
  | n + 1 => by
    show gm (gpow a (m + n)) a = gm (gpow a m) (gm (gpow a n) a)
    rw [gpow_add ha m n, gm_assoc (gpow_lt m) (gpow_lt n) ha]
theorem gpow_sq {a : Nat} (ha : a < 256) : ∀ n, gpow (gm a a) n = gpow a (2 * n)
  | 0 => rfl
  | n + 1 => by
    show gm (gpow (gm a a) n) (gm a a) = gm (gm (gpow a (2 * n)) a) a
    rw [gpow_sq ha n, gm_assoc (gpow_lt _) ha ha]
theorem gpow_zero {n : Nat} (h : 0 < n) : gpow 0 n = 0 := by
  obtain ⟨k, rfl⟩ : ∃ k, n = k + 1 := ⟨n - 1, by omega⟩
  exact gm_zero _
theorem gpow_mul {a : Nat} (ha : a < 256) (m : Nat) : ∀ n, gpow (gpow a m) n = gpow a (m * n)
  | 0 => rfl
  | n + 1 => by
    show gm (gpow (gpow a m) n) (gpow a m) = gpow a (m * n + m)
    rw [gpow_mul ha m n, gpow_add ha]
theorem gpow_one : ∀ n, gpow 1 n = 1
  | 0 => rfl
  | n + 1 => by show gm (gpow 1 n) 1 = 1; rw [gpow_one n]; decide
/-- Powers by squares. -/
def gsq (a : Nat) : Nat → Nat
  | 0 => a
  | n + 1 => gsq (gm a a) n
theorem gsq_eq {a : Nat} (ha : a < 256) : ∀ n, gsq a n = gpow a (2 ^ n)
  | 0 => (gm_one' ha).symm
  | n + 1 => by
    show gsq (gm a a) n = _
    rw [gsq_eq (gm_lt _ ha) n, gpow_sq ha, Nat.pow_succ, Nat.mul_comm]
theorem all256 {p : Nat → Bool} (h : (List.range 256).all p = true) {a : Nat} (ha : a < 256) : p a = true := List.all_eq_true.1 h a (List.mem_range.2 ha)
theorem gsq8_all : (List.range 256).all (fun a => gsq a 8 == a) = true := by kernel_rfl
theorem gsq8 {a : Nat} (ha : a < 256) : gsq a 8 = a := eq_of_beq (all256 gsq8_all ha)
theorem gpow_256 {a : Nat} (ha : a < 256) : gpow a 256 = a := by rw [show 256 = 2 ^ 8 from rfl, ← gsq_eq ha, gsq8 ha]
/-! ### Inverses -/
/-- The inverses of all elements. -/
def itab : List UInt8 := [0, 1, 141, 246, 203, 82, 123, 209, 232, 79, 41, 192, 176, 225, 229, 199, 116, 180, 170, 75, 153, 43, 96, 95, 88, 63, 253, 204, 255, 64, 238, 178, 58, 110, 90, 241, 85, 77, 168, 201, 193, 10, 152, 21, 48, 68, 162, 194, 44, 69, 146, 108, 243, 57, 102, 66, 242, 53, 32, 111, 119, 187, 89, 25, 29, 254, 55, 103, 45, 49, 245, 105, 167, 100, 171, 19, 84, 37, 233, 9, 237, 92, 5, 202, 76, 36, 135, 191, 24, 62, 34, 240, 81, 236, 97, 23, 22, 94, 175, 211, 73, 166, 54, 67, 244, 71, 145, 223, 51, 147, 33, 59, 121, 183, 151, 133, 16, 181, 186, 60, 182, 112, 208, 6, 161, 250, 129, 130, 131, 126, 127, 128, 150, 115, 190, 86, 155, 158, 149, 217, 247, 2, 185, 164, 222, 106, 50, 109, 216, 138, 132, 114, 42, 20, 159, 136, 249, 220, 137, 154, 251, 124, 46, 195, 143, 184, 101, 72, 38, 200, 18, 74, 206, 231, 210, 98, 12, 224, 31, 239, 17, 117, 120, 113, 165, 142, 118, 61, 189, 188, 134, 87, 11, 40, 47, 163, 218, 212, 228, 15, 169, 39, 83, 4, 27, 252, 172, 230, 122, 7, 174, 99, 197, 219, 226, 234, 148, 139, 196, 213, 157, 248, 144, 107, 177, 13, 214, 235, 198, 14, 207, 173, 8, 78, 215, 227, 93, 80, 30, 179, 91, 35, 56, 52, 104, 70, 3, 140, 221, 156, 125, 160, 205, 26, 65, 28]
def ginv (a : Nat) : Nat := (itab.getD a 0).toNat
theorem ginv_lt (a : Nat) : ginv a < 256 := (itab.getD a 0).toNat_lt
theorem itab_length : itab.length = 256 := by kernel_rfl
theorem itab_get {a : Nat} (ha : a < 256) : itab[a]? = some (itab.getD a 0) := by
  rw [List.getD_eq_getElem?_getD, List.getElem?_eq_getElem (by rw [itab_length]; exact ha)]; rfl
theorem ginv_all : (List.range 256).all (fun a => (a == 0 || gm a (ginv a) == 1) && ginv (ginv a) == a) = true := by kernel_rfl
theorem gm_ginv {a : Nat} (ha : a < 256) (h0 : a ≠ 0) : gm a (ginv a) = 1 := by
  have h := all256 ginv_all ha
  simpa [h0] using (Bool.and_eq_true_iff.1 h).1
theorem gm_back {a b : Nat} (ha : a < 256) (hb : b < 256) (h0 : a ≠ 0) : gm (gm b a) (ginv a) = b := by
  rw [gm_assoc hb ha (ginv_lt a), gm_ginv ha h0, gm_one hb]
/-! ### Powers -/
theorem gpow_255 {a : Nat} (ha : a < 256) (h0 : a ≠ 0) : gpow a 255 = 1 := by
  have h := gpow_256 ha
  have h' : gm (gpow a 255) a = a := h
  rw [← gm_back ha (gpow_lt 255) h0, h', gm_ginv ha h0]
theorem gpow_mod {a : Nat} (ha : a < 256) (h0 : a ≠ 0) (n : Nat) : gpow a n = gpow a (n % 255) := by
  have h := Nat.div_add_mod n 255
  rw [show gpow a n = gpow a (255 * (n / 255) + n % 255) from by rw [h], gpow_add ha, ← gpow_mul ha, gpow_255 ha h0, gpow_one, gm_one' (gpow_lt _)]
/-- A power, its exponent any number. -/
def gpz (a : Nat) (n : Int) : Nat := if a = 0 ∧ n ≠ 0 then 0 else gpow a (n % 255).toNat
theorem gpz_zero {n : Int} (h : n ≠ 0) : gpz 0 n = 0 := if_pos ⟨rfl, h⟩
theorem gpz_pos {a : Nat} (h0 : a ≠ 0) (n : Int) : gpz a n = gpow a (n % 255).toNat := if_neg fun h => h0 h.1
theorem gpz_nat {a : Nat} (ha : a < 256) (k : Nat) : gpz a (k : Int) = gpow a k := by
  by_cases h0 : a = 0
  · subst h0
    by_cases hk : k = 0
    · subst hk; rfl
    · rw [gpz_zero (by omega), gpow_zero (by omega)]
  · rw [gpz_pos h0, gpow_mod ha h0 k, show ((k : Int) % 255).toNat = k % 255 from by omega]
/-- A round of the squares' loop. -/
theorem gpow_step {x p n : Nat} (hx : x < 256) (hp : p < 256) : gm (if n % 2 = 1 then gm p x else p) (gpow (gm x x) (n / 2)) = gm p (gpow x n) := by
  rw [gpow_sq hx]
  split
  · rename_i h
    rw [show n = 1 + 2 * (n / 2) from by omega, gpow_add hx, show gpow x 1 = x from gm_one' hx, gm_assoc hp hx (gpow_lt _), show (1 + 2 * (n / 2)) / 2 = n / 2 from by omega]
  · rename_i h
    rw [show 2 * (n / 2) = n from by omega]
/-- What is left of an exponent. -/
theorem tmod255 (n : Int) : ∃ r : Int, n.tmod 255 = r ∧ -255 < r ∧ r < 255 ∧ r % 255 = n % 255 := by
  refine ⟨_, rfl, ?_⟩
  have h := Int.tmod_eq_emod (a := n) (b := 255)
  rw [show Int.natAbs 255 = 255 from rfl] at h
  split at h <;> omega

/-! ### Substitutes -/
def rotl8 (a k : Nat) : Nat := (a * 2 ^ k % 256) ||| (a / 2 ^ (8 - k))
theorem rotl8_lt {a : Nat} (k : Nat) (ha : a < 256) : rotl8 a k < 256 := Nat.or_lt_two_pow (n := 8) (Nat.mod_lt _ (by decide)) (Nat.lt_of_le_of_lt (Nat.div_le_self _ _) ha)
def subI (b : Nat) : Nat := b ^^^ rotl8 b 1 ^^^ rotl8 b 2 ^^^ rotl8 b 3 ^^^ rotl8 b 4 ^^^ 99
def sub8 (a : Nat) : Nat := subI (ginv a)
def back8 (a : Nat) : Nat := ginv (rotl8 a 1 ^^^ rotl8 a 3 ^^^ rotl8 a 6 ^^^ 5)
/-- The sum whose parity is the bit i of a substitute, its first c terms behind 63. -/
def ssum (v i : Nat) : Nat → Nat
  | 0 => 99 / 2 ^ i
  | c + 1 => ssum v i c + v / 2 ^ ((i + (4 + c)) % 8)
def sout (v : Nat) : Nat → Nat
  | 0 => 0
  | c + 1 => 2 * sout v c + ssum v (7 - c) 5 % 2
theorem sout_lt (v : Nat) : ∀ c, sout v c < 2 ^ c
  | 0 => Nat.zero_lt_succ _
  | c + 1 => by
    have h := sout_lt v c
    rw [Nat.pow_succ]
    show 2 * sout v c + ssum v (7 - c) 5 % 2 < _
    omega
def subst8 (v : Nat) : Nat := sout v 8
theorem subst8_lt (v : Nat) : subst8 v < 256 := sout_lt v 8
theorem subst_all : (List.range 256).all (fun v => subst8 v == subI v) = true := by kernel_rfl
theorem subst8_eq {v : Nat} (hv : v < 256) : subst8 v = subI v := eq_of_beq (all256 subst_all hv)
theorem sub8_eq (a : Nat) : subst8 (ginv a) = sub8 a := subst8_eq (ginv_lt a)
theorem sub8_lt (a : Nat) : sub8 a < 256 := by rw [← sub8_eq]; exact subst8_lt _
theorem back8_lt (a : Nat) : back8 a < 256 := ginv_lt _
theorem sub_all : (List.range 256).all (fun a => (back8 (sub8 a) == a && sub8 (back8 a) == a) && sub8 a != a) = true := by kernel_rfl
theorem back_sub {a : Nat} (ha : a < 256) : back8 (sub8 a) = a := by
  have h := all256 sub_all ha
  simp only [Bool.and_eq_true, beq_iff_eq] at h; exact h.1.1
/-! ### The powers of 3 -/
def p3 : List Nat := [1, 3, 5, 15, 17, 51, 85, 255, 26, 46, 114, 150, 161, 248, 19, 53, 95, 225, 56, 72, 216, 115, 149, 164, 247, 2, 6, 10, 30, 34, 102, 170, 229, 52, 92, 228, 55, 89, 235, 38, 106, 190, 217, 112, 144, 171, 230, 49, 83, 245, 4, 12, 20, 60, 68, 204, 79, 209, 104, 184, 211, 110, 178, 205, 76, 212, 103, 169, 224, 59, 77, 215, 98, 166, 241, 8, 24, 40, 120, 136, 131, 158, 185, 208, 107, 189, 220, 127, 129, 152, 179, 206, 73, 219, 118, 154, 181, 196, 87, 249, 16, 48, 80, 240, 11, 29, 39, 105, 187, 214, 97, 163, 254, 25, 43, 125, 135, 146, 173, 236, 47, 113, 147, 174, 233, 32, 96, 160, 251, 22, 58, 78, 210, 109, 183, 194, 93, 231, 50, 86, 250, 21, 63, 65, 195, 94, 226, 61, 71, 201, 64, 192, 91, 237, 44, 116, 156, 191, 218, 117, 159, 186, 213, 100, 172, 239, 42, 126, 130, 157, 188, 223, 122, 142, 137, 128, 155, 182, 193, 88, 232, 35, 101, 175, 234, 37, 111, 177, 200, 67, 197, 84, 252, 31, 33, 99, 165, 244, 7, 9, 27, 45, 119, 153, 176, 203, 70, 202, 69, 207, 74, 222, 121, 139, 134, 145, 168, 227, 62, 66, 198, 81, 243, 14, 18, 54, 90, 238, 41, 123, 141, 140, 143, 138, 133, 148, 167, 242, 13, 23, 57, 75, 221, 124, 132, 151, 162, 253, 28, 36, 108, 180, 199, 82, 246]
def l3 : List Nat := [0, 0, 25, 1, 50, 2, 26, 198, 75, 199, 27, 104, 51, 238, 223, 3, 100, 4, 224, 14, 52, 141, 129, 239, 76, 113, 8, 200, 248, 105, 28, 193, 125, 194, 29, 181, 249, 185, 39, 106, 77, 228, 166, 114, 154, 201, 9, 120, 101, 47, 138, 5, 33, 15, 225, 36, 18, 240, 130, 69, 53, 147, 218, 142, 150, 143, 219, 189, 54, 208, 206, 148, 19, 92, 210, 241, 64, 70, 131, 56, 102, 221, 253, 48, 191, 6, 139, 98, 179, 37, 226, 152, 34, 136, 145, 16, 126, 110, 72, 195, 163, 182, 30, 66, 58, 107, 40, 84, 250, 133, 61, 186, 43, 121, 10, 21, 155, 159, 94, 202, 78, 212, 172, 229, 243, 115, 167, 87, 175, 88, 168, 80, 244, 234, 214, 116, 79, 174, 233, 213, 231, 230, 173, 232, 44, 215, 117, 122, 235, 22, 11, 245, 89, 203, 95, 176, 156, 169, 81, 160, 127, 12, 246, 111, 23, 196, 73, 236, 216, 67, 31, 45, 164, 118, 123, 183, 204, 187, 62, 90, 251, 96, 177, 134, 59, 82, 161, 108, 170, 85, 41, 157, 151, 178, 135, 144, 97, 190, 220, 252, 188, 149, 207, 205, 55, 63, 91, 209, 83, 57, 132, 60, 65, 162, 109, 71, 20, 42, 158, 93, 86, 242, 211, 171, 68, 17, 146, 217, 35, 32, 46, 137, 180, 124, 184, 38, 119, 153, 227, 165, 103, 74, 237, 222, 197, 49, 254, 24, 13, 99, 140, 128, 192, 247, 112, 7]
theorem map_set_range {α : Type} {f : Nat → α} {n y : Nat} {v : α} : ((List.range n).map f).set y v = (List.range n).map fun x => if x = y then v else f x := by
  apply List.ext_getElem?
  intro j
  rw [List.getElem?_set]
  by_cases hj : j < n
  · by_cases hy : y = j
    · subst hy; simp [hj]
    · simp [hy, hj, Ne.symm hy]
  · simp only [List.length_map, List.length_range, List.getElem?_map, List.getElem?_eq_none (show (List.range n).length ≤ j by simp; omega), Option.map_none]
    split
    · rw [if_neg (by omega)]
    · rfl

/-! ### The product of the definition -/
theorem mask_mul (t : Bool) (c : Nat) : t.toNat * c = mask t c := by cases t <;> simp [mask]
theorem mask_le (t : Bool) (c : Nat) : mask t c ≤ c := by cases t <;> simp [mask]
theorem xor_u8N {a b : Nat} (ha : a < 256) (hb : b < 256) : IntKind.u8.wrap ((BitVec.ofInt 8 (a : Int) ^^^ BitVec.ofInt 8 (b : Int)).toNat : Int) = ((a ^^^ b : Nat) : Int) := by
  have h : a ^^^ b < 2 ^ 8 := Nat.xor_lt_two_pow (by omega) (by omega)
  rw [BitVec.toNat_xor, BitVec.ofInt_natCast, BitVec.ofInt_natCast, BitVec.toNat_ofNat, BitVec.toNat_ofNat, Nat.mod_eq_of_lt (show a < 2 ^ 8 by omega), Nat.mod_eq_of_lt (show b < 2 ^ 8 by omega), wrap_u8 (by omega) (by omega)]
theorem or_u8N {a b : Nat} (ha : a < 256) (hb : b < 256) : IntKind.u8.wrap ((BitVec.ofInt 8 (a : Int) ||| BitVec.ofInt 8 (b : Int)).toNat : Int) = ((a ||| b : Nat) : Int) := by
  have h : a ||| b < 2 ^ 8 := Nat.or_lt_two_pow (by omega) (by omega)
  rw [BitVec.toNat_or, BitVec.ofInt_natCast, BitVec.ofInt_natCast, BitVec.toNat_ofNat, BitVec.toNat_ofNat, Nat.mod_eq_of_lt (show a < 2 ^ 8 by omega), Nat.mod_eq_of_lt (show b < 2 ^ 8 by omega), wrap_u8 (by omega) (by omega)]
theorem and_u8N {a b : Nat} (ha : a < 256) (hb : b < 256) : IntKind.u8.wrap ((BitVec.ofInt 8 (a : Int) &&& BitVec.ofInt 8 (b : Int)).toNat : Int) = ((a &&& b : Nat) : Int) := by
  have h : a &&& b < 2 ^ 8 := Nat.and_lt_two_pow _ (by omega)
  rw [BitVec.toNat_and, BitVec.ofInt_natCast, BitVec.ofInt_natCast, BitVec.toNat_ofNat, BitVec.toNat_ofNat, Nat.mod_eq_of_lt (show a < 2 ^ 8 by omega), Nat.mod_eq_of_lt (show b < 2 ^ 8 by omega), wrap_u8 (by omega) (by omega)]
theorem and_i64N {a b : Nat} (ha : a < 4294967296) (hb : b < 4294967296) : IntKind.i64.wrap ((BitVec.ofInt 64 (a : Int) &&& BitVec.ofInt 64 (b : Int)).toNat : Int) = ((a &&& b : Nat) : Int) := by
  have h : a &&& b < 2 ^ 32 := Nat.and_lt_two_pow _ (by omega)
  rw [BitVec.toNat_and, BitVec.ofInt_natCast, BitVec.ofInt_natCast, BitVec.toNat_ofNat, BitVec.toNat_ofNat, Nat.mod_eq_of_lt (show a < 2 ^ 64 by omega), Nat.mod_eq_of_lt (show b < 2 ^ 64 by omega), wrap_i64 (by omega) (by omega)]
theorem wrap_u8N (n : Nat) : IntKind.u8.wrap (n : Int) = ((n % 256 : Nat) : Int) := by
  rw [wrap_u8_nat]; simp
theorem wrapN_u8 {n : Nat} (h : n < 256) : IntKind.u8.wrap (n : Int) = (n : Int) := wrap_u8 (by omega) (by omega)
end Go.Proofs.YtffiflfjlemggaaGreatDoor
namespace Go.Proofs.YtffiflfjlemggaaGreatDoor
open Go Go.RowKit
set_option linter.unusedVariables false
set_option maxRecDepth 20000

end Go.Proofs.YtffiflfjlemggaaGreatDoor
namespace Go.Proofs.YtffiflfjlemggaaGreatDoor
open Go Go.RowKit
set_option linter.unusedVariables false
set_option maxRecDepth 20000
theorem bit7 {a : Nat} (ha : a < 256) : a / 128 = (a.testBit 7).toNat := by rw [Nat.toNat_testBit, show (2 : Nat) ^ 7 = 128 from rfl]; omega
theorem mask27 (t : Bool) : mask t 27 < 256 := Nat.lt_of_le_of_lt (mask_le t 27) (by decide)
theorem mask_lt (t : Bool) {c : Nat} (hc : c < 256) : mask t c < 256 := Nat.lt_of_le_of_lt (mask_le t c) hc

theorem mul1_fnW (g a : Nat) (ha : a < 256) : FnW Tryz.prog 79 [] 5 g [nB a] [nB (xt a)] ([ptr g].map D.v) := by
 refine FnW.of (n := 9) (kb := 1000080) (kw := 1000081) Tryz.func79 rfl (by kernel_rfl) Tryz.ntmps79 (by simp) (by decide) (fun p hp => by cases hp) (by decide) (by decide) [(0, .v (ptr g))]
  (fun p hp => by simp only [List.mem_cons, List.not_mem_nil, or_false] at hp; rcases hp with rfl; exact ⟨_, rfl, rfl⟩) fun w₀ w₁ hw hM => ?_
 have hBg : w₀.heap.size ≤ g := Nat.le_of_eq hw
 refine GT ?_
 refine RLV 1000080 Tryz.underlying5 rfl rfl rfl ?_
 refine RS (ok_shr rfl rfl (by decide)) ?_; refine RZ (nB ((a.testBit 7).toNat)) (by rw [← bit7 ha]; exact congrArg _ (shr_nat a 7)) ?_
 refine RVN 1 rfl ?_
 refine GE ?_
 refine TF 5 ?_
 refine RLV 1000080 Tryz.underlying5 rfl rfl rfl ?_
 refine RS (ok_shl rfl rfl (by decide)) ?_; refine RZ (nB (2 * a % 256)) (by rw [show (a : Int) * 2 ^ min (Int.toNat 1) IntKind.u8.bits = ((2 * a : Nat) : Int) from by rw [show min (Int.toNat 1) IntKind.u8.bits = 1 from rfl]; omega, wrap_u8N]) ?_
 refine RV 2 rfl ?_
 refine RZ (nB (mask (a.testBit 7) 27)) (by cases a.testBit 7 <;> rfl) ?_
 refine RB rfl rfl rfl ?_
 refine RZ (nB (xt a)) (by rw [show IntKind.u8.bits = 8 from rfl, xor_u8N (Nat.mod_lt _ (by decide)) (mask27 _)]; rfl) ?_
 refine RN ?_
 refine ⟨_, eff_storeS (n := 9) (s := 1000080) info5 rfl rfl rfl hBg rfl (by simp) (LeftS.cons (t := 1000081) rfl (Surv.wrote) LN), ?_⟩
 refine TL ?_
 refine RN ?_
 exact End.wrote (kb := 1000080) (kw := 1000081) rfl rfl rfl rfl
set_option maxHeartbeats 1000000 in
theorem Mul_fn (a b : Nat) (ha : a < 256) (hb : b < 256) : Fn Tryz.prog 31 [.v (nB a), .v (nB b)] (.v (nB (gm a b))) := by
 refine FV Tryz.func31 rfl Tryz.ntmps31 rfl fun w₀ => ?_
 refine GS ?_
 refine TN 0 ?_
 refine RN ?_
 refine ⟨_, _, eff_box1 (n := 24) (d := 2) (k := 1000002) rfl rfl (by decide), fun b2 hb2 => ?_⟩
 have hBb2 := hb2.1
 refine TL ?_
 refine RVN 1 rfl ?_
 refine GT ?_
 refine RS (ok_makeFuncN [ptr b2] ⟨rfl, trivial⟩) ?_
 refine RVN 1 rfl ?_
 refine GV rfl ?_
 refine QS ?_
 refine GV rfl ?_
 refine A.block ?_
 refine A.loop (ι := Nat) (fun i => i ≤ 8) (fun i => [(1, .v (nB b)), (2, .v (ptr b2)), (5, .v (.func (.func 79) #[] #[ptr b2])), (6, .v (nB (gacc a b i))), (9, .v (nI i)), (1000002, blk b2 5 [nB (xts a i)])]) (fun i => 8 - i) 0 ?_ ?_ ?_
 ·exact Nat.zero_le _
 ·exact (SV [1, 2, 5, 6, 9, 1000002] rfl)
 intro i hi
 refine GV rfl ?_
 refine QS ?_
 refine A.cond rfl (fun hc10 => ?_) (fun hc10 => ?_)
 ·have hlt : i < 8 := by simp at hc10; omega
  refine QK ?_
  refine QSB ?_
  refine GV rfl ?_
  refine GTD ?_
  refine RV 3 rfl ?_
  refine RS (ok_shr rfl rfl (by omega)) ?_; refine RZ (nB (b / 2 ^ (i))) (by rw [Int.toNat_natCast, show min (i) IntKind.u8.bits = i from by simp only [IntKind.bits]; omega]; exact congrArg _ (shr_nat _ _)) ?_
  refine RB rfl rfl rfl ?_
  refine RZ (nB ((b.testBit i).toNat)) (by rw [show IntKind.u8.bits = 8 from rfl, show (1 : Int) = ((1 : Nat) : Int) from rfl, and_u8N (Nat.lt_of_le_of_lt (Nat.div_le_self _ _) hb) (by decide), Nat.and_one_is_mod, Nat.toNat_testBit]) ?_
  refine RLV 1000002 Tryz.underlying5 rfl rfl rfl ?_
  refine RB rfl rfl rfl ?_
  refine RZ (nB (mask (b.testBit i) (xts a i))) (by rw [← Int.natCast_mul, mask_mul, wrapN_u8 (mask_lt _ (xts_lt ha i))]) ?_
  refine RB rfl rfl rfl ?_
  refine RZ (nB (gacc a b (i + 1))) (by rw [show IntKind.u8.bits = 8 from rfl, xor_u8N (gacc_lt b ha i) (mask_lt _ (xts_lt ha i))]; rfl) ?_
  refine RVN 1 rfl ?_
  refine GE ?_
  refine TF 1 ?_
  refine RVN 1 rfl ?_
  refine ⟨_, eff_callV (n := 24) (s := 1000002) (mul1_fnW b2 (xts a i) (xts_lt ha i)) rfl hBb2 rfl (by decide) (LW [1, 2, 5, 6, 9] rfl), ?_⟩
  refine TL ?_
  refine RN ?_
  refine End.normal_block ?_
  refine EN ?_
  refine GTE ?_
  refine RB rfl rfl rfl ?_
  refine RZ (nI (i + 1)) (by rw [wrap_i64 (by omega) (by omega)]; first | rfl | (congr 1; omega)) ?_
  refine RVN 1 rfl ?_
  refine End.normal_then ?_
  refine End.again (i + 1) ?_ ?_ ?_
  ·show _ ≤ _; omega
  ·show _ - _ < _ - _; omega
  ·exact (SV [1, 2, 5, 6, 9, 1000002] rfl)
 ·obtain rfl : i = 8 := by simp at hc10; omega
  refine A.exit ?_
  refine End.exit_then ?_
  refine End.exit_then ?_
  refine End.exit_here ?_
  refine EN ?_
  refine GV rfl ?_
  refine A.ret ?_
  exact ER rfl rfl
theorem Power_fnA (n : Int) (h : n ≠ 0) : Fn Tryz.prog 48 [.v (nB 0), .v (.int .i64 n)] (.v (.int .u8 0)) := by
 refine FV Tryz.func48 rfl Tryz.ntmps48 rfl fun w₀ => ?_
 refine GV rfl ?_
 refine A.scope ?_
 refine QS ?_
 refine GT ?_
 refine RV 2 rfl ?_
 refine RZ (.bool true) (by rfl) ?_
 refine RV 3 rfl ?_
 refine RZ (.bool true) (by simp [h]) ?_
 refine RVN 1 rfl ?_
 refine A.yes rfl ?_
 refine GV rfl ?_
 refine A.ret ?_
 refine End.ret_then ?_
 refine End.ret_scope ?_
 exact ER rfl rfl
set_option maxHeartbeats 2000000 in
theorem Power_fnB (a : Nat) (n : Int) (ha : a < 256) (h0 : a ≠ 0) : Fn Tryz.prog 48 [.v (nB a), .v (.int .i64 n)] (.v (nB (gpz a n))) := by
 obtain ⟨r, hr, hr1, hr2, hr3⟩ := tmod255 n
 obtain ⟨m, hm⟩ : ∃ m : Nat, (m : Int) = n % 255 := ⟨(n % 255).toNat, by omega⟩
 have hg : gpz a n = gpow a m := by rw [gpz_pos h0]; congr 1; omega
 refine FV Tryz.func48 rfl Tryz.ntmps48 rfl fun w₀ => ?_
 refine GV rfl ?_
 refine A.scope ?_
 refine QS ?_
 refine GT ?_
 refine RV 2 rfl ?_
 refine RZ (.bool false) (by simp; omega) ?_
 refine RVN 4 rfl ?_
 refine A.no rfl ?_
 refine QK ?_
 refine GT ?_
 refine RM rfl ?_
 refine RS (ok_rem rfl rfl (by decide)) ?_; refine RZ (.int .i64 r) (by rw [hr]) ?_
 refine RVN 1 rfl ?_
 refine QS ?_
 refine GV rfl ?_
 refine A.cond rfl (fun hc15 => ?_) (fun hc15 => ?_)
 ·have hneg : r < 0 := by simpa using hc15
  refine GTE ?_
  refine RV 2 rfl ?_
  refine RZ (nI m) (by rw [wrap_i64 (by omega) (by omega)]; exact congrArg (Value.int .i64) (by omega)) ?_
  refine RVN 1 rfl ?_
  refine EN ?_
  refine GV rfl ?_
  refine QS ?_
  refine A.label ?_
  refine EN ?_
  refine QSB ?_
  refine A.loop (ι := Nat × Nat × Nat) (fun z => gm z.2.2 (gpow z.2.1 z.1) = gpow a m ∧ z.2.1 < 256 ∧ z.2.2 < 256 ∧ z.1 < 255) (fun z => [(0, .v (nB (z.2.1))), (1, .v (nI (z.1))), (5, .v (nB (z.2.2)))]) (fun z => z.1) (m, a, 1) ?_ ?_ ?_
  ·exact ⟨gm_one' (gpow_lt _), ha, by show 1 < 256; decide, by show m < 255; omega⟩
  ·exact (KC 0 rfl (KE 1 rfl (by first | rfl | exact congrArg (fun z : Int => D.v (.int .i64 z)) (show r = _ by omega)) (KC 5 rfl KN)))
  intro z hz
  obtain ⟨h1, h2, h3, h4⟩ := hz
  refine A.block ?_
  refine QSB ?_
  refine GV rfl ?_
  refine A.cond rfl (fun hc18 => ?_) (fun hc18 => ?_)
  ·have hn0 : z.1 = 0 := by simp at hc18; omega
   refine A.exit ?_
   refine End.exit_past (by decide) ?_
   refine End.exit_then ?_
   refine End.exit_past (by decide) ?_
   refine End.exit_then ?_
   refine End.exit_here ?_
   refine EN ?_
   refine GT ?_
   refine RM rfl ?_
   refine RZ (nB (gpz a n)) (congrArg (fun q : Nat => Value.int .u8 (q : Int)) (by rw [hg, ← h1, hn0]; exact (gm_one h3).symm)) ?_
   refine RVN 1 rfl ?_
   refine A.ret ?_
   refine End.ret_scope ?_
   exact ER rfl rfl
  ·have hn0 : z.1 ≠ 0 := by simp at hc18; omega
   refine GT ?_
   refine RV 2 rfl ?_
   refine RZ (nI (z.1 % 2)) (by rw [show IntKind.i64.bits = 64 from rfl, show (1 : Int) = ((1 : Nat) : Int) from rfl, and_i64N (by omega) (by decide), Nat.and_one_is_mod]) ?_
   refine RVN 2 rfl ?_
   refine A.cond rfl (fun hc21 => ?_) (fun hc21 => ?_)
   ·have hodd : z.1 % 2 = 1 := by simp at hc21; omega
    refine GTE ?_
    refine RV 2 rfl ?_
    refine RS (ok_call (Mul_fn z.2.2 z.2.1 h3 h2) (A2 rfl rfl)) ?_
    refine RVN 1 rfl ?_
    refine End.normal_block ?_
    refine EN ?_
    refine GT ?_
    refine RV 2 rfl ?_
    refine RS (ok_call (Mul_fn z.2.1 z.2.1 h2 h2) (A2 rfl rfl)) ?_
    refine RVN 1 rfl ?_
    refine GTE ?_
    refine RM rfl ?_
    refine RS (ok_shr rfl rfl (by decide)) ?_; refine RZ (nI (z.1 / 2)) (by rw [show min (Int.toNat 1) IntKind.i64.bits = 1 from rfl]; exact congrArg _ (shr_nat _ 1)) ?_
    refine RVN 1 rfl ?_
    refine End.normal_block ?_
    refine End.normal_then ?_
    refine End.again (z.1 / 2, gm z.2.1 z.2.1, (if z.1 % 2 = 1 then gm z.2.2 z.2.1 else z.2.2)) ?_ ?_ ?_
    ·exact ⟨(gpow_step h2 h3).trans h1, gm_lt _ h2, by show (if z.1 % 2 = 1 then gm z.2.2 z.2.1 else z.2.2) < 256; split <;> first | exact gm_lt _ h3 | exact h3, by show z.1 / 2 < 255; omega⟩
    ·show z.1 / 2 < z.1; omega
    ·exact (KC 0 rfl (KC 1 rfl (KE 5 rfl (show _ = D.v (nB ((if z.1 % 2 = 1 then gm z.2.2 z.2.1 else z.2.2))) from by first | rw [if_pos hodd] | rw [if_neg hodd]) KN)))
   ·have hodd : ¬ z.1 % 2 = 1 := by simp at hc21; omega
    refine A.skip ?_
    refine End.normal_block ?_
    refine EN ?_
    refine GT ?_
    refine RV 2 rfl ?_
    refine RS (ok_call (Mul_fn z.2.1 z.2.1 h2 h2) (A2 rfl rfl)) ?_
    refine RVN 1 rfl ?_
    refine GTE ?_
    refine RM rfl ?_
    refine RS (ok_shr rfl rfl (by decide)) ?_; refine RZ (nI (z.1 / 2)) (by rw [show min (Int.toNat 1) IntKind.i64.bits = 1 from rfl]; exact congrArg _ (shr_nat _ 1)) ?_
    refine RVN 1 rfl ?_
    refine End.normal_block ?_
    refine End.normal_then ?_
    refine End.again (z.1 / 2, gm z.2.1 z.2.1, (if z.1 % 2 = 1 then gm z.2.2 z.2.1 else z.2.2)) ?_ ?_ ?_
    ·exact ⟨(gpow_step h2 h3).trans h1, gm_lt _ h2, by show (if z.1 % 2 = 1 then gm z.2.2 z.2.1 else z.2.2) < 256; split <;> first | exact gm_lt _ h3 | exact h3, by show z.1 / 2 < 255; omega⟩
    ·show z.1 / 2 < z.1; omega
    ·exact (KC 0 rfl (KC 1 rfl (KE 5 rfl (show _ = D.v (nB ((if z.1 % 2 = 1 then gm z.2.2 z.2.1 else z.2.2))) from by first | rw [if_pos hodd] | rw [if_neg hodd]) KN)))
 ·have hneg : ¬ r < 0 := by simpa using hc15
  refine QK ?_
  refine GV rfl ?_
  refine QS ?_
  refine A.label ?_
  refine EN ?_
  refine QSB ?_
  refine A.loop (ι := Nat × Nat × Nat) (fun z => gm z.2.2 (gpow z.2.1 z.1) = gpow a m ∧ z.2.1 < 256 ∧ z.2.2 < 256 ∧ z.1 < 255) (fun z => [(0, .v (nB (z.2.1))), (1, .v (nI (z.1))), (5, .v (nB (z.2.2)))]) (fun z => z.1) (m, a, 1) ?_ ?_ ?_
  ·exact ⟨gm_one' (gpow_lt _), ha, by show 1 < 256; decide, by show m < 255; omega⟩
  ·exact (KC 0 rfl (KE 1 rfl (by first | rfl | exact congrArg (fun z : Int => D.v (.int .i64 z)) (show r = _ by omega)) (KC 5 rfl KN)))
  intro z hz
  obtain ⟨h1, h2, h3, h4⟩ := hz
  refine A.block ?_
  refine QSB ?_
  refine GV rfl ?_
  refine A.cond rfl (fun hc18 => ?_) (fun hc18 => ?_)
  ·have hn0 : z.1 = 0 := by simp at hc18; omega
   refine A.exit ?_
   refine End.exit_past (by decide) ?_
   refine End.exit_then ?_
   refine End.exit_past (by decide) ?_
   refine End.exit_then ?_
   refine End.exit_here ?_
   refine EN ?_
   refine GT ?_
   refine RM rfl ?_
   refine RZ (nB (gpz a n)) (congrArg (fun q : Nat => Value.int .u8 (q : Int)) (by rw [hg, ← h1, hn0]; exact (gm_one h3).symm)) ?_
   refine RVN 1 rfl ?_
   refine A.ret ?_
   refine End.ret_scope ?_
   exact ER rfl rfl
  ·have hn0 : z.1 ≠ 0 := by simp at hc18; omega
   refine GT ?_
   refine RV 2 rfl ?_
   refine RZ (nI (z.1 % 2)) (by rw [show IntKind.i64.bits = 64 from rfl, show (1 : Int) = ((1 : Nat) : Int) from rfl, and_i64N (by omega) (by decide), Nat.and_one_is_mod]) ?_
   refine RVN 2 rfl ?_
   refine A.cond rfl (fun hc21 => ?_) (fun hc21 => ?_)
   ·have hodd : z.1 % 2 = 1 := by simp at hc21; omega
    refine GTE ?_
    refine RV 2 rfl ?_
    refine RS (ok_call (Mul_fn z.2.2 z.2.1 h3 h2) (A2 rfl rfl)) ?_
    refine RVN 1 rfl ?_
    refine End.normal_block ?_
    refine EN ?_
    refine GT ?_
    refine RV 2 rfl ?_
    refine RS (ok_call (Mul_fn z.2.1 z.2.1 h2 h2) (A2 rfl rfl)) ?_
    refine RVN 1 rfl ?_
    refine GTE ?_
    refine RM rfl ?_
    refine RS (ok_shr rfl rfl (by decide)) ?_; refine RZ (nI (z.1 / 2)) (by rw [show min (Int.toNat 1) IntKind.i64.bits = 1 from rfl]; exact congrArg _ (shr_nat _ 1)) ?_
    refine RVN 1 rfl ?_
    refine End.normal_block ?_
    refine End.normal_then ?_
    refine End.again (z.1 / 2, gm z.2.1 z.2.1, (if z.1 % 2 = 1 then gm z.2.2 z.2.1 else z.2.2)) ?_ ?_ ?_
    ·exact ⟨(gpow_step h2 h3).trans h1, gm_lt _ h2, by show (if z.1 % 2 = 1 then gm z.2.2 z.2.1 else z.2.2) < 256; split <;> first | exact gm_lt _ h3 | exact h3, by show z.1 / 2 < 255; omega⟩
    ·show z.1 / 2 < z.1; omega
    ·exact (KC 0 rfl (KC 1 rfl (KE 5 rfl (show _ = D.v (nB ((if z.1 % 2 = 1 then gm z.2.2 z.2.1 else z.2.2))) from by first | rw [if_pos hodd] | rw [if_neg hodd]) KN)))
   ·have hodd : ¬ z.1 % 2 = 1 := by simp at hc21; omega
    refine A.skip ?_
    refine End.normal_block ?_
    refine EN ?_
    refine GT ?_
    refine RV 2 rfl ?_
    refine RS (ok_call (Mul_fn z.2.1 z.2.1 h2 h2) (A2 rfl rfl)) ?_
    refine RVN 1 rfl ?_
    refine GTE ?_
    refine RM rfl ?_
    refine RS (ok_shr rfl rfl (by decide)) ?_; refine RZ (nI (z.1 / 2)) (by rw [show min (Int.toNat 1) IntKind.i64.bits = 1 from rfl]; exact congrArg _ (shr_nat _ 1)) ?_
    refine RVN 1 rfl ?_
    refine End.normal_block ?_
    refine End.normal_then ?_
    refine End.again (z.1 / 2, gm z.2.1 z.2.1, (if z.1 % 2 = 1 then gm z.2.2 z.2.1 else z.2.2)) ?_ ?_ ?_
    ·exact ⟨(gpow_step h2 h3).trans h1, gm_lt _ h2, by show (if z.1 % 2 = 1 then gm z.2.2 z.2.1 else z.2.2) < 256; split <;> first | exact gm_lt _ h3 | exact h3, by show z.1 / 2 < 255; omega⟩
    ·show z.1 / 2 < z.1; omega
    ·exact (KC 0 rfl (KC 1 rfl (KE 5 rfl (show _ = D.v (nB ((if z.1 % 2 = 1 then gm z.2.2 z.2.1 else z.2.2))) from by first | rw [if_pos hodd] | rw [if_neg hodd]) KN)))
set_option maxHeartbeats 2000000 in
theorem Power_fnC (a : Nat) (n : Int) (ha : a < 256) (h0 : a = 0) (hn : n = 0) : Fn Tryz.prog 48 [.v (nB a), .v (.int .i64 n)] (.v (nB (gpz a n))) := by
 obtain ⟨r, hr, hr1, hr2, hr3⟩ := tmod255 n
 obtain ⟨m, hm⟩ : ∃ m : Nat, (m : Int) = n % 255 := ⟨(n % 255).toNat, by omega⟩
 have hg : gpz a n = gpow a m := by subst hn; rw [show m = 0 from by omega, h0]; rfl
 refine FV Tryz.func48 rfl Tryz.ntmps48 rfl fun w₀ => ?_
 refine GV rfl ?_
 refine A.scope ?_
 refine QS ?_
 refine GT ?_
 refine RV 2 rfl ?_
 refine RZ (.bool true) (by simp [h0]) ?_
 refine RV 3 rfl ?_
 refine RZ (.bool false) (by simp [hn]) ?_
 refine RVN 1 rfl ?_
 refine A.no rfl ?_
 refine QK ?_
 refine GT ?_
 refine RM rfl ?_
 refine RS (ok_rem rfl rfl (by decide)) ?_; refine RZ (.int .i64 r) (by rw [hr]) ?_
 refine RVN 1 rfl ?_
 refine QS ?_
 refine GV rfl ?_
 refine A.cond rfl (fun hc15 => ?_) (fun hc15 => ?_)
 ·have hneg : r < 0 := by simpa using hc15
  refine GTE ?_
  refine RV 2 rfl ?_
  refine RZ (nI m) (by rw [wrap_i64 (by omega) (by omega)]; exact congrArg (Value.int .i64) (by omega)) ?_
  refine RVN 1 rfl ?_
  refine EN ?_
  refine GV rfl ?_
  refine QS ?_
  refine A.label ?_
  refine EN ?_
  refine QSB ?_
  refine A.loop (ι := Nat × Nat × Nat) (fun z => gm z.2.2 (gpow z.2.1 z.1) = gpow a m ∧ z.2.1 < 256 ∧ z.2.2 < 256 ∧ z.1 < 255) (fun z => [(0, .v (nB (z.2.1))), (1, .v (nI (z.1))), (5, .v (nB (z.2.2)))]) (fun z => z.1) (m, a, 1) ?_ ?_ ?_
  ·exact ⟨gm_one' (gpow_lt _), ha, by show 1 < 256; decide, by show m < 255; omega⟩
  ·exact (KC 0 rfl (KE 1 rfl (by first | rfl | exact congrArg (fun z : Int => D.v (.int .i64 z)) (show r = _ by omega)) (KC 5 rfl KN)))
  intro z hz
  obtain ⟨h1, h2, h3, h4⟩ := hz
  refine A.block ?_
  refine QSB ?_
  refine GV rfl ?_
  refine A.cond rfl (fun hc18 => ?_) (fun hc18 => ?_)
  ·have hn0 : z.1 = 0 := by simp at hc18; omega
   refine A.exit ?_
   refine End.exit_past (by decide) ?_
   refine End.exit_then ?_
   refine End.exit_past (by decide) ?_
   refine End.exit_then ?_
   refine End.exit_here ?_
   refine EN ?_
   refine GT ?_
   refine RM rfl ?_
   refine RZ (nB (gpz a n)) (congrArg (fun q : Nat => Value.int .u8 (q : Int)) (by rw [hg, ← h1, hn0]; exact (gm_one h3).symm)) ?_
   refine RVN 1 rfl ?_
   refine A.ret ?_
   refine End.ret_scope ?_
   exact ER rfl rfl
  ·have hn0 : z.1 ≠ 0 := by simp at hc18; omega
   refine GT ?_
   refine RV 2 rfl ?_
   refine RZ (nI (z.1 % 2)) (by rw [show IntKind.i64.bits = 64 from rfl, show (1 : Int) = ((1 : Nat) : Int) from rfl, and_i64N (by omega) (by decide), Nat.and_one_is_mod]) ?_
   refine RVN 2 rfl ?_
   refine A.cond rfl (fun hc21 => ?_) (fun hc21 => ?_)
   ·have hodd : z.1 % 2 = 1 := by simp at hc21; omega
    refine GTE ?_
    refine RV 2 rfl ?_
    refine RS (ok_call (Mul_fn z.2.2 z.2.1 h3 h2) (A2 rfl rfl)) ?_
    refine RVN 1 rfl ?_
    refine End.normal_block ?_
    refine EN ?_
    refine GT ?_
    refine RV 2 rfl ?_
    refine RS (ok_call (Mul_fn z.2.1 z.2.1 h2 h2) (A2 rfl rfl)) ?_
    refine RVN 1 rfl ?_
    refine GTE ?_
    refine RM rfl ?_
    refine RS (ok_shr rfl rfl (by decide)) ?_; refine RZ (nI (z.1 / 2)) (by rw [show min (Int.toNat 1) IntKind.i64.bits = 1 from rfl]; exact congrArg _ (shr_nat _ 1)) ?_
    refine RVN 1 rfl ?_
    refine End.normal_block ?_
    refine End.normal_then ?_
    refine End.again (z.1 / 2, gm z.2.1 z.2.1, (if z.1 % 2 = 1 then gm z.2.2 z.2.1 else z.2.2)) ?_ ?_ ?_
    ·exact ⟨(gpow_step h2 h3).trans h1, gm_lt _ h2, by show (if z.1 % 2 = 1 then gm z.2.2 z.2.1 else z.2.2) < 256; split <;> first | exact gm_lt _ h3 | exact h3, by show z.1 / 2 < 255; omega⟩
    ·show z.1 / 2 < z.1; omega
    ·exact (KC 0 rfl (KC 1 rfl (KE 5 rfl (show _ = D.v (nB ((if z.1 % 2 = 1 then gm z.2.2 z.2.1 else z.2.2))) from by first | rw [if_pos hodd] | rw [if_neg hodd]) KN)))
   ·have hodd : ¬ z.1 % 2 = 1 := by simp at hc21; omega
    refine A.skip ?_
    refine End.normal_block ?_
    refine EN ?_
    refine GT ?_
    refine RV 2 rfl ?_
    refine RS (ok_call (Mul_fn z.2.1 z.2.1 h2 h2) (A2 rfl rfl)) ?_
    refine RVN 1 rfl ?_
    refine GTE ?_
    refine RM rfl ?_
    refine RS (ok_shr rfl rfl (by decide)) ?_; refine RZ (nI (z.1 / 2)) (by rw [show min (Int.toNat 1) IntKind.i64.bits = 1 from rfl]; exact congrArg _ (shr_nat _ 1)) ?_
    refine RVN 1 rfl ?_
    refine End.normal_block ?_
    refine End.normal_then ?_
    refine End.again (z.1 / 2, gm z.2.1 z.2.1, (if z.1 % 2 = 1 then gm z.2.2 z.2.1 else z.2.2)) ?_ ?_ ?_
    ·exact ⟨(gpow_step h2 h3).trans h1, gm_lt _ h2, by show (if z.1 % 2 = 1 then gm z.2.2 z.2.1 else z.2.2) < 256; split <;> first | exact gm_lt _ h3 | exact h3, by show z.1 / 2 < 255; omega⟩
    ·show z.1 / 2 < z.1; omega
    ·exact (KC 0 rfl (KC 1 rfl (KE 5 rfl (show _ = D.v (nB ((if z.1 % 2 = 1 then gm z.2.2 z.2.1 else z.2.2))) from by first | rw [if_pos hodd] | rw [if_neg hodd]) KN)))
 ·have hneg : ¬ r < 0 := by simpa using hc15
  refine QK ?_
  refine GV rfl ?_
  refine QS ?_
  refine A.label ?_
  refine EN ?_
  refine QSB ?_
  refine A.loop (ι := Nat × Nat × Nat) (fun z => gm z.2.2 (gpow z.2.1 z.1) = gpow a m ∧ z.2.1 < 256 ∧ z.2.2 < 256 ∧ z.1 < 255) (fun z => [(0, .v (nB (z.2.1))), (1, .v (nI (z.1))), (5, .v (nB (z.2.2)))]) (fun z => z.1) (m, a, 1) ?_ ?_ ?_
  ·exact ⟨gm_one' (gpow_lt _), ha, by show 1 < 256; decide, by show m < 255; omega⟩
  ·exact (KC 0 rfl (KE 1 rfl (by first | rfl | exact congrArg (fun z : Int => D.v (.int .i64 z)) (show r = _ by omega)) (KC 5 rfl KN)))
  intro z hz
  obtain ⟨h1, h2, h3, h4⟩ := hz
  refine A.block ?_
  refine QSB ?_
  refine GV rfl ?_
  refine A.cond rfl (fun hc18 => ?_) (fun hc18 => ?_)
  ·have hn0 : z.1 = 0 := by simp at hc18; omega
   refine A.exit ?_
   refine End.exit_past (by decide) ?_
   refine End.exit_then ?_
   refine End.exit_past (by decide) ?_
   refine End.exit_then ?_
   refine End.exit_here ?_
   refine EN ?_
   refine GT ?_
   refine RM rfl ?_
   refine RZ (nB (gpz a n)) (congrArg (fun q : Nat => Value.int .u8 (q : Int)) (by rw [hg, ← h1, hn0]; exact (gm_one h3).symm)) ?_
   refine RVN 1 rfl ?_
   refine A.ret ?_
   refine End.ret_scope ?_
   exact ER rfl rfl
  ·have hn0 : z.1 ≠ 0 := by simp at hc18; omega
   refine GT ?_
   refine RV 2 rfl ?_
   refine RZ (nI (z.1 % 2)) (by rw [show IntKind.i64.bits = 64 from rfl, show (1 : Int) = ((1 : Nat) : Int) from rfl, and_i64N (by omega) (by decide), Nat.and_one_is_mod]) ?_
   refine RVN 2 rfl ?_
   refine A.cond rfl (fun hc21 => ?_) (fun hc21 => ?_)
   ·have hodd : z.1 % 2 = 1 := by simp at hc21; omega
    refine GTE ?_
    refine RV 2 rfl ?_
    refine RS (ok_call (Mul_fn z.2.2 z.2.1 h3 h2) (A2 rfl rfl)) ?_
    refine RVN 1 rfl ?_
    refine End.normal_block ?_
    refine EN ?_
    refine GT ?_
    refine RV 2 rfl ?_
    refine RS (ok_call (Mul_fn z.2.1 z.2.1 h2 h2) (A2 rfl rfl)) ?_
    refine RVN 1 rfl ?_
    refine GTE ?_
    refine RM rfl ?_
    refine RS (ok_shr rfl rfl (by decide)) ?_; refine RZ (nI (z.1 / 2)) (by rw [show min (Int.toNat 1) IntKind.i64.bits = 1 from rfl]; exact congrArg _ (shr_nat _ 1)) ?_
    refine RVN 1 rfl ?_
    refine End.normal_block ?_
    refine End.normal_then ?_
    refine End.again (z.1 / 2, gm z.2.1 z.2.1, (if z.1 % 2 = 1 then gm z.2.2 z.2.1 else z.2.2)) ?_ ?_ ?_
    ·exact ⟨(gpow_step h2 h3).trans h1, gm_lt _ h2, by show (if z.1 % 2 = 1 then gm z.2.2 z.2.1 else z.2.2) < 256; split <;> first | exact gm_lt _ h3 | exact h3, by show z.1 / 2 < 255; omega⟩
    ·show z.1 / 2 < z.1; omega
    ·exact (KC 0 rfl (KC 1 rfl (KE 5 rfl (show _ = D.v (nB ((if z.1 % 2 = 1 then gm z.2.2 z.2.1 else z.2.2))) from by first | rw [if_pos hodd] | rw [if_neg hodd]) KN)))
   ·have hodd : ¬ z.1 % 2 = 1 := by simp at hc21; omega
    refine A.skip ?_
    refine End.normal_block ?_
    refine EN ?_
    refine GT ?_
    refine RV 2 rfl ?_
    refine RS (ok_call (Mul_fn z.2.1 z.2.1 h2 h2) (A2 rfl rfl)) ?_
    refine RVN 1 rfl ?_
    refine GTE ?_
    refine RM rfl ?_
    refine RS (ok_shr rfl rfl (by decide)) ?_; refine RZ (nI (z.1 / 2)) (by rw [show min (Int.toNat 1) IntKind.i64.bits = 1 from rfl]; exact congrArg _ (shr_nat _ 1)) ?_
    refine RVN 1 rfl ?_
    refine End.normal_block ?_
    refine End.normal_then ?_
    refine End.again (z.1 / 2, gm z.2.1 z.2.1, (if z.1 % 2 = 1 then gm z.2.2 z.2.1 else z.2.2)) ?_ ?_ ?_
    ·exact ⟨(gpow_step h2 h3).trans h1, gm_lt _ h2, by show (if z.1 % 2 = 1 then gm z.2.2 z.2.1 else z.2.2) < 256; split <;> first | exact gm_lt _ h3 | exact h3, by show z.1 / 2 < 255; omega⟩
    ·show z.1 / 2 < z.1; omega
    ·exact (KC 0 rfl (KC 1 rfl (KE 5 rfl (show _ = D.v (nB ((if z.1 % 2 = 1 then gm z.2.2 z.2.1 else z.2.2))) from by first | rw [if_pos hodd] | rw [if_neg hodd]) KN)))
theorem Power_fn (a : Nat) (n : Int) (ha : a < 256) : Fn Tryz.prog 48 [.v (nB a), .v (.int .i64 n)] (.v (nB (gpz a n))) := by
 by_cases h0 : a = 0
 ·by_cases hn : n = 0
  ·exact Power_fnC a n ha h0 hn
  ·subst h0
   rw [gpz_zero hn]
   exact Power_fnA n hn
 ·exact Power_fnB a n ha h0
theorem Inverse_fn (a : Nat) (ha : a < 256) : Fn Tryz.prog 77 [.v (nB a)] (.v (nB (ginv a))) := by
 refine FV Tryz.func77 rfl Tryz.ntmps77 rfl fun w₀ => ?_
 refine GV rfl ?_
 refine GT ?_
 refine RM rfl ?_
 refine RS (ok_strIndex (l := itab) a Tryz.underlying9 rfl rfl rfl (itab_get ha)) ?_; refine RZ (nB (ginv a)) (rfl) ?_
 refine RVN 1 rfl ?_
 refine A.ret ?_
 exact ER rfl rfl
theorem RotateLeft8_fn (a k : Nat) (ha : a < 256) (hk : k < 8) : Fn Tryz.prog 78 [.v (nB a), .v (nI k)] (.v (nB (rotl8 a k))) := by
 refine FV Tryz.func78 rfl Tryz.ntmps78 rfl fun w₀ => ?_
 refine GV rfl ?_
 refine GT ?_
 refine RM rfl ?_
 refine RS (ok_conv Tryz.underlying3 Tryz.underlying138 rfl) ?_; refine RZ (nQ k) (by rw [wrapN_u64 (by omega)]) ?_
 refine RB rfl rfl rfl ?_
 refine RZ (nQ k) (by rw [show IntKind.u64.bits = 64 from rfl, show (7 : Int) = ((7 : Nat) : Int) from rfl, and_u64_nat (by omega) (by decide), show k &&& 7 = k % 8 from Nat.and_two_pow_sub_one_eq_mod k 3, Nat.mod_eq_of_lt hk]) ?_
 refine RVN 1 rfl ?_
 refine GT ?_
 refine RV 2 rfl ?_
 refine RS (ok_shl rfl rfl (by omega)) ?_; refine RZ (nB (a * 2 ^ k % 256)) (by rw [Int.toNat_natCast, show min k IntKind.u8.bits = k from by simp only [IntKind.bits]; omega, show (a : Int) * 2 ^ k = ((a * 2 ^ k : Nat) : Int) from by simp, wrap_u8N]) ?_
 refine RV 3 rfl ?_
 refine RZ (nQ (8 - k)) (by rw [wrap_u64 (by omega) (by omega)]; exact congrArg (Value.int .u64) (by omega)) ?_
 refine RS (ok_shr rfl rfl (by omega)) ?_; refine RZ (nB (a / 2 ^ (8 - k))) (by rw [Int.toNat_natCast, show min (8 - k) IntKind.u8.bits = 8 - k from by simp only [IntKind.bits]; omega]; exact congrArg _ (shr_nat _ _)) ?_
 refine RB rfl rfl rfl ?_
 refine RZ (nB (rotl8 a k)) (by rw [show IntKind.u8.bits = 8 from rfl, or_u8N (Nat.mod_lt _ (by decide)) (Nat.lt_of_le_of_lt (Nat.div_le_self _ _) ha)]; rfl) ?_
 refine RVN 1 rfl ?_
 refine A.ret ?_
 exact ER rfl rfl
theorem xor_lt8 {a b : Nat} (ha : a < 256) (hb : b < 256) : a ^^^ b < 256 := Nat.xor_lt_two_pow (n := 8) ha hb
theorem Sub_fn (a : Nat) (ha : a < 256) : Fn Tryz.prog 30 [.v (nB a)] (.v (nB (sub8 a))) := by
 refine FV Tryz.func30 rfl Tryz.ntmps30 rfl fun w₀ => ?_
 refine GV rfl ?_
 refine GT ?_
 refine RM rfl ?_
 refine RS (ok_call (Inverse_fn a ha) (Args.cons rfl LA Args.nil)) ?_
 refine RVN 1 rfl ?_
 refine GT ?_
 refine RV 2 rfl ?_
 refine RS (ok_call (RotateLeft8_fn (ginv a) 1 (ginv_lt a) (by decide)) (Args.cons rfl LA (Args.cons rfl LA Args.nil))) ?_
 refine RB rfl rfl rfl ?_
 refine RZ (nB ((ginv a) ^^^ rotl8 (ginv a) 1)) (by rw [show IntKind.u8.bits = 8 from rfl, xor_u8N (ginv_lt a) (rotl8_lt _ (ginv_lt a))]) ?_
 refine RM rfl ?_
 refine RS (ok_call (RotateLeft8_fn (ginv a) 2 (ginv_lt a) (by decide)) (Args.cons rfl LA (Args.cons rfl LA Args.nil))) ?_
 refine RB rfl rfl rfl ?_
 refine RZ (nB ((ginv a) ^^^ rotl8 (ginv a) 1 ^^^ rotl8 (ginv a) 2)) (by rw [show IntKind.u8.bits = 8 from rfl, xor_u8N (xor_lt8 (ginv_lt a) (rotl8_lt _ (ginv_lt a))) (rotl8_lt _ (ginv_lt a))]) ?_
 refine RM rfl ?_
 refine RS (ok_call (RotateLeft8_fn (ginv a) 3 (ginv_lt a) (by decide)) (Args.cons rfl LA (Args.cons rfl LA Args.nil))) ?_
 refine RB rfl rfl rfl ?_
 refine RZ (nB ((ginv a) ^^^ rotl8 (ginv a) 1 ^^^ rotl8 (ginv a) 2 ^^^ rotl8 (ginv a) 3)) (by rw [show IntKind.u8.bits = 8 from rfl, xor_u8N (xor_lt8 (xor_lt8 (ginv_lt a) (rotl8_lt _ (ginv_lt a))) (rotl8_lt _ (ginv_lt a))) (rotl8_lt _ (ginv_lt a))]) ?_
 refine RM rfl ?_
 refine RS (ok_call (RotateLeft8_fn (ginv a) 4 (ginv_lt a) (by decide)) (Args.cons rfl LA (Args.cons rfl LA Args.nil))) ?_
 refine RB rfl rfl rfl ?_
 refine RZ (nB ((ginv a) ^^^ rotl8 (ginv a) 1 ^^^ rotl8 (ginv a) 2 ^^^ rotl8 (ginv a) 3 ^^^ rotl8 (ginv a) 4)) (by rw [show IntKind.u8.bits = 8 from rfl, xor_u8N (xor_lt8 (xor_lt8 (xor_lt8 (ginv_lt a) (rotl8_lt _ (ginv_lt a))) (rotl8_lt _ (ginv_lt a))) (rotl8_lt _ (ginv_lt a))) (rotl8_lt _ (ginv_lt a))]) ?_
 refine RB rfl rfl rfl ?_
 refine RZ (nB (sub8 a)) (by rw [show IntKind.u8.bits = 8 from rfl, show (99 : Int) = ((99 : Nat) : Int) from rfl, xor_u8N (xor_lt8 (xor_lt8 (xor_lt8 (xor_lt8 (ginv_lt a) (rotl8_lt _ (ginv_lt a))) (rotl8_lt _ (ginv_lt a))) (rotl8_lt _ (ginv_lt a))) (rotl8_lt _ (ginv_lt a))) (by decide)]; rfl) ?_
 refine RVN 1 rfl ?_
 refine A.ret ?_
 exact ER rfl rfl
theorem Back_fn (a : Nat) (ha : a < 256) : Fn Tryz.prog 105 [.v (nB a)] (.v (nB (back8 a))) := by
 refine FV Tryz.func105 rfl Tryz.ntmps105 rfl fun w₀ => ?_
 refine GV rfl ?_
 refine GT ?_
 refine RM rfl ?_
 refine RS (ok_call (RotateLeft8_fn a 1 ha (by decide)) (Args.cons rfl LA (Args.cons rfl LA Args.nil))) ?_
 refine RM rfl ?_
 refine RS (ok_call (RotateLeft8_fn a 3 ha (by decide)) (Args.cons rfl LA (Args.cons rfl LA Args.nil))) ?_
 refine RB rfl rfl rfl ?_
 refine RZ (nB (rotl8 a 1 ^^^ rotl8 a 3)) (by rw [show IntKind.u8.bits = 8 from rfl, xor_u8N (rotl8_lt _ ha) (rotl8_lt _ ha)]) ?_
 refine RM rfl ?_
 refine RS (ok_call (RotateLeft8_fn a 6 ha (by decide)) (Args.cons rfl LA (Args.cons rfl LA Args.nil))) ?_
 refine RB rfl rfl rfl ?_
 refine RZ (nB (rotl8 a 1 ^^^ rotl8 a 3 ^^^ rotl8 a 6)) (by rw [show IntKind.u8.bits = 8 from rfl, xor_u8N (xor_lt8 (rotl8_lt _ ha) (rotl8_lt _ ha)) (rotl8_lt _ ha)]) ?_
 refine RB rfl rfl rfl ?_
 refine RZ (nB (rotl8 a 1 ^^^ rotl8 a 3 ^^^ rotl8 a 6 ^^^ 5)) (by rw [show IntKind.u8.bits = 8 from rfl, show (5 : Int) = ((5 : Nat) : Int) from rfl, xor_u8N (xor_lt8 (xor_lt8 (rotl8_lt _ ha) (rotl8_lt _ ha)) (rotl8_lt _ ha)) (by decide)]) ?_
 refine RVN 1 rfl ?_
 refine GT ?_
 refine RM rfl ?_
 refine RS (ok_call (Inverse_fn (rotl8 a 1 ^^^ rotl8 a 3 ^^^ rotl8 a 6 ^^^ 5) (xor_lt8 (xor_lt8 (xor_lt8 (rotl8_lt _ ha) (rotl8_lt _ ha)) (rotl8_lt _ ha)) (by decide))) (Args.cons rfl LA Args.nil)) ?_
 refine RVN 1 rfl ?_
 refine A.ret ?_
 exact ER rfl rfl
end Go.Proofs.YtffiflfjlemggaaGreatDoor
