/-
  The contracts of package fields: products, powers, inverses, substitutes.
-/
import Derived.Test.YthggljahgnjcbaaC05a
namespace Go.Proofs.Ythggljahgnjcbaa
open Go Go.RowKit
set_option linter.unusedVariables false
theorem xt_go (a : Nat) : (2 * a % 256) ^^^ mask (a.testBit 7) 27 = xt a := rfl
theorem bit7 {a : Nat} (ha : a < 256) : a / 128 = (a.testBit 7).toNat := by rw [Nat.toNat_testBit, show (2 : Nat) ^ 7 = 128 from rfl]; omega
theorem mask27 (t : Bool) : mask t 27 < 256 := Nat.lt_of_le_of_lt (mask_le t 27) (by decide)
theorem mask_lt (t : Bool) {c : Nat} (hc : c < 256) : mask t c < 256 := Nat.lt_of_le_of_lt (mask_le t c) hc

theorem mul1_fnW (g a : Nat) (ha : a < 256) : FnW Try.prog 51 [] 5 g [.int .u8 ((a : Nat) : Int)] [.int .u8 ((xt a : Nat) : Int)] ([ptr g].map D.v) := by
  refine FnW.of (n := 9) (kb := 1000080) (kw := 1000081) Try.func51 rfl (by kernel_rfl) Try.ntmps51 (by simp) (by decide) (fun p hp => by cases hp) (by decide) (by decide) [(0, .v (ptr g))]
    (fun p hp => by simp only [List.mem_cons, List.not_mem_nil, or_false] at hp; rcases hp with rfl; exact ⟨_, rfl, rfl⟩) fun w₀ w₁ hw hM => ?_
  have hBg : w₀.heap.size ≤ g := Nat.le_of_eq hw
  refine A.regs (by kernel_rfl) (by kernel_rfl) (.inl rfl) ?_
  refine RunTK.last ?_
  refine RunK.step rfl rfl (ok_loadV (s := 1000080) (by decide) Try.underlying5 rfl rfl rfl (rfl)) ?_
  refine RunK.step rfl rfl (ok_shr rfl rfl (by decide)) ?_; refine RunK.as (.int .u8 (((a.testBit 7).toNat : Nat) : Int)) (by rw [← bit7 ha]; exact congrArg _ (shr_nat a 7)) ?_
  refine RunK.step rfl rfl (ok_assign rfl) ?_
  refine RunK.nil ?_
  refine A.sub (Sub.cons (t := 0) rfl (Sub.cons (t := 1) rfl (Sub.cons (t := 1000080) rfl (Sub.cons (t := 1000081) rfl Sub.nil)))) ?_
  refine A.reg (by kernel_rfl) (by kernel_rfl) (.inl rfl) ?_
  refine RunTK.eff 5 (by decide) rfl (.inl rfl) ?_
  refine RunK.step rfl rfl (ok_loadV (s := 1000080) (by decide) Try.underlying5 rfl rfl rfl (rfl)) ?_
  refine RunK.step rfl rfl (ok_shl rfl rfl (by decide)) ?_; refine RunK.as (.int .u8 ((2 * a % 256 : Nat) : Int)) (by rw [show (a : Int) * 2 ^ min (Int.toNat 1) IntKind.u8.bits = ((2 * a : Nat) : Int) from by rw [show min (Int.toNat 1) IntKind.u8.bits = 1 from rfl]; omega, wrap_u8N]) ?_
  refine RunK.step rfl rfl (ok_move rfl) ?_
  refine RunK.step rfl rfl (ok_bin rfl rfl rfl) ?_; refine RunK.as (.int .u8 ((mask (a.testBit 7) 27 : Nat) : Int)) (by cases a.testBit 7 <;> rfl) ?_
  refine RunK.step rfl rfl (ok_bin rfl rfl rfl) ?_; refine RunK.as (.int .u8 ((xt a : Nat) : Int)) (by rw [show IntKind.u8.bits = 8 from rfl, xor_u8N (Nat.mod_lt _ (by decide)) (mask27 _)]; rfl) ?_
  refine RunK.nil ?_
  refine ⟨_, eff_storeS (n := 9) (s := 1000080) info5 rfl rfl rfl hBg rfl (by simp) (LeftS.cons (t := 0) rfl (Surv.v _) (LeftS.cons (t := 1) rfl (Surv.v _) (LeftS.cons (t := 4) rfl (Surv.v _) (LeftS.cons (t := 5) rfl (Surv.v _) (LeftS.cons (t := 6) rfl (Surv.v _) (LeftS.cons (t := 7) rfl (Surv.v _) (LeftS.cons (t := 8) rfl (Surv.v _) (LeftS.cons (t := 1000081) rfl (Surv.wrote) LeftS.nil)))))))), ?_⟩
  refine RunTK.last ?_
  refine RunK.nil ?_
  refine End.sub (Sub.cons (t := 1000080) rfl (Sub.cons (t := 1000081) rfl Sub.nil)) ?_
  exact End.wrote (kb := 1000080) (kw := 1000081) rfl rfl rfl rfl
set_option maxHeartbeats 1000000 in
theorem Mul_fn (a b : Nat) (ha : a < 256) (hb : b < 256) : Fn Try.prog 43 [.v (.int .u8 ((a : Nat) : Int)), .v (.int .u8 ((b : Nat) : Int))] (.v (.int .u8 ((gm a b : Nat) : Int))) := by
  refine Fn.of Try.func43 rfl (by kernel_rfl) Try.ntmps43 (by simp) (fun w => [(0, .v (.int .u8 ((a : Nat) : Int))), (1, .v (.int .u8 ((b : Nat) : Int)))]) (fun w => (Start.v rfl (Start.v rfl Start.nil))) fun w₀ => ?_
  refine A.regs (by kernel_rfl) (by kernel_rfl) (.inl rfl) ?_
  refine RunTK.new 0 (by decide) rfl (.inl rfl) ?_
  refine RunK.nil ?_
  refine ⟨_, _, eff_box1 (n := 24) (d := 2) (k := 1000002) rfl rfl (by decide), fun b2 hb2 => ?_⟩
  have hBb2 := hb2.1
  refine RunTK.last ?_
  refine RunK.step rfl rfl (ok_assign rfl) ?_
  refine RunK.nil ?_
  refine A.sub (Sub.cons (t := 1) rfl (Sub.cons (t := 2) rfl (Sub.cons (t := 1000002) rfl Sub.nil))) ?_
  refine A.regs (by kernel_rfl) (by kernel_rfl) (.inl rfl) ?_
  refine RunTK.last ?_
  refine RunK.step rfl rfl (ok_makeFuncN [ptr b2] ⟨rfl, trivial⟩) ?_
  refine RunK.step rfl rfl (ok_assign rfl) ?_
  refine RunK.nil ?_
  refine A.sub (Sub.cons (t := 1) rfl (Sub.cons (t := 2) rfl (Sub.cons (t := 5) rfl (Sub.cons (t := 1000002) rfl Sub.nil)))) ?_
  refine A.regs (by kernel_rfl) (by kernel_rfl) (.inl rfl) ?_
  refine RunTK.last ?_
  refine RunK.step rfl rfl (ok_assign rfl) ?_
  refine RunK.nil ?_
  refine A.sub (Sub.cons (t := 1) rfl (Sub.cons (t := 2) rfl (Sub.cons (t := 5) rfl (Sub.cons (t := 6) rfl (Sub.cons (t := 1000002) rfl Sub.nil))))) ?_
  refine A.seq ?_
  refine A.regs (by kernel_rfl) (by kernel_rfl) (.inl rfl) ?_
  refine RunTK.last ?_
  refine RunK.step rfl rfl (ok_move rfl) ?_
  refine RunK.nil ?_
  refine A.sub (Sub.cons (t := 1) rfl (Sub.cons (t := 2) rfl (Sub.cons (t := 5) rfl (Sub.cons (t := 6) rfl (Sub.cons (t := 9) rfl (Sub.cons (t := 1000002) rfl Sub.nil)))))) ?_
  refine A.block ?_
  refine A.loop (ι := Nat) (fun i => i ≤ 8) (fun i => [(1, .v (.int .u8 ((b : Nat) : Int))), (2, .v (ptr b2)), (5, .v (.func (.func 51) #[] #[ptr b2])), (6, .v (.int .u8 ((gacc a b i : Nat) : Int))), (9, .v (.int .i64 ((i : Nat) : Int))), (1000002, blk b2 5 [.int .u8 ((xts a i : Nat) : Int)])]) (fun i => 8 - i) 0 ?_ ?_ ?_
  · exact Nat.zero_le _
  · exact (Sub.cons (t := 1) rfl (Sub.cons (t := 2) rfl (Sub.cons (t := 5) rfl (Sub.cons (t := 6) rfl (Sub.cons (t := 9) rfl (Sub.cons (t := 1000002) rfl Sub.nil))))))
  intro i hi
  refine A.regs (by kernel_rfl) (by kernel_rfl) (.inl rfl) ?_
  refine RunTK.last ?_
  refine RunK.step rfl rfl (ok_bin rfl rfl rfl) ?_
  refine RunK.nil ?_
  refine A.sub (Sub.cons (t := 1) rfl (Sub.cons (t := 2) rfl (Sub.cons (t := 5) rfl (Sub.cons (t := 6) rfl (Sub.cons (t := 9) rfl (Sub.cons (t := 10) rfl (Sub.cons (t := 1000002) rfl Sub.nil))))))) ?_
  refine A.seq ?_
  refine A.cond rfl (fun hc10 => ?_) (fun hc10 => ?_)
  · have hlt : i < 8 := by simp at hc10; omega
    refine A.skip ?_
    refine End.normal_then (End.code ?_)
    refine A.seq ?_
    refine A.block ?_
    refine A.regs (by kernel_rfl) (by kernel_rfl) (.inl rfl) ?_
    refine RunTK.last ?_
    refine RunK.step rfl rfl (ok_move rfl) ?_
    refine RunK.step rfl rfl (ok_assign rfl) ?_
    refine RunK.nil ?_
    refine A.sub (Sub.cons (t := 1) rfl (Sub.cons (t := 2) rfl (Sub.cons (t := 5) rfl (Sub.cons (t := 6) rfl (Sub.cons (t := 7) rfl (Sub.cons (t := 9) rfl (Sub.cons (t := 1000002) rfl Sub.nil))))))) ?_
    refine A.regs (by kernel_rfl) (by kernel_rfl) (.inr (by kernel_rfl)) ?_
    refine RunTK.last ?_
    refine RunK.step rfl rfl (ok_move rfl) ?_
    refine RunK.step rfl rfl (ok_move rfl) ?_
    refine RunK.step rfl rfl (ok_move rfl) ?_
    refine RunK.step rfl rfl (ok_shr rfl rfl (by omega)) ?_; refine RunK.as (.int .u8 ((b / 2 ^ (i) : Nat) : Int)) (by rw [Int.toNat_natCast, show min (i) IntKind.u8.bits = i from by simp only [IntKind.bits]; omega]; exact congrArg _ (shr_nat _ _)) ?_
    refine RunK.step rfl rfl (ok_bin rfl rfl rfl) ?_; refine RunK.as (.int .u8 (((b.testBit i).toNat : Nat) : Int)) (by rw [show IntKind.u8.bits = 8 from rfl, show (1 : Int) = ((1 : Nat) : Int) from rfl, and_u8N (Nat.lt_of_le_of_lt (Nat.div_le_self _ _) hb) (by decide), Nat.and_one_is_mod, Nat.toNat_testBit]) ?_
    refine RunK.step rfl rfl (ok_loadV (s := 1000002) (by decide) Try.underlying5 rfl rfl rfl (rfl)) ?_
    refine RunK.step rfl rfl (ok_bin rfl rfl rfl) ?_; refine RunK.as (.int .u8 ((mask (b.testBit i) (xts a i) : Nat) : Int)) (by rw [← Int.natCast_mul, mask_mul, wrapN_u8 (mask_lt _ (xts_lt ha i))]) ?_
    refine RunK.step rfl rfl (ok_bin rfl rfl rfl) ?_; refine RunK.as (.int .u8 ((gacc a b (i + 1) : Nat) : Int)) (by rw [show IntKind.u8.bits = 8 from rfl, xor_u8N (gacc_lt b ha i) (mask_lt _ (xts_lt ha i))]; rfl) ?_
    refine RunK.step rfl rfl (ok_assign rfl) ?_
    refine RunK.nil ?_
    refine A.sub (Sub.cons (t := 1) rfl (Sub.cons (t := 2) rfl (Sub.cons (t := 5) rfl (Sub.cons (t := 6) rfl (Sub.cons (t := 9) rfl (Sub.cons (t := 1000002) rfl Sub.nil)))))) ?_
    refine A.reg (by kernel_rfl) (by kernel_rfl) (.inl rfl) ?_
    refine RunTK.eff 1 (by decide) rfl (.inl rfl) ?_
    refine RunK.step rfl rfl (ok_move rfl) ?_
    refine RunK.nil ?_
    refine ⟨_, eff_callV (n := 24) (s := 1000002) (mul1_fnW b2 (xts a i) (xts_lt ha i)) rfl hBb2 rfl (by decide) (LeftS.cons (t := 1) rfl (Surv.v _) (LeftS.cons (t := 2) rfl (Surv.v _) (LeftS.cons (t := 5) rfl (Surv.v _) (LeftS.cons (t := 6) rfl (Surv.v _) (LeftS.cons (t := 9) rfl (Surv.v _) (LeftS.cons (t := 20) rfl (Surv.v _) LeftS.nil)))))), ?_⟩
    refine RunTK.last ?_
    refine RunK.nil ?_
    refine End.sub (Sub.cons (t := 1) rfl (Sub.cons (t := 2) rfl (Sub.cons (t := 5) rfl (Sub.cons (t := 6) rfl (Sub.cons (t := 9) rfl (Sub.cons (t := 1000002) rfl Sub.nil)))))) ?_
    refine End.normal_block ?_
    refine End.normal_then (End.code ?_)
    refine A.reg (by kernel_rfl) (by kernel_rfl) (.inl rfl) ?_
    refine RunTK.last ?_
    refine RunK.step rfl rfl (ok_bin rfl rfl rfl) ?_; refine RunK.as (.int .i64 ((i + 1 : Nat) : Int)) (by rw [wrap_i64 (by omega) (by omega)]; first | rfl | (congr 1; omega)) ?_
    refine RunK.step rfl rfl (ok_move rfl) ?_
    refine RunK.nil ?_
    refine End.sub (Sub.cons (t := 1) rfl (Sub.cons (t := 2) rfl (Sub.cons (t := 5) rfl (Sub.cons (t := 6) rfl (Sub.cons (t := 9) rfl (Sub.cons (t := 1000002) rfl Sub.nil)))))) ?_
    refine End.normal_then ?_
    refine End.again (i + 1) ?_ ?_ ?_
    · show _ ≤ _; omega
    · show _ - _ < _ - _; omega
    · exact (Sub.cons (t := 1) rfl (Sub.cons (t := 2) rfl (Sub.cons (t := 5) rfl (Sub.cons (t := 6) rfl (Sub.cons (t := 9) rfl (Sub.cons (t := 1000002) rfl Sub.nil))))))
  · obtain rfl : i = 8 := by simp at hc10; omega
    refine A.exit ?_
    refine End.exit_then ?_
    refine End.exit_then ?_
    refine End.exit_here ?_
    refine End.normal_then (End.code ?_)
    refine A.regs (by kernel_rfl) (by kernel_rfl) (.inl rfl) ?_
    refine RunTK.last ?_
    refine RunK.step rfl rfl (ok_move rfl) ?_
    refine RunK.step rfl rfl (ok_assign rfl) ?_
    refine RunK.nil ?_
    refine A.sub (Sub.cons (t := 4) rfl (Sub.cons (t := 1000002) rfl Sub.nil)) ?_
    refine A.ret ?_
    exact End.ret1 rfl rfl (by first | exact Le.refl _ | exact Le.old _ _)
theorem Power_fnA (n : Int) (h : n ≠ 0) : Fn Try.prog 28 [.v (.int .u8 ((0 : Nat) : Int)), .v (.int .i64 n)] (.v (.int .u8 0)) := by
  refine Fn.of Try.func28 rfl (by kernel_rfl) Try.ntmps28 (by simp) (fun w => [(0, .v (.int .u8 ((0 : Nat) : Int))), (1, .v (.int .i64 n))]) (fun w => (Start.v rfl (Start.v rfl Start.nil))) fun w₀ => ?_
  refine A.regs (by kernel_rfl) (by kernel_rfl) (.inl rfl) ?_
  refine RunTK.last ?_
  refine RunK.step rfl rfl (ok_assign rfl) ?_
  refine RunK.nil ?_
  refine A.sub (Sub.cons (t := 0) rfl (Sub.cons (t := 1) rfl Sub.nil)) ?_
  refine A.scope ?_
  refine A.seq ?_
  refine A.regs (by kernel_rfl) (by kernel_rfl) (.inl rfl) ?_
  refine RunTK.last ?_
  refine RunK.step rfl rfl (ok_move rfl) ?_
  refine RunK.step rfl rfl (ok_bin rfl rfl rfl) ?_; refine RunK.as (.bool true) (by rfl) ?_
  refine RunK.step rfl rfl (ok_move rfl) ?_
  refine RunK.guarded rfl rfl rfl rfl (ok_move rfl) ?_
  refine RunK.guarded rfl rfl rfl rfl (ok_bin rfl rfl rfl) ?_; refine RunK.as (.bool true) (by simp [h]) ?_
  refine RunK.step rfl rfl (ok_pick rfl rfl) ?_
  refine RunK.nil ?_
  refine A.sub (Sub.cons (t := 0) rfl (Sub.cons (t := 1) rfl (Sub.cons (t := 11) rfl Sub.nil))) ?_
  refine A.yes rfl ?_
  refine A.regs (by kernel_rfl) (by kernel_rfl) (.inl rfl) ?_
  refine RunTK.last ?_
  refine RunK.step rfl rfl (ok_assign rfl) ?_
  refine RunK.nil ?_
  refine A.sub (Sub.cons (t := 4) rfl Sub.nil) ?_
  refine A.ret ?_
  refine End.ret_then ?_
  refine End.ret_scope ?_
  exact End.ret1 rfl rfl (by first | exact Le.refl _ | exact Le.old _ _)
set_option maxHeartbeats 2000000 in
theorem Power_fnB (a : Nat) (n : Int) (ha : a < 256) (h0 : a ≠ 0) : Fn Try.prog 28 [.v (.int .u8 ((a : Nat) : Int)), .v (.int .i64 n)] (.v (.int .u8 ((gpz a n : Nat) : Int))) := by
  obtain ⟨r, hr, hr1, hr2, hr3⟩ := tmod255 n
  obtain ⟨m, hm⟩ : ∃ m : Nat, (m : Int) = n % 255 := ⟨(n % 255).toNat, by omega⟩
  have hg : gpz a n = gpow a m := by rw [gpz_pos h0]; congr 1; omega
  refine Fn.of Try.func28 rfl (by kernel_rfl) Try.ntmps28 (by simp) (fun w => [(0, .v (.int .u8 ((a : Nat) : Int))), (1, .v (.int .i64 n))]) (fun w => (Start.v rfl (Start.v rfl Start.nil))) fun w₀ => ?_
  refine A.regs (by kernel_rfl) (by kernel_rfl) (.inl rfl) ?_
  refine RunTK.last ?_
  refine RunK.step rfl rfl (ok_assign rfl) ?_
  refine RunK.nil ?_
  refine A.sub (Sub.cons (t := 0) rfl (Sub.cons (t := 1) rfl Sub.nil)) ?_
  refine A.scope ?_
  refine A.seq ?_
  refine A.regs (by kernel_rfl) (by kernel_rfl) (.inl rfl) ?_
  refine RunTK.last ?_
  refine RunK.step rfl rfl (ok_move rfl) ?_
  refine RunK.step rfl rfl (ok_bin rfl rfl rfl) ?_; refine RunK.as (.bool false) (by simp; omega) ?_
  refine RunK.step rfl rfl (ok_move rfl) ?_
  refine RunK.skipped rfl rfl rfl rfl rfl ?_
  refine RunK.skipped rfl rfl rfl rfl rfl ?_
  refine RunK.step rfl rfl (ok_pick rfl rfl) ?_
  refine RunK.nil ?_
  refine A.sub (Sub.cons (t := 0) rfl (Sub.cons (t := 1) rfl (Sub.cons (t := 11) rfl Sub.nil))) ?_
  refine A.no rfl ?_
  refine A.skip ?_
  refine End.normal_then (End.code ?_)
  refine A.regs (by kernel_rfl) (by kernel_rfl) (.inl rfl) ?_
  refine RunTK.last ?_
  refine RunK.step rfl rfl (ok_move rfl) ?_
  refine RunK.step rfl rfl (ok_rem rfl rfl (by decide)) ?_; refine RunK.as (.int .i64 r) (by rw [hr]) ?_
  refine RunK.step rfl rfl (ok_assign rfl) ?_
  refine RunK.nil ?_
  refine A.sub (Sub.cons (t := 0) rfl (Sub.cons (t := 1) rfl Sub.nil)) ?_
  refine A.seq ?_
  refine A.regs (by kernel_rfl) (by kernel_rfl) (.inl rfl) ?_
  refine RunTK.last ?_
  refine RunK.step rfl rfl (ok_move rfl) ?_
  refine RunK.step rfl rfl (ok_bin rfl rfl rfl) ?_
  refine RunK.nil ?_
  refine A.sub (Sub.cons (t := 0) rfl (Sub.cons (t := 1) rfl (Sub.cons (t := 15) rfl Sub.nil))) ?_
  refine A.cond rfl (fun hc15 => ?_) (fun hc15 => ?_)
  · have hneg : r < 0 := by simpa using hc15
    refine A.reg (by kernel_rfl) (by kernel_rfl) (.inl rfl) ?_
    refine RunTK.last ?_
    refine RunK.step rfl rfl (ok_move rfl) ?_
    refine RunK.step rfl rfl (ok_bin rfl rfl rfl) ?_; refine RunK.as (.int .i64 ((m : Nat) : Int)) (by rw [wrap_i64 (by omega) (by omega)]; exact congrArg (Value.int .i64) (by omega)) ?_
    refine RunK.step rfl rfl (ok_assign rfl) ?_
    refine RunK.nil ?_
    refine End.sub (Sub.cons (t := 0) rfl (Sub.cons (t := 1) rfl Sub.nil)) ?_
    refine End.normal_then (End.code ?_)
    refine A.regs (by kernel_rfl) (by kernel_rfl) (.inl rfl) ?_
    refine RunTK.last ?_
    refine RunK.step rfl rfl (ok_assign rfl) ?_
    refine RunK.nil ?_
    refine A.sub (Sub.cons (t := 0) rfl (Sub.cons (t := 1) rfl (Sub.cons (t := 5) rfl Sub.nil))) ?_
    refine A.seq ?_
    refine A.label ?_
    refine End.normal_then (End.code ?_)
    refine A.seq ?_
    refine A.block ?_
    refine A.loop (ι := Nat × Nat × Nat) (fun z => gm z.2.2 (gpow z.2.1 z.1) = gpow a m ∧ z.2.1 < 256 ∧ z.2.2 < 256 ∧ z.1 < 255) (fun z => [(0, .v (.int .u8 ((z.2.1 : Nat) : Int))), (1, .v (.int .i64 ((z.1 : Nat) : Int))), (5, .v (.int .u8 ((z.2.2 : Nat) : Int)))]) (fun z => z.1) (m, a, 1) ?_ ?_ ?_
    · exact ⟨gm_one' (gpow_lt _), ha, by show 1 < 256; decide, by show m < 255; omega⟩
    · exact (Sub.cons (t := 0) rfl (Sub.eq (t := 1) _ rfl (by first | rfl | exact congrArg (fun z : Int => D.v (.int .i64 z)) (show r = _ by omega)) (Sub.cons (t := 5) rfl Sub.nil)))
    intro z hz
    obtain ⟨h1, h2, h3, h4⟩ := hz
    refine A.block ?_
    refine A.seq ?_
    refine A.block ?_
    refine A.regs (by kernel_rfl) (by kernel_rfl) (.inl rfl) ?_
    refine RunTK.last ?_
    refine RunK.step rfl rfl (ok_move rfl) ?_
    refine RunK.step rfl rfl (ok_bin rfl rfl rfl) ?_
    refine RunK.step rfl rfl (ok_assign rfl) ?_
    refine RunK.nil ?_
    refine A.sub (Sub.cons (t := 0) rfl (Sub.cons (t := 1) rfl (Sub.cons (t := 5) rfl (Sub.cons (t := 18) rfl Sub.nil)))) ?_
    refine A.cond rfl (fun hc18 => ?_) (fun hc18 => ?_)
    · have hn0 : z.1 = 0 := by simp at hc18; omega
      refine A.exit ?_
      refine End.exit_past (by decide) ?_
      refine End.exit_then ?_
      refine End.exit_past (by decide) ?_
      refine End.exit_then ?_
      refine End.exit_here ?_
      refine End.normal_then (End.code ?_)
      refine A.regs (by kernel_rfl) (by kernel_rfl) (.inl rfl) ?_
      refine RunTK.last ?_
      refine RunK.step rfl rfl (ok_move rfl) ?_; refine RunK.as (.int .u8 ((gpz a n : Nat) : Int)) (congrArg (fun q : Nat => Value.int .u8 (q : Int)) (by rw [hg, ← h1, hn0]; exact (gm_one h3).symm)) ?_
      refine RunK.step rfl rfl (ok_assign rfl) ?_
      refine RunK.nil ?_
      refine A.sub (Sub.cons (t := 4) rfl Sub.nil) ?_
      refine A.ret ?_
      refine End.ret_scope ?_
      exact End.ret1 rfl rfl (by first | exact Le.refl _ | exact Le.old _ _)
    · have hn0 : z.1 ≠ 0 := by simp at hc18; omega
      refine A.regs (by kernel_rfl) (by kernel_rfl) (.inl rfl) ?_
      refine RunTK.last ?_
      refine RunK.step rfl rfl (ok_move rfl) ?_
      refine RunK.step rfl rfl (ok_bin rfl rfl rfl) ?_; refine RunK.as (.int .i64 ((z.1 % 2 : Nat) : Int)) (by rw [show IntKind.i64.bits = 64 from rfl, show (1 : Int) = ((1 : Nat) : Int) from rfl, and_i64N (by omega) (by decide), Nat.and_one_is_mod]) ?_
      refine RunK.step rfl rfl (ok_bin rfl rfl rfl) ?_
      refine RunK.step rfl rfl (ok_assign rfl) ?_
      refine RunK.nil ?_
      refine A.sub (Sub.cons (t := 0) rfl (Sub.cons (t := 1) rfl (Sub.cons (t := 5) rfl (Sub.cons (t := 21) rfl Sub.nil)))) ?_
      refine A.cond rfl (fun hc21 => ?_) (fun hc21 => ?_)
      · have hodd : z.1 % 2 = 1 := by simp at hc21; omega
        refine A.reg (by kernel_rfl) (by kernel_rfl) (.inl rfl) ?_
        refine RunTK.last ?_
        refine RunK.step rfl rfl (ok_move rfl) ?_
        refine RunK.step rfl rfl (ok_move rfl) ?_
        refine RunK.step rfl rfl (ok_call (Mul_fn z.2.2 z.2.1 h3 h2) (Args.cons rfl (Le.refl _) (Args.cons rfl (Le.refl _) Args.nil))) ?_
        refine RunK.step rfl rfl (ok_assign rfl) ?_
        refine RunK.nil ?_
        refine End.sub (Sub.cons (t := 0) rfl (Sub.cons (t := 1) rfl (Sub.cons (t := 5) rfl Sub.nil))) ?_
        refine End.normal_block ?_
        refine End.normal_then (End.code ?_)
        refine A.regs (by kernel_rfl) (by kernel_rfl) (.inl rfl) ?_
        refine RunTK.last ?_
        refine RunK.step rfl rfl (ok_move rfl) ?_
        refine RunK.step rfl rfl (ok_move rfl) ?_
        refine RunK.step rfl rfl (ok_call (Mul_fn z.2.1 z.2.1 h2 h2) (Args.cons rfl (Le.refl _) (Args.cons rfl (Le.refl _) Args.nil))) ?_
        refine RunK.step rfl rfl (ok_assign rfl) ?_
        refine RunK.nil ?_
        refine A.sub (Sub.cons (t := 0) rfl (Sub.cons (t := 1) rfl (Sub.cons (t := 5) rfl Sub.nil))) ?_
        refine A.reg (by kernel_rfl) (by kernel_rfl) (.inl rfl) ?_
        refine RunTK.last ?_
        refine RunK.step rfl rfl (ok_move rfl) ?_
        refine RunK.step rfl rfl (ok_shr rfl rfl (by decide)) ?_; refine RunK.as (.int .i64 ((z.1 / 2 : Nat) : Int)) (by rw [show min (Int.toNat 1) IntKind.i64.bits = 1 from rfl]; exact congrArg _ (shr_nat _ 1)) ?_
        refine RunK.step rfl rfl (ok_assign rfl) ?_
        refine RunK.nil ?_
        refine End.sub (Sub.cons (t := 0) rfl (Sub.cons (t := 1) rfl (Sub.cons (t := 5) rfl Sub.nil))) ?_
        refine End.normal_block ?_
        refine End.normal_then ?_
        refine End.again (z.1 / 2, gm z.2.1 z.2.1, (if z.1 % 2 = 1 then gm z.2.2 z.2.1 else z.2.2)) ?_ ?_ ?_
        · exact ⟨(gpow_step h2 h3).trans h1, gm_lt _ h2, by show (if z.1 % 2 = 1 then gm z.2.2 z.2.1 else z.2.2) < 256; split <;> first | exact gm_lt _ h3 | exact h3, by show z.1 / 2 < 255; omega⟩
        · show z.1 / 2 < z.1; omega
        · exact (Sub.cons (t := 0) rfl (Sub.cons (t := 1) rfl (Sub.eq (t := 5) _ rfl (show _ = D.v (.int .u8 (((if z.1 % 2 = 1 then gm z.2.2 z.2.1 else z.2.2) : Nat) : Int)) from by first | rw [if_pos hodd] | rw [if_neg hodd]) Sub.nil)))
      · have hodd : ¬ z.1 % 2 = 1 := by simp at hc21; omega
        refine A.skip ?_
        refine End.normal_block ?_
        refine End.normal_then (End.code ?_)
        refine A.regs (by kernel_rfl) (by kernel_rfl) (.inl rfl) ?_
        refine RunTK.last ?_
        refine RunK.step rfl rfl (ok_move rfl) ?_
        refine RunK.step rfl rfl (ok_move rfl) ?_
        refine RunK.step rfl rfl (ok_call (Mul_fn z.2.1 z.2.1 h2 h2) (Args.cons rfl (Le.refl _) (Args.cons rfl (Le.refl _) Args.nil))) ?_
        refine RunK.step rfl rfl (ok_assign rfl) ?_
        refine RunK.nil ?_
        refine A.sub (Sub.cons (t := 0) rfl (Sub.cons (t := 1) rfl (Sub.cons (t := 5) rfl Sub.nil))) ?_
        refine A.reg (by kernel_rfl) (by kernel_rfl) (.inl rfl) ?_
        refine RunTK.last ?_
        refine RunK.step rfl rfl (ok_move rfl) ?_
        refine RunK.step rfl rfl (ok_shr rfl rfl (by decide)) ?_; refine RunK.as (.int .i64 ((z.1 / 2 : Nat) : Int)) (by rw [show min (Int.toNat 1) IntKind.i64.bits = 1 from rfl]; exact congrArg _ (shr_nat _ 1)) ?_
        refine RunK.step rfl rfl (ok_assign rfl) ?_
        refine RunK.nil ?_
        refine End.sub (Sub.cons (t := 0) rfl (Sub.cons (t := 1) rfl (Sub.cons (t := 5) rfl Sub.nil))) ?_
        refine End.normal_block ?_
        refine End.normal_then ?_
        refine End.again (z.1 / 2, gm z.2.1 z.2.1, (if z.1 % 2 = 1 then gm z.2.2 z.2.1 else z.2.2)) ?_ ?_ ?_
        · exact ⟨(gpow_step h2 h3).trans h1, gm_lt _ h2, by show (if z.1 % 2 = 1 then gm z.2.2 z.2.1 else z.2.2) < 256; split <;> first | exact gm_lt _ h3 | exact h3, by show z.1 / 2 < 255; omega⟩
        · show z.1 / 2 < z.1; omega
        · exact (Sub.cons (t := 0) rfl (Sub.cons (t := 1) rfl (Sub.eq (t := 5) _ rfl (show _ = D.v (.int .u8 (((if z.1 % 2 = 1 then gm z.2.2 z.2.1 else z.2.2) : Nat) : Int)) from by first | rw [if_pos hodd] | rw [if_neg hodd]) Sub.nil)))
  · have hneg : ¬ r < 0 := by simpa using hc15
    refine A.skip ?_
    refine End.normal_then (End.code ?_)
    refine A.regs (by kernel_rfl) (by kernel_rfl) (.inl rfl) ?_
    refine RunTK.last ?_
    refine RunK.step rfl rfl (ok_assign rfl) ?_
    refine RunK.nil ?_
    refine A.sub (Sub.cons (t := 0) rfl (Sub.cons (t := 1) rfl (Sub.cons (t := 5) rfl Sub.nil))) ?_
    refine A.seq ?_
    refine A.label ?_
    refine End.normal_then (End.code ?_)
    refine A.seq ?_
    refine A.block ?_
    refine A.loop (ι := Nat × Nat × Nat) (fun z => gm z.2.2 (gpow z.2.1 z.1) = gpow a m ∧ z.2.1 < 256 ∧ z.2.2 < 256 ∧ z.1 < 255) (fun z => [(0, .v (.int .u8 ((z.2.1 : Nat) : Int))), (1, .v (.int .i64 ((z.1 : Nat) : Int))), (5, .v (.int .u8 ((z.2.2 : Nat) : Int)))]) (fun z => z.1) (m, a, 1) ?_ ?_ ?_
    · exact ⟨gm_one' (gpow_lt _), ha, by show 1 < 256; decide, by show m < 255; omega⟩
    · exact (Sub.cons (t := 0) rfl (Sub.eq (t := 1) _ rfl (by first | rfl | exact congrArg (fun z : Int => D.v (.int .i64 z)) (show r = _ by omega)) (Sub.cons (t := 5) rfl Sub.nil)))
    intro z hz
    obtain ⟨h1, h2, h3, h4⟩ := hz
    refine A.block ?_
    refine A.seq ?_
    refine A.block ?_
    refine A.regs (by kernel_rfl) (by kernel_rfl) (.inl rfl) ?_
    refine RunTK.last ?_
    refine RunK.step rfl rfl (ok_move rfl) ?_
    refine RunK.step rfl rfl (ok_bin rfl rfl rfl) ?_
    refine RunK.step rfl rfl (ok_assign rfl) ?_
    refine RunK.nil ?_
    refine A.sub (Sub.cons (t := 0) rfl (Sub.cons (t := 1) rfl (Sub.cons (t := 5) rfl (Sub.cons (t := 18) rfl Sub.nil)))) ?_
    refine A.cond rfl (fun hc18 => ?_) (fun hc18 => ?_)
    · have hn0 : z.1 = 0 := by simp at hc18; omega
      refine A.exit ?_
      refine End.exit_past (by decide) ?_
      refine End.exit_then ?_
      refine End.exit_past (by decide) ?_
      refine End.exit_then ?_
      refine End.exit_here ?_
      refine End.normal_then (End.code ?_)
      refine A.regs (by kernel_rfl) (by kernel_rfl) (.inl rfl) ?_
      refine RunTK.last ?_
      refine RunK.step rfl rfl (ok_move rfl) ?_; refine RunK.as (.int .u8 ((gpz a n : Nat) : Int)) (congrArg (fun q : Nat => Value.int .u8 (q : Int)) (by rw [hg, ← h1, hn0]; exact (gm_one h3).symm)) ?_
      refine RunK.step rfl rfl (ok_assign rfl) ?_
      refine RunK.nil ?_
      refine A.sub (Sub.cons (t := 4) rfl Sub.nil) ?_
      refine A.ret ?_
      refine End.ret_scope ?_
      exact End.ret1 rfl rfl (by first | exact Le.refl _ | exact Le.old _ _)
    · have hn0 : z.1 ≠ 0 := by simp at hc18; omega
      refine A.regs (by kernel_rfl) (by kernel_rfl) (.inl rfl) ?_
      refine RunTK.last ?_
      refine RunK.step rfl rfl (ok_move rfl) ?_
      refine RunK.step rfl rfl (ok_bin rfl rfl rfl) ?_; refine RunK.as (.int .i64 ((z.1 % 2 : Nat) : Int)) (by rw [show IntKind.i64.bits = 64 from rfl, show (1 : Int) = ((1 : Nat) : Int) from rfl, and_i64N (by omega) (by decide), Nat.and_one_is_mod]) ?_
      refine RunK.step rfl rfl (ok_bin rfl rfl rfl) ?_
      refine RunK.step rfl rfl (ok_assign rfl) ?_
      refine RunK.nil ?_
      refine A.sub (Sub.cons (t := 0) rfl (Sub.cons (t := 1) rfl (Sub.cons (t := 5) rfl (Sub.cons (t := 21) rfl Sub.nil)))) ?_
      refine A.cond rfl (fun hc21 => ?_) (fun hc21 => ?_)
      · have hodd : z.1 % 2 = 1 := by simp at hc21; omega
        refine A.reg (by kernel_rfl) (by kernel_rfl) (.inl rfl) ?_
        refine RunTK.last ?_
        refine RunK.step rfl rfl (ok_move rfl) ?_
        refine RunK.step rfl rfl (ok_move rfl) ?_
        refine RunK.step rfl rfl (ok_call (Mul_fn z.2.2 z.2.1 h3 h2) (Args.cons rfl (Le.refl _) (Args.cons rfl (Le.refl _) Args.nil))) ?_
        refine RunK.step rfl rfl (ok_assign rfl) ?_
        refine RunK.nil ?_
        refine End.sub (Sub.cons (t := 0) rfl (Sub.cons (t := 1) rfl (Sub.cons (t := 5) rfl Sub.nil))) ?_
        refine End.normal_block ?_
        refine End.normal_then (End.code ?_)
        refine A.regs (by kernel_rfl) (by kernel_rfl) (.inl rfl) ?_
        refine RunTK.last ?_
        refine RunK.step rfl rfl (ok_move rfl) ?_
        refine RunK.step rfl rfl (ok_move rfl) ?_
        refine RunK.step rfl rfl (ok_call (Mul_fn z.2.1 z.2.1 h2 h2) (Args.cons rfl (Le.refl _) (Args.cons rfl (Le.refl _) Args.nil))) ?_
        refine RunK.step rfl rfl (ok_assign rfl) ?_
        refine RunK.nil ?_
        refine A.sub (Sub.cons (t := 0) rfl (Sub.cons (t := 1) rfl (Sub.cons (t := 5) rfl Sub.nil))) ?_
        refine A.reg (by kernel_rfl) (by kernel_rfl) (.inl rfl) ?_
        refine RunTK.last ?_
        refine RunK.step rfl rfl (ok_move rfl) ?_
        refine RunK.step rfl rfl (ok_shr rfl rfl (by decide)) ?_; refine RunK.as (.int .i64 ((z.1 / 2 : Nat) : Int)) (by rw [show min (Int.toNat 1) IntKind.i64.bits = 1 from rfl]; exact congrArg _ (shr_nat _ 1)) ?_
        refine RunK.step rfl rfl (ok_assign rfl) ?_
        refine RunK.nil ?_
        refine End.sub (Sub.cons (t := 0) rfl (Sub.cons (t := 1) rfl (Sub.cons (t := 5) rfl Sub.nil))) ?_
        refine End.normal_block ?_
        refine End.normal_then ?_
        refine End.again (z.1 / 2, gm z.2.1 z.2.1, (if z.1 % 2 = 1 then gm z.2.2 z.2.1 else z.2.2)) ?_ ?_ ?_
        · exact ⟨(gpow_step h2 h3).trans h1, gm_lt _ h2, by show (if z.1 % 2 = 1 then gm z.2.2 z.2.1 else z.2.2) < 256; split <;> first | exact gm_lt _ h3 | exact h3, by show z.1 / 2 < 255; omega⟩
        · show z.1 / 2 < z.1; omega
        · exact (Sub.cons (t := 0) rfl (Sub.cons (t := 1) rfl (Sub.eq (t := 5) _ rfl (show _ = D.v (.int .u8 (((if z.1 % 2 = 1 then gm z.2.2 z.2.1 else z.2.2) : Nat) : Int)) from by first | rw [if_pos hodd] | rw [if_neg hodd]) Sub.nil)))
      · have hodd : ¬ z.1 % 2 = 1 := by simp at hc21; omega
        refine A.skip ?_
        refine End.normal_block ?_
        refine End.normal_then (End.code ?_)
        refine A.regs (by kernel_rfl) (by kernel_rfl) (.inl rfl) ?_
        refine RunTK.last ?_
        refine RunK.step rfl rfl (ok_move rfl) ?_
        refine RunK.step rfl rfl (ok_move rfl) ?_
        refine RunK.step rfl rfl (ok_call (Mul_fn z.2.1 z.2.1 h2 h2) (Args.cons rfl (Le.refl _) (Args.cons rfl (Le.refl _) Args.nil))) ?_
        refine RunK.step rfl rfl (ok_assign rfl) ?_
        refine RunK.nil ?_
        refine A.sub (Sub.cons (t := 0) rfl (Sub.cons (t := 1) rfl (Sub.cons (t := 5) rfl Sub.nil))) ?_
        refine A.reg (by kernel_rfl) (by kernel_rfl) (.inl rfl) ?_
        refine RunTK.last ?_
        refine RunK.step rfl rfl (ok_move rfl) ?_
        refine RunK.step rfl rfl (ok_shr rfl rfl (by decide)) ?_; refine RunK.as (.int .i64 ((z.1 / 2 : Nat) : Int)) (by rw [show min (Int.toNat 1) IntKind.i64.bits = 1 from rfl]; exact congrArg _ (shr_nat _ 1)) ?_
        refine RunK.step rfl rfl (ok_assign rfl) ?_
        refine RunK.nil ?_
        refine End.sub (Sub.cons (t := 0) rfl (Sub.cons (t := 1) rfl (Sub.cons (t := 5) rfl Sub.nil))) ?_
        refine End.normal_block ?_
        refine End.normal_then ?_
        refine End.again (z.1 / 2, gm z.2.1 z.2.1, (if z.1 % 2 = 1 then gm z.2.2 z.2.1 else z.2.2)) ?_ ?_ ?_
        · exact ⟨(gpow_step h2 h3).trans h1, gm_lt _ h2, by show (if z.1 % 2 = 1 then gm z.2.2 z.2.1 else z.2.2) < 256; split <;> first | exact gm_lt _ h3 | exact h3, by show z.1 / 2 < 255; omega⟩
        · show z.1 / 2 < z.1; omega
        · exact (Sub.cons (t := 0) rfl (Sub.cons (t := 1) rfl (Sub.eq (t := 5) _ rfl (show _ = D.v (.int .u8 (((if z.1 % 2 = 1 then gm z.2.2 z.2.1 else z.2.2) : Nat) : Int)) from by first | rw [if_pos hodd] | rw [if_neg hodd]) Sub.nil)))
set_option maxHeartbeats 2000000 in
theorem Power_fnC (a : Nat) (n : Int) (ha : a < 256) (h0 : a = 0) (hn : n = 0) : Fn Try.prog 28 [.v (.int .u8 ((a : Nat) : Int)), .v (.int .i64 n)] (.v (.int .u8 ((gpz a n : Nat) : Int))) := by
  obtain ⟨r, hr, hr1, hr2, hr3⟩ := tmod255 n
  obtain ⟨m, hm⟩ : ∃ m : Nat, (m : Int) = n % 255 := ⟨(n % 255).toNat, by omega⟩
  have hg : gpz a n = gpow a m := by subst hn; rw [show m = 0 from by omega, h0]; rfl
  refine Fn.of Try.func28 rfl (by kernel_rfl) Try.ntmps28 (by simp) (fun w => [(0, .v (.int .u8 ((a : Nat) : Int))), (1, .v (.int .i64 n))]) (fun w => (Start.v rfl (Start.v rfl Start.nil))) fun w₀ => ?_
  refine A.regs (by kernel_rfl) (by kernel_rfl) (.inl rfl) ?_
  refine RunTK.last ?_
  refine RunK.step rfl rfl (ok_assign rfl) ?_
  refine RunK.nil ?_
  refine A.sub (Sub.cons (t := 0) rfl (Sub.cons (t := 1) rfl Sub.nil)) ?_
  refine A.scope ?_
  refine A.seq ?_
  refine A.regs (by kernel_rfl) (by kernel_rfl) (.inl rfl) ?_
  refine RunTK.last ?_
  refine RunK.step rfl rfl (ok_move rfl) ?_
  refine RunK.step rfl rfl (ok_bin rfl rfl rfl) ?_; refine RunK.as (.bool true) (by simp [h0]) ?_
  refine RunK.step rfl rfl (ok_move rfl) ?_
  refine RunK.guarded rfl rfl rfl rfl (ok_move rfl) ?_
  refine RunK.guarded rfl rfl rfl rfl (ok_bin rfl rfl rfl) ?_; refine RunK.as (.bool false) (by simp [hn]) ?_
  refine RunK.step rfl rfl (ok_pick rfl rfl) ?_
  refine RunK.nil ?_
  refine A.sub (Sub.cons (t := 0) rfl (Sub.cons (t := 1) rfl (Sub.cons (t := 11) rfl Sub.nil))) ?_
  refine A.no rfl ?_
  refine A.skip ?_
  refine End.normal_then (End.code ?_)
  refine A.regs (by kernel_rfl) (by kernel_rfl) (.inl rfl) ?_
  refine RunTK.last ?_
  refine RunK.step rfl rfl (ok_move rfl) ?_
  refine RunK.step rfl rfl (ok_rem rfl rfl (by decide)) ?_; refine RunK.as (.int .i64 r) (by rw [hr]) ?_
  refine RunK.step rfl rfl (ok_assign rfl) ?_
  refine RunK.nil ?_
  refine A.sub (Sub.cons (t := 0) rfl (Sub.cons (t := 1) rfl Sub.nil)) ?_
  refine A.seq ?_
  refine A.regs (by kernel_rfl) (by kernel_rfl) (.inl rfl) ?_
  refine RunTK.last ?_
  refine RunK.step rfl rfl (ok_move rfl) ?_
  refine RunK.step rfl rfl (ok_bin rfl rfl rfl) ?_
  refine RunK.nil ?_
  refine A.sub (Sub.cons (t := 0) rfl (Sub.cons (t := 1) rfl (Sub.cons (t := 15) rfl Sub.nil))) ?_
  refine A.cond rfl (fun hc15 => ?_) (fun hc15 => ?_)
  · have hneg : r < 0 := by simpa using hc15
    refine A.reg (by kernel_rfl) (by kernel_rfl) (.inl rfl) ?_
    refine RunTK.last ?_
    refine RunK.step rfl rfl (ok_move rfl) ?_
    refine RunK.step rfl rfl (ok_bin rfl rfl rfl) ?_; refine RunK.as (.int .i64 ((m : Nat) : Int)) (by rw [wrap_i64 (by omega) (by omega)]; exact congrArg (Value.int .i64) (by omega)) ?_
    refine RunK.step rfl rfl (ok_assign rfl) ?_
    refine RunK.nil ?_
    refine End.sub (Sub.cons (t := 0) rfl (Sub.cons (t := 1) rfl Sub.nil)) ?_
    refine End.normal_then (End.code ?_)
    refine A.regs (by kernel_rfl) (by kernel_rfl) (.inl rfl) ?_
    refine RunTK.last ?_
    refine RunK.step rfl rfl (ok_assign rfl) ?_
    refine RunK.nil ?_
    refine A.sub (Sub.cons (t := 0) rfl (Sub.cons (t := 1) rfl (Sub.cons (t := 5) rfl Sub.nil))) ?_
    refine A.seq ?_
    refine A.label ?_
    refine End.normal_then (End.code ?_)
    refine A.seq ?_
    refine A.block ?_
    refine A.loop (ι := Nat × Nat × Nat) (fun z => gm z.2.2 (gpow z.2.1 z.1) = gpow a m ∧ z.2.1 < 256 ∧ z.2.2 < 256 ∧ z.1 < 255) (fun z => [(0, .v (.int .u8 ((z.2.1 : Nat) : Int))), (1, .v (.int .i64 ((z.1 : Nat) : Int))), (5, .v (.int .u8 ((z.2.2 : Nat) : Int)))]) (fun z => z.1) (m, a, 1) ?_ ?_ ?_
    · exact ⟨gm_one' (gpow_lt _), ha, by show 1 < 256; decide, by show m < 255; omega⟩
    · exact (Sub.cons (t := 0) rfl (Sub.eq (t := 1) _ rfl (by first | rfl | exact congrArg (fun z : Int => D.v (.int .i64 z)) (show r = _ by omega)) (Sub.cons (t := 5) rfl Sub.nil)))
    intro z hz
    obtain ⟨h1, h2, h3, h4⟩ := hz
    refine A.block ?_
    refine A.seq ?_
    refine A.block ?_
    refine A.regs (by kernel_rfl) (by kernel_rfl) (.inl rfl) ?_
    refine RunTK.last ?_
    refine RunK.step rfl rfl (ok_move rfl) ?_
    refine RunK.step rfl rfl (ok_bin rfl rfl rfl) ?_
    refine RunK.step rfl rfl (ok_assign rfl) ?_
    refine RunK.nil ?_
    refine A.sub (Sub.cons (t := 0) rfl (Sub.cons (t := 1) rfl (Sub.cons (t := 5) rfl (Sub.cons (t := 18) rfl Sub.nil)))) ?_
    refine A.cond rfl (fun hc18 => ?_) (fun hc18 => ?_)
    · have hn0 : z.1 = 0 := by simp at hc18; omega
      refine A.exit ?_
      refine End.exit_past (by decide) ?_
      refine End.exit_then ?_
      refine End.exit_past (by decide) ?_
      refine End.exit_then ?_
      refine End.exit_here ?_
      refine End.normal_then (End.code ?_)
      refine A.regs (by kernel_rfl) (by kernel_rfl) (.inl rfl) ?_
      refine RunTK.last ?_
      refine RunK.step rfl rfl (ok_move rfl) ?_; refine RunK.as (.int .u8 ((gpz a n : Nat) : Int)) (congrArg (fun q : Nat => Value.int .u8 (q : Int)) (by rw [hg, ← h1, hn0]; exact (gm_one h3).symm)) ?_
      refine RunK.step rfl rfl (ok_assign rfl) ?_
      refine RunK.nil ?_
      refine A.sub (Sub.cons (t := 4) rfl Sub.nil) ?_
      refine A.ret ?_
      refine End.ret_scope ?_
      exact End.ret1 rfl rfl (by first | exact Le.refl _ | exact Le.old _ _)
    · have hn0 : z.1 ≠ 0 := by simp at hc18; omega
      refine A.regs (by kernel_rfl) (by kernel_rfl) (.inl rfl) ?_
      refine RunTK.last ?_
      refine RunK.step rfl rfl (ok_move rfl) ?_
      refine RunK.step rfl rfl (ok_bin rfl rfl rfl) ?_; refine RunK.as (.int .i64 ((z.1 % 2 : Nat) : Int)) (by rw [show IntKind.i64.bits = 64 from rfl, show (1 : Int) = ((1 : Nat) : Int) from rfl, and_i64N (by omega) (by decide), Nat.and_one_is_mod]) ?_
      refine RunK.step rfl rfl (ok_bin rfl rfl rfl) ?_
      refine RunK.step rfl rfl (ok_assign rfl) ?_
      refine RunK.nil ?_
      refine A.sub (Sub.cons (t := 0) rfl (Sub.cons (t := 1) rfl (Sub.cons (t := 5) rfl (Sub.cons (t := 21) rfl Sub.nil)))) ?_
      refine A.cond rfl (fun hc21 => ?_) (fun hc21 => ?_)
      · have hodd : z.1 % 2 = 1 := by simp at hc21; omega
        refine A.reg (by kernel_rfl) (by kernel_rfl) (.inl rfl) ?_
        refine RunTK.last ?_
        refine RunK.step rfl rfl (ok_move rfl) ?_
        refine RunK.step rfl rfl (ok_move rfl) ?_
        refine RunK.step rfl rfl (ok_call (Mul_fn z.2.2 z.2.1 h3 h2) (Args.cons rfl (Le.refl _) (Args.cons rfl (Le.refl _) Args.nil))) ?_
        refine RunK.step rfl rfl (ok_assign rfl) ?_
        refine RunK.nil ?_
        refine End.sub (Sub.cons (t := 0) rfl (Sub.cons (t := 1) rfl (Sub.cons (t := 5) rfl Sub.nil))) ?_
        refine End.normal_block ?_
        refine End.normal_then (End.code ?_)
        refine A.regs (by kernel_rfl) (by kernel_rfl) (.inl rfl) ?_
        refine RunTK.last ?_
        refine RunK.step rfl rfl (ok_move rfl) ?_
        refine RunK.step rfl rfl (ok_move rfl) ?_
        refine RunK.step rfl rfl (ok_call (Mul_fn z.2.1 z.2.1 h2 h2) (Args.cons rfl (Le.refl _) (Args.cons rfl (Le.refl _) Args.nil))) ?_
        refine RunK.step rfl rfl (ok_assign rfl) ?_
        refine RunK.nil ?_
        refine A.sub (Sub.cons (t := 0) rfl (Sub.cons (t := 1) rfl (Sub.cons (t := 5) rfl Sub.nil))) ?_
        refine A.reg (by kernel_rfl) (by kernel_rfl) (.inl rfl) ?_
        refine RunTK.last ?_
        refine RunK.step rfl rfl (ok_move rfl) ?_
        refine RunK.step rfl rfl (ok_shr rfl rfl (by decide)) ?_; refine RunK.as (.int .i64 ((z.1 / 2 : Nat) : Int)) (by rw [show min (Int.toNat 1) IntKind.i64.bits = 1 from rfl]; exact congrArg _ (shr_nat _ 1)) ?_
        refine RunK.step rfl rfl (ok_assign rfl) ?_
        refine RunK.nil ?_
        refine End.sub (Sub.cons (t := 0) rfl (Sub.cons (t := 1) rfl (Sub.cons (t := 5) rfl Sub.nil))) ?_
        refine End.normal_block ?_
        refine End.normal_then ?_
        refine End.again (z.1 / 2, gm z.2.1 z.2.1, (if z.1 % 2 = 1 then gm z.2.2 z.2.1 else z.2.2)) ?_ ?_ ?_
        · exact ⟨(gpow_step h2 h3).trans h1, gm_lt _ h2, by show (if z.1 % 2 = 1 then gm z.2.2 z.2.1 else z.2.2) < 256; split <;> first | exact gm_lt _ h3 | exact h3, by show z.1 / 2 < 255; omega⟩
        · show z.1 / 2 < z.1; omega
        · exact (Sub.cons (t := 0) rfl (Sub.cons (t := 1) rfl (Sub.eq (t := 5) _ rfl (show _ = D.v (.int .u8 (((if z.1 % 2 = 1 then gm z.2.2 z.2.1 else z.2.2) : Nat) : Int)) from by first | rw [if_pos hodd] | rw [if_neg hodd]) Sub.nil)))
      · have hodd : ¬ z.1 % 2 = 1 := by simp at hc21; omega
        refine A.skip ?_
        refine End.normal_block ?_
        refine End.normal_then (End.code ?_)
        refine A.regs (by kernel_rfl) (by kernel_rfl) (.inl rfl) ?_
        refine RunTK.last ?_
        refine RunK.step rfl rfl (ok_move rfl) ?_
        refine RunK.step rfl rfl (ok_move rfl) ?_
        refine RunK.step rfl rfl (ok_call (Mul_fn z.2.1 z.2.1 h2 h2) (Args.cons rfl (Le.refl _) (Args.cons rfl (Le.refl _) Args.nil))) ?_
        refine RunK.step rfl rfl (ok_assign rfl) ?_
        refine RunK.nil ?_
        refine A.sub (Sub.cons (t := 0) rfl (Sub.cons (t := 1) rfl (Sub.cons (t := 5) rfl Sub.nil))) ?_
        refine A.reg (by kernel_rfl) (by kernel_rfl) (.inl rfl) ?_
        refine RunTK.last ?_
        refine RunK.step rfl rfl (ok_move rfl) ?_
        refine RunK.step rfl rfl (ok_shr rfl rfl (by decide)) ?_; refine RunK.as (.int .i64 ((z.1 / 2 : Nat) : Int)) (by rw [show min (Int.toNat 1) IntKind.i64.bits = 1 from rfl]; exact congrArg _ (shr_nat _ 1)) ?_
        refine RunK.step rfl rfl (ok_assign rfl) ?_
        refine RunK.nil ?_
        refine End.sub (Sub.cons (t := 0) rfl (Sub.cons (t := 1) rfl (Sub.cons (t := 5) rfl Sub.nil))) ?_
        refine End.normal_block ?_
        refine End.normal_then ?_
        refine End.again (z.1 / 2, gm z.2.1 z.2.1, (if z.1 % 2 = 1 then gm z.2.2 z.2.1 else z.2.2)) ?_ ?_ ?_
        · exact ⟨(gpow_step h2 h3).trans h1, gm_lt _ h2, by show (if z.1 % 2 = 1 then gm z.2.2 z.2.1 else z.2.2) < 256; split <;> first | exact gm_lt _ h3 | exact h3, by show z.1 / 2 < 255; omega⟩
        · show z.1 / 2 < z.1; omega
        · exact (Sub.cons (t := 0) rfl (Sub.cons (t := 1) rfl (Sub.eq (t := 5) _ rfl (show _ = D.v (.int .u8 (((if z.1 % 2 = 1 then gm z.2.2 z.2.1 else z.2.2) : Nat) : Int)) from by first | rw [if_pos hodd] | rw [if_neg hodd]) Sub.nil)))
  · have hneg : ¬ r < 0 := by simpa using hc15
    refine A.skip ?_
    refine End.normal_then (End.code ?_)
    refine A.regs (by kernel_rfl) (by kernel_rfl) (.inl rfl) ?_
    refine RunTK.last ?_
    refine RunK.step rfl rfl (ok_assign rfl) ?_
    refine RunK.nil ?_
    refine A.sub (Sub.cons (t := 0) rfl (Sub.cons (t := 1) rfl (Sub.cons (t := 5) rfl Sub.nil))) ?_
    refine A.seq ?_
    refine A.label ?_
    refine End.normal_then (End.code ?_)
    refine A.seq ?_
    refine A.block ?_
    refine A.loop (ι := Nat × Nat × Nat) (fun z => gm z.2.2 (gpow z.2.1 z.1) = gpow a m ∧ z.2.1 < 256 ∧ z.2.2 < 256 ∧ z.1 < 255) (fun z => [(0, .v (.int .u8 ((z.2.1 : Nat) : Int))), (1, .v (.int .i64 ((z.1 : Nat) : Int))), (5, .v (.int .u8 ((z.2.2 : Nat) : Int)))]) (fun z => z.1) (m, a, 1) ?_ ?_ ?_
    · exact ⟨gm_one' (gpow_lt _), ha, by show 1 < 256; decide, by show m < 255; omega⟩
    · exact (Sub.cons (t := 0) rfl (Sub.eq (t := 1) _ rfl (by first | rfl | exact congrArg (fun z : Int => D.v (.int .i64 z)) (show r = _ by omega)) (Sub.cons (t := 5) rfl Sub.nil)))
    intro z hz
    obtain ⟨h1, h2, h3, h4⟩ := hz
    refine A.block ?_
    refine A.seq ?_
    refine A.block ?_
    refine A.regs (by kernel_rfl) (by kernel_rfl) (.inl rfl) ?_
    refine RunTK.last ?_
    refine RunK.step rfl rfl (ok_move rfl) ?_
    refine RunK.step rfl rfl (ok_bin rfl rfl rfl) ?_
    refine RunK.step rfl rfl (ok_assign rfl) ?_
    refine RunK.nil ?_
    refine A.sub (Sub.cons (t := 0) rfl (Sub.cons (t := 1) rfl (Sub.cons (t := 5) rfl (Sub.cons (t := 18) rfl Sub.nil)))) ?_
    refine A.cond rfl (fun hc18 => ?_) (fun hc18 => ?_)
    · have hn0 : z.1 = 0 := by simp at hc18; omega
      refine A.exit ?_
      refine End.exit_past (by decide) ?_
      refine End.exit_then ?_
      refine End.exit_past (by decide) ?_
      refine End.exit_then ?_
      refine End.exit_here ?_
      refine End.normal_then (End.code ?_)
      refine A.regs (by kernel_rfl) (by kernel_rfl) (.inl rfl) ?_
      refine RunTK.last ?_
      refine RunK.step rfl rfl (ok_move rfl) ?_; refine RunK.as (.int .u8 ((gpz a n : Nat) : Int)) (congrArg (fun q : Nat => Value.int .u8 (q : Int)) (by rw [hg, ← h1, hn0]; exact (gm_one h3).symm)) ?_
      refine RunK.step rfl rfl (ok_assign rfl) ?_
      refine RunK.nil ?_
      refine A.sub (Sub.cons (t := 4) rfl Sub.nil) ?_
      refine A.ret ?_
      refine End.ret_scope ?_
      exact End.ret1 rfl rfl (by first | exact Le.refl _ | exact Le.old _ _)
    · have hn0 : z.1 ≠ 0 := by simp at hc18; omega
      refine A.regs (by kernel_rfl) (by kernel_rfl) (.inl rfl) ?_
      refine RunTK.last ?_
      refine RunK.step rfl rfl (ok_move rfl) ?_
      refine RunK.step rfl rfl (ok_bin rfl rfl rfl) ?_; refine RunK.as (.int .i64 ((z.1 % 2 : Nat) : Int)) (by rw [show IntKind.i64.bits = 64 from rfl, show (1 : Int) = ((1 : Nat) : Int) from rfl, and_i64N (by omega) (by decide), Nat.and_one_is_mod]) ?_
      refine RunK.step rfl rfl (ok_bin rfl rfl rfl) ?_
      refine RunK.step rfl rfl (ok_assign rfl) ?_
      refine RunK.nil ?_
      refine A.sub (Sub.cons (t := 0) rfl (Sub.cons (t := 1) rfl (Sub.cons (t := 5) rfl (Sub.cons (t := 21) rfl Sub.nil)))) ?_
      refine A.cond rfl (fun hc21 => ?_) (fun hc21 => ?_)
      · have hodd : z.1 % 2 = 1 := by simp at hc21; omega
        refine A.reg (by kernel_rfl) (by kernel_rfl) (.inl rfl) ?_
        refine RunTK.last ?_
        refine RunK.step rfl rfl (ok_move rfl) ?_
        refine RunK.step rfl rfl (ok_move rfl) ?_
        refine RunK.step rfl rfl (ok_call (Mul_fn z.2.2 z.2.1 h3 h2) (Args.cons rfl (Le.refl _) (Args.cons rfl (Le.refl _) Args.nil))) ?_
        refine RunK.step rfl rfl (ok_assign rfl) ?_
        refine RunK.nil ?_
        refine End.sub (Sub.cons (t := 0) rfl (Sub.cons (t := 1) rfl (Sub.cons (t := 5) rfl Sub.nil))) ?_
        refine End.normal_block ?_
        refine End.normal_then (End.code ?_)
        refine A.regs (by kernel_rfl) (by kernel_rfl) (.inl rfl) ?_
        refine RunTK.last ?_
        refine RunK.step rfl rfl (ok_move rfl) ?_
        refine RunK.step rfl rfl (ok_move rfl) ?_
        refine RunK.step rfl rfl (ok_call (Mul_fn z.2.1 z.2.1 h2 h2) (Args.cons rfl (Le.refl _) (Args.cons rfl (Le.refl _) Args.nil))) ?_
        refine RunK.step rfl rfl (ok_assign rfl) ?_
        refine RunK.nil ?_
        refine A.sub (Sub.cons (t := 0) rfl (Sub.cons (t := 1) rfl (Sub.cons (t := 5) rfl Sub.nil))) ?_
        refine A.reg (by kernel_rfl) (by kernel_rfl) (.inl rfl) ?_
        refine RunTK.last ?_
        refine RunK.step rfl rfl (ok_move rfl) ?_
        refine RunK.step rfl rfl (ok_shr rfl rfl (by decide)) ?_; refine RunK.as (.int .i64 ((z.1 / 2 : Nat) : Int)) (by rw [show min (Int.toNat 1) IntKind.i64.bits = 1 from rfl]; exact congrArg _ (shr_nat _ 1)) ?_
        refine RunK.step rfl rfl (ok_assign rfl) ?_
        refine RunK.nil ?_
        refine End.sub (Sub.cons (t := 0) rfl (Sub.cons (t := 1) rfl (Sub.cons (t := 5) rfl Sub.nil))) ?_
        refine End.normal_block ?_
        refine End.normal_then ?_
        refine End.again (z.1 / 2, gm z.2.1 z.2.1, (if z.1 % 2 = 1 then gm z.2.2 z.2.1 else z.2.2)) ?_ ?_ ?_
        · exact ⟨(gpow_step h2 h3).trans h1, gm_lt _ h2, by show (if z.1 % 2 = 1 then gm z.2.2 z.2.1 else z.2.2) < 256; split <;> first | exact gm_lt _ h3 | exact h3, by show z.1 / 2 < 255; omega⟩
        · show z.1 / 2 < z.1; omega
        · exact (Sub.cons (t := 0) rfl (Sub.cons (t := 1) rfl (Sub.eq (t := 5) _ rfl (show _ = D.v (.int .u8 (((if z.1 % 2 = 1 then gm z.2.2 z.2.1 else z.2.2) : Nat) : Int)) from by first | rw [if_pos hodd] | rw [if_neg hodd]) Sub.nil)))
      · have hodd : ¬ z.1 % 2 = 1 := by simp at hc21; omega
        refine A.skip ?_
        refine End.normal_block ?_
        refine End.normal_then (End.code ?_)
        refine A.regs (by kernel_rfl) (by kernel_rfl) (.inl rfl) ?_
        refine RunTK.last ?_
        refine RunK.step rfl rfl (ok_move rfl) ?_
        refine RunK.step rfl rfl (ok_move rfl) ?_
        refine RunK.step rfl rfl (ok_call (Mul_fn z.2.1 z.2.1 h2 h2) (Args.cons rfl (Le.refl _) (Args.cons rfl (Le.refl _) Args.nil))) ?_
        refine RunK.step rfl rfl (ok_assign rfl) ?_
        refine RunK.nil ?_
        refine A.sub (Sub.cons (t := 0) rfl (Sub.cons (t := 1) rfl (Sub.cons (t := 5) rfl Sub.nil))) ?_
        refine A.reg (by kernel_rfl) (by kernel_rfl) (.inl rfl) ?_
        refine RunTK.last ?_
        refine RunK.step rfl rfl (ok_move rfl) ?_
        refine RunK.step rfl rfl (ok_shr rfl rfl (by decide)) ?_; refine RunK.as (.int .i64 ((z.1 / 2 : Nat) : Int)) (by rw [show min (Int.toNat 1) IntKind.i64.bits = 1 from rfl]; exact congrArg _ (shr_nat _ 1)) ?_
        refine RunK.step rfl rfl (ok_assign rfl) ?_
        refine RunK.nil ?_
        refine End.sub (Sub.cons (t := 0) rfl (Sub.cons (t := 1) rfl (Sub.cons (t := 5) rfl Sub.nil))) ?_
        refine End.normal_block ?_
        refine End.normal_then ?_
        refine End.again (z.1 / 2, gm z.2.1 z.2.1, (if z.1 % 2 = 1 then gm z.2.2 z.2.1 else z.2.2)) ?_ ?_ ?_
        · exact ⟨(gpow_step h2 h3).trans h1, gm_lt _ h2, by show (if z.1 % 2 = 1 then gm z.2.2 z.2.1 else z.2.2) < 256; split <;> first | exact gm_lt _ h3 | exact h3, by show z.1 / 2 < 255; omega⟩
        · show z.1 / 2 < z.1; omega
        · exact (Sub.cons (t := 0) rfl (Sub.cons (t := 1) rfl (Sub.eq (t := 5) _ rfl (show _ = D.v (.int .u8 (((if z.1 % 2 = 1 then gm z.2.2 z.2.1 else z.2.2) : Nat) : Int)) from by first | rw [if_pos hodd] | rw [if_neg hodd]) Sub.nil)))
theorem Power_fn (a : Nat) (n : Int) (ha : a < 256) : Fn Try.prog 28 [.v (.int .u8 ((a : Nat) : Int)), .v (.int .i64 n)] (.v (.int .u8 ((gpz a n : Nat) : Int))) := by
  by_cases h0 : a = 0
  · by_cases hn : n = 0
    · exact Power_fnC a n ha h0 hn
    · subst h0
      rw [gpz_zero hn]
      exact Power_fnA n hn
  · exact Power_fnB a n ha h0
theorem Inverse_fn (a : Nat) (ha : a < 256) : Fn Try.prog 49 [.v (.int .u8 ((a : Nat) : Int))] (.v (.int .u8 ((ginv a : Nat) : Int))) := by
  refine Fn.of Try.func49 rfl (by kernel_rfl) Try.ntmps49 (by simp) (fun w => [(0, .v (.int .u8 ((a : Nat) : Int)))]) (fun w => (Start.v rfl Start.nil)) fun w₀ => ?_
  refine A.regs (by kernel_rfl) (by kernel_rfl) (.inl rfl) ?_
  refine RunTK.last ?_
  refine RunK.step rfl rfl (ok_assign rfl) ?_
  refine RunK.nil ?_
  refine A.sub (Sub.cons (t := 0) rfl Sub.nil) ?_
  refine A.regs (by kernel_rfl) (by kernel_rfl) (.inl rfl) ?_
  refine RunTK.last ?_
  refine RunK.step rfl rfl (ok_move rfl) ?_
  refine RunK.step rfl rfl (ok_strIndex (l := itab) a Try.underlying9 rfl rfl rfl (itab_get ha)) ?_; refine RunK.as (.int .u8 ((ginv a : Nat) : Int)) (rfl) ?_
  refine RunK.step rfl rfl (ok_assign rfl) ?_
  refine RunK.nil ?_
  refine A.sub (Sub.cons (t := 2) rfl Sub.nil) ?_
  refine A.ret ?_
  exact End.ret1 rfl rfl (by first | exact Le.refl _ | exact Le.old _ _)
theorem RotateLeft8_fn (a k : Nat) (ha : a < 256) (hk : k < 8) : Fn Try.prog 50 [.v (.int .u8 ((a : Nat) : Int)), .v (.int .i64 ((k : Nat) : Int))] (.v (.int .u8 ((rotl8 a k : Nat) : Int))) := by
  refine Fn.of Try.func50 rfl (by kernel_rfl) Try.ntmps50 (by simp) (fun w => [(0, .v (.int .u8 ((a : Nat) : Int))), (1, .v (.int .i64 ((k : Nat) : Int)))]) (fun w => (Start.v rfl (Start.v rfl Start.nil))) fun w₀ => ?_
  refine A.regs (by kernel_rfl) (by kernel_rfl) (.inl rfl) ?_
  refine RunTK.last ?_
  refine RunK.step rfl rfl (ok_assign rfl) ?_
  refine RunK.nil ?_
  refine A.sub (Sub.cons (t := 0) rfl (Sub.cons (t := 1) rfl Sub.nil)) ?_
  refine A.regs (by kernel_rfl) (by kernel_rfl) (.inl rfl) ?_
  refine RunTK.last ?_
  refine RunK.step rfl rfl (ok_move rfl) ?_
  refine RunK.step rfl rfl (ok_conv Try.underlying3 Try.underlying78 rfl) ?_; refine RunK.as (.int .u64 ((k : Nat) : Int)) (by rw [wrapN_u64 (by omega)]) ?_
  refine RunK.step rfl rfl (ok_bin rfl rfl rfl) ?_; refine RunK.as (.int .u64 ((k : Nat) : Int)) (by rw [show IntKind.u64.bits = 64 from rfl, show (7 : Int) = ((7 : Nat) : Int) from rfl, and_u64_nat (by omega) (by decide), show k &&& 7 = k % 8 from Nat.and_two_pow_sub_one_eq_mod k 3, Nat.mod_eq_of_lt hk]) ?_
  refine RunK.step rfl rfl (ok_assign rfl) ?_
  refine RunK.nil ?_
  refine A.sub (Sub.cons (t := 0) rfl (Sub.cons (t := 5) rfl Sub.nil)) ?_
  refine A.regs (by kernel_rfl) (by kernel_rfl) (.inl rfl) ?_
  refine RunTK.last ?_
  refine RunK.step rfl rfl (ok_move rfl) ?_
  refine RunK.step rfl rfl (ok_move rfl) ?_
  refine RunK.step rfl rfl (ok_shl rfl rfl (by omega)) ?_; refine RunK.as (.int .u8 ((a * 2 ^ k % 256 : Nat) : Int)) (by rw [Int.toNat_natCast, show min k IntKind.u8.bits = k from by simp only [IntKind.bits]; omega, show (a : Int) * 2 ^ k = ((a * 2 ^ k : Nat) : Int) from by simp, wrap_u8N]) ?_
  refine RunK.step rfl rfl (ok_move rfl) ?_
  refine RunK.step rfl rfl (ok_move rfl) ?_
  refine RunK.step rfl rfl (ok_bin rfl rfl rfl) ?_; refine RunK.as (.int .u64 ((8 - k : Nat) : Int)) (by rw [wrap_u64 (by omega) (by omega)]; exact congrArg (Value.int .u64) (by omega)) ?_
  refine RunK.step rfl rfl (ok_shr rfl rfl (by omega)) ?_; refine RunK.as (.int .u8 ((a / 2 ^ (8 - k) : Nat) : Int)) (by rw [Int.toNat_natCast, show min (8 - k) IntKind.u8.bits = 8 - k from by simp only [IntKind.bits]; omega]; exact congrArg _ (shr_nat _ _)) ?_
  refine RunK.step rfl rfl (ok_bin rfl rfl rfl) ?_; refine RunK.as (.int .u8 ((rotl8 a k : Nat) : Int)) (by rw [show IntKind.u8.bits = 8 from rfl, or_u8N (Nat.mod_lt _ (by decide)) (Nat.lt_of_le_of_lt (Nat.div_le_self _ _) ha)]; rfl) ?_
  refine RunK.step rfl rfl (ok_assign rfl) ?_
  refine RunK.nil ?_
  refine A.sub (Sub.cons (t := 4) rfl Sub.nil) ?_
  refine A.ret ?_
  exact End.ret1 rfl rfl (by first | exact Le.refl _ | exact Le.old _ _)
theorem xor_lt8 {a b : Nat} (ha : a < 256) (hb : b < 256) : a ^^^ b < 256 := Nat.xor_lt_two_pow (n := 8) ha hb
theorem Sub_fn (a : Nat) (ha : a < 256) : Fn Try.prog 42 [.v (.int .u8 ((a : Nat) : Int))] (.v (.int .u8 ((sub8 a : Nat) : Int))) := by
  refine Fn.of Try.func42 rfl (by kernel_rfl) Try.ntmps42 (by simp) (fun w => [(0, .v (.int .u8 ((a : Nat) : Int)))]) (fun w => (Start.v rfl Start.nil)) fun w₀ => ?_
  refine A.regs (by kernel_rfl) (by kernel_rfl) (.inl rfl) ?_
  refine RunTK.last ?_
  refine RunK.step rfl rfl (ok_assign rfl) ?_
  refine RunK.nil ?_
  refine A.sub (Sub.cons (t := 0) rfl Sub.nil) ?_
  refine A.regs (by kernel_rfl) (by kernel_rfl) (.inl rfl) ?_
  refine RunTK.last ?_
  refine RunK.step rfl rfl (ok_move rfl) ?_
  refine RunK.step rfl rfl (ok_call (Inverse_fn a ha) (Args.cons rfl (by first | exact Le.refl _ | exact Le.old _ _ | exact le_byt _ _ | exact (Le.old _ _).trans (le_byt _ _) | exact le_lst _ _ | exact (Le.old _ _).trans (le_lst _ _) | exact (Le.old _ _).trans (Le.old _ _) | exact (Le.old _ _).trans ((Le.old _ _).trans (le_byt _ _)) | exact byt_nil_le | exact lst_nil_le | exact bytes_nil_le | exact list_nil_le) Args.nil)) ?_
  refine RunK.step rfl rfl (ok_assign rfl) ?_
  refine RunK.nil ?_
  refine A.sub (Sub.cons (t := 3) rfl Sub.nil) ?_
  refine A.regs (by kernel_rfl) (by kernel_rfl) (.inl rfl) ?_
  refine RunTK.last ?_
  refine RunK.step rfl rfl (ok_move rfl) ?_
  refine RunK.step rfl rfl (ok_move rfl) ?_
  refine RunK.step rfl rfl (ok_call (RotateLeft8_fn (ginv a) 1 (ginv_lt a) (by decide)) (Args.cons rfl (by first | exact Le.refl _ | exact Le.old _ _ | exact le_byt _ _ | exact (Le.old _ _).trans (le_byt _ _) | exact le_lst _ _ | exact (Le.old _ _).trans (le_lst _ _) | exact (Le.old _ _).trans (Le.old _ _) | exact (Le.old _ _).trans ((Le.old _ _).trans (le_byt _ _)) | exact byt_nil_le | exact lst_nil_le | exact bytes_nil_le | exact list_nil_le) (Args.cons rfl (by first | exact Le.refl _ | exact Le.old _ _ | exact le_byt _ _ | exact (Le.old _ _).trans (le_byt _ _) | exact le_lst _ _ | exact (Le.old _ _).trans (le_lst _ _) | exact (Le.old _ _).trans (Le.old _ _) | exact (Le.old _ _).trans ((Le.old _ _).trans (le_byt _ _)) | exact byt_nil_le | exact lst_nil_le | exact bytes_nil_le | exact list_nil_le) Args.nil))) ?_
  refine RunK.step rfl rfl (ok_bin rfl rfl rfl) ?_; refine RunK.as (.int .u8 (((ginv a) ^^^ rotl8 (ginv a) 1 : Nat) : Int)) (by rw [show IntKind.u8.bits = 8 from rfl, xor_u8N (ginv_lt a) (rotl8_lt _ (ginv_lt a))]) ?_
  refine RunK.step rfl rfl (ok_move rfl) ?_
  refine RunK.step rfl rfl (ok_call (RotateLeft8_fn (ginv a) 2 (ginv_lt a) (by decide)) (Args.cons rfl (by first | exact Le.refl _ | exact Le.old _ _ | exact le_byt _ _ | exact (Le.old _ _).trans (le_byt _ _) | exact le_lst _ _ | exact (Le.old _ _).trans (le_lst _ _) | exact (Le.old _ _).trans (Le.old _ _) | exact (Le.old _ _).trans ((Le.old _ _).trans (le_byt _ _)) | exact byt_nil_le | exact lst_nil_le | exact bytes_nil_le | exact list_nil_le) (Args.cons rfl (by first | exact Le.refl _ | exact Le.old _ _ | exact le_byt _ _ | exact (Le.old _ _).trans (le_byt _ _) | exact le_lst _ _ | exact (Le.old _ _).trans (le_lst _ _) | exact (Le.old _ _).trans (Le.old _ _) | exact (Le.old _ _).trans ((Le.old _ _).trans (le_byt _ _)) | exact byt_nil_le | exact lst_nil_le | exact bytes_nil_le | exact list_nil_le) Args.nil))) ?_
  refine RunK.step rfl rfl (ok_bin rfl rfl rfl) ?_; refine RunK.as (.int .u8 (((ginv a) ^^^ rotl8 (ginv a) 1 ^^^ rotl8 (ginv a) 2 : Nat) : Int)) (by rw [show IntKind.u8.bits = 8 from rfl, xor_u8N (xor_lt8 (ginv_lt a) (rotl8_lt _ (ginv_lt a))) (rotl8_lt _ (ginv_lt a))]) ?_
  refine RunK.step rfl rfl (ok_move rfl) ?_
  refine RunK.step rfl rfl (ok_call (RotateLeft8_fn (ginv a) 3 (ginv_lt a) (by decide)) (Args.cons rfl (by first | exact Le.refl _ | exact Le.old _ _ | exact le_byt _ _ | exact (Le.old _ _).trans (le_byt _ _) | exact le_lst _ _ | exact (Le.old _ _).trans (le_lst _ _) | exact (Le.old _ _).trans (Le.old _ _) | exact (Le.old _ _).trans ((Le.old _ _).trans (le_byt _ _)) | exact byt_nil_le | exact lst_nil_le | exact bytes_nil_le | exact list_nil_le) (Args.cons rfl (by first | exact Le.refl _ | exact Le.old _ _ | exact le_byt _ _ | exact (Le.old _ _).trans (le_byt _ _) | exact le_lst _ _ | exact (Le.old _ _).trans (le_lst _ _) | exact (Le.old _ _).trans (Le.old _ _) | exact (Le.old _ _).trans ((Le.old _ _).trans (le_byt _ _)) | exact byt_nil_le | exact lst_nil_le | exact bytes_nil_le | exact list_nil_le) Args.nil))) ?_
  refine RunK.step rfl rfl (ok_bin rfl rfl rfl) ?_; refine RunK.as (.int .u8 (((ginv a) ^^^ rotl8 (ginv a) 1 ^^^ rotl8 (ginv a) 2 ^^^ rotl8 (ginv a) 3 : Nat) : Int)) (by rw [show IntKind.u8.bits = 8 from rfl, xor_u8N (xor_lt8 (xor_lt8 (ginv_lt a) (rotl8_lt _ (ginv_lt a))) (rotl8_lt _ (ginv_lt a))) (rotl8_lt _ (ginv_lt a))]) ?_
  refine RunK.step rfl rfl (ok_move rfl) ?_
  refine RunK.step rfl rfl (ok_call (RotateLeft8_fn (ginv a) 4 (ginv_lt a) (by decide)) (Args.cons rfl (by first | exact Le.refl _ | exact Le.old _ _ | exact le_byt _ _ | exact (Le.old _ _).trans (le_byt _ _) | exact le_lst _ _ | exact (Le.old _ _).trans (le_lst _ _) | exact (Le.old _ _).trans (Le.old _ _) | exact (Le.old _ _).trans ((Le.old _ _).trans (le_byt _ _)) | exact byt_nil_le | exact lst_nil_le | exact bytes_nil_le | exact list_nil_le) (Args.cons rfl (by first | exact Le.refl _ | exact Le.old _ _ | exact le_byt _ _ | exact (Le.old _ _).trans (le_byt _ _) | exact le_lst _ _ | exact (Le.old _ _).trans (le_lst _ _) | exact (Le.old _ _).trans (Le.old _ _) | exact (Le.old _ _).trans ((Le.old _ _).trans (le_byt _ _)) | exact byt_nil_le | exact lst_nil_le | exact bytes_nil_le | exact list_nil_le) Args.nil))) ?_
  refine RunK.step rfl rfl (ok_bin rfl rfl rfl) ?_; refine RunK.as (.int .u8 (((ginv a) ^^^ rotl8 (ginv a) 1 ^^^ rotl8 (ginv a) 2 ^^^ rotl8 (ginv a) 3 ^^^ rotl8 (ginv a) 4 : Nat) : Int)) (by rw [show IntKind.u8.bits = 8 from rfl, xor_u8N (xor_lt8 (xor_lt8 (xor_lt8 (ginv_lt a) (rotl8_lt _ (ginv_lt a))) (rotl8_lt _ (ginv_lt a))) (rotl8_lt _ (ginv_lt a))) (rotl8_lt _ (ginv_lt a))]) ?_
  refine RunK.step rfl rfl (ok_bin rfl rfl rfl) ?_; refine RunK.as (.int .u8 ((sub8 a : Nat) : Int)) (by rw [show IntKind.u8.bits = 8 from rfl, show (99 : Int) = ((99 : Nat) : Int) from rfl, xor_u8N (xor_lt8 (xor_lt8 (xor_lt8 (xor_lt8 (ginv_lt a) (rotl8_lt _ (ginv_lt a))) (rotl8_lt _ (ginv_lt a))) (rotl8_lt _ (ginv_lt a))) (rotl8_lt _ (ginv_lt a))) (by decide)]; rfl) ?_
  refine RunK.step rfl rfl (ok_assign rfl) ?_
  refine RunK.nil ?_
  refine A.sub (Sub.cons (t := 2) rfl Sub.nil) ?_
  refine A.ret ?_
  exact End.ret1 rfl rfl (by first | exact Le.refl _ | exact Le.old _ _)
-- caisson/fields.Back: not at this seat
end Go.Proofs.Ythggljahgnjcbaa
