/-
  The laws of caissonlaw04, by facts, part one: same, from.
-/
import Derived.Test.YtidlikaiileggaaDoorC03a
import Derived.Test.YtidlikaiileggaaDoorHkdf
namespace Go.Proofs.YtidlikaiileggaaDoor
open Go Go.RowKit
set_option linter.unusedVariables false
/-- Bytes that rise by 1. -/
def rise (c : UInt8) (n : Nat) : List UInt8 := (List.range n).map fun i => c + UInt8.ofNat i
theorem rise_length (c : UInt8) (n : Nat) : (rise c n).length = n := by simp [rise]
theorem rise_succ (c : UInt8) (n : Nat) : rise c (n + 1) = rise c n ++ [c + UInt8.ofNat n] := by simp [rise, List.range_succ]
theorem add_u8_nat (a b : UInt8) : IntKind.u8.wrap ((a.toNat : Int) + (b.toNat : Int)) = ((a + b).toNat : Int) := by
  rw [← Int.natCast_add, wrap_u8_nat, UInt8.ofNat_add, UInt8.ofNat_toNat, UInt8.ofNat_toNat]

theorem same4_fn (l : List UInt8) (f : Int) : Fn Tryd.prog 12 [bytes l l.length, .v (.int .i64 f), byt l, .v (.int .i64 f)] (.v (.bool true)) := by
  refine Fn.of Tryd.func12 rfl (by kernel_rfl) Tryd.ntmps12 (by simp) (fun w => [(0, old w.heap.size (bytes l l.length)), (1, .v (.int .i64 f)), (2, old w.heap.size (byt l)), (3, .v (.int .i64 f))]) (fun w => (Start.old rfl (Start.v rfl (Start.old rfl (Start.v rfl Start.nil))))) fun w₀ => ?_
  refine A.regs (by kernel_rfl) (by kernel_rfl) (.inl rfl) ?_
  refine RunTK.last ?_
  refine RunK.step rfl rfl (ok_assign rfl) ?_
  refine RunK.nil ?_
  refine A.sub (Sub.cons (t := 0) rfl (Sub.cons (t := 1) rfl (Sub.cons (t := 2) rfl (Sub.cons (t := 3) rfl Sub.nil)))) ?_
  refine A.regs (by kernel_rfl) (by kernel_rfl) (.inl rfl) ?_
  refine RunTK.last ?_
  refine RunK.step rfl rfl (ok_move rfl) ?_
  refine RunK.step rfl rfl (ok_move rfl) ?_
  refine RunK.step rfl rfl (ok_bin rfl rfl rfl) ?_; refine RunK.as (.bool true) (by simp) ?_
  refine RunK.step rfl rfl (ok_move rfl) ?_
  refine RunK.guarded rfl rfl rfl rfl (ok_move rfl) ?_
  refine RunK.guarded rfl rfl rfl rfl (ok_str (l := l) Tryd.underlying22 Tryd.underlying5 Tryd.underlying9 rfl ((Le.old _ _).trans (le_byt _ _))) ?_
  refine RunK.guarded rfl rfl rfl rfl (ok_move rfl) ?_
  refine RunK.guarded rfl rfl rfl rfl (ok_str (l := l) Tryd.underlying22 Tryd.underlying5 Tryd.underlying9 rfl (Le.old _ _)) ?_
  refine RunK.guarded rfl rfl rfl rfl (ok_seq rfl rfl) ?_; refine RunK.as (.bool true) (by simp) ?_
  refine RunK.step rfl rfl (ok_pick rfl rfl) ?_
  refine RunK.step rfl rfl (ok_move rfl) ?_
  refine RunK.guarded rfl rfl rfl rfl (ok_move rfl) ?_
  refine RunK.guarded rfl rfl rfl rfl (ok_cap Tryd.underlying22 rfl (Le.old _ _)) ?_
  refine RunK.guarded rfl rfl rfl rfl (ok_move rfl) ?_
  refine RunK.guarded rfl rfl rfl rfl (ok_lenB Tryd.underlying22 rfl ((Le.old _ _).trans (le_byt _ _))) ?_
  refine RunK.guarded rfl rfl rfl rfl (ok_bin rfl rfl rfl) ?_; refine RunK.as (.bool true) (by simp) ?_
  refine RunK.step rfl rfl (ok_pick rfl rfl) ?_
  refine RunK.step rfl rfl (ok_assign rfl) ?_
  refine RunK.nil ?_
  refine A.sub (Sub.cons (t := 8) rfl Sub.nil) ?_
  refine A.ret ?_
  exact End.ret1 rfl rfl (by first | exact Le.refl _ | exact Le.old _ _)
theorem from4_fnB (c : UInt8) (n : Nat) (hn : n ≤ 100000) : FnB Tryd.prog 16 [.v (byteV c), .v (.int .i64 ((n : Nat) : Int))] (fun B => own B 5 n ((rise c n).map byteV)) := by
  refine FnB.of Tryd.func16 rfl (by kernel_rfl) Tryd.ntmps16 (by simp) (fun w => [(0, .v (byteV c)), (1, .v (.int .i64 ((n : Nat) : Int)))]) (fun w => (Start.v rfl (Start.v rfl Start.nil))) fun w₀ => ?_
  refine A.regs (by kernel_rfl) (by kernel_rfl) (.inl rfl) ?_
  refine RunTK.last ?_
  refine RunK.step rfl rfl (ok_assign rfl) ?_
  refine RunK.nil ?_
  refine A.sub (Sub.cons (t := 0) rfl (Sub.cons (t := 1) rfl Sub.nil)) ?_
  refine A.regs (by kernel_rfl) (by kernel_rfl) (.inl rfl) ?_
  refine RunTK.last ?_
  refine RunK.step rfl rfl (ok_assign rfl) ?_
  refine RunK.nil ?_
  refine A.sub (Sub.cons (t := 0) rfl (Sub.cons (t := 1) rfl (Sub.cons (t := 5) rfl Sub.nil))) ?_
  refine A.seq ?_
  refine A.regs (by kernel_rfl) (by kernel_rfl) (.inl rfl) ?_
  refine RunTK.last ?_
  refine RunK.step rfl rfl (ok_assign rfl) ?_
  refine RunK.nil ?_
  refine A.sub (Sub.cons (t := 0) rfl (Sub.cons (t := 1) rfl (Sub.cons (t := 5) rfl (Sub.cons (t := 6) rfl Sub.nil)))) ?_
  refine A.block ?_
  refine A.subL (SubL.cons (t := 0) rfl (Le.refl _) (SubL.cons (t := 1) rfl (Le.refl _) (SubL.cons (t := 5) rfl (own_nil (B := w₀.heap.size) (e := 5)) (SubL.cons (t := 6) rfl (Le.refl _) SubL.nil)))) ?_
  refine A.loop (ι := Nat) (fun i => i ≤ n) (fun i => [(0, .v (byteV c)), (1, .v (.int .i64 ((n : Nat) : Int))), (5, own w₀.heap.size 5 (i) ((rise c (i)).map byteV)), (6, .v (.int .i64 ((i : Nat) : Int)))]) (fun i => n - i) 0 ?_ ?_ ?_
  · exact Nat.zero_le _
  · exact (Sub.cons (t := 0) rfl (Sub.cons (t := 1) rfl (Sub.eq (t := 5) _ rfl (by simp [rise]) (Sub.cons (t := 6) rfl Sub.nil))))
  intro i hi
  refine A.seq ?_
  refine A.regs (by kernel_rfl) (by kernel_rfl) (.inl rfl) ?_
  refine RunTK.last ?_
  refine RunK.step rfl rfl (ok_move rfl) ?_
  refine RunK.step rfl rfl (ok_move rfl) ?_
  refine RunK.step rfl rfl (ok_bin rfl rfl rfl) ?_
  refine RunK.nil ?_
  refine A.sub (Sub.cons (t := 0) rfl (Sub.cons (t := 1) rfl (Sub.cons (t := 5) rfl (Sub.cons (t := 6) rfl (Sub.cons (t := 9) rfl Sub.nil))))) ?_
  refine A.cond rfl (fun hc9 => ?_) (fun hc9 => ?_)
  · have hlt : i < n := by simp at hc9; omega
    refine A.skip ?_
    refine End.normal_then (End.code ?_)
    refine A.seq ?_
    refine A.block ?_
    refine A.reg (by kernel_rfl) (by kernel_rfl) (.inl rfl) ?_
    refine RunTK.eff 6 (by decide) rfl (.inl rfl) ?_
    refine RunK.step rfl rfl (ok_move rfl) ?_
    refine RunK.step rfl rfl (ok_move rfl) ?_
    refine RunK.step rfl rfl (ok_move rfl) ?_
    refine RunK.step rfl rfl (ok_conv Tryd.underlying3 Tryd.underlying5 rfl) ?_; refine RunK.as (byteV (UInt8.ofNat i)) (by rw [wrap_u8_nat]; rfl) ?_
    refine RunK.step rfl rfl (ok_bin rfl rfl rfl) ?_; refine RunK.as (byteV (c + UInt8.ofNat i)) (congrArg (Value.int .u8) (add_u8_nat c (UInt8.ofNat i))) ?_
    refine RunK.step rfl rfl (ok_build [byteD (c + UInt8.ofNat i)] Tryd.underlying22 info5 rfl (by decide) (by decide) rfl ⟨rfl, rfl, trivial⟩ (fun d hd w x h => by simp only [List.mem_cons, List.not_mem_nil, or_false] at hd; rcases hd with rfl; exact v_one rfl h)) ?_
    refine RunK.nil ?_
    refine ⟨_, eff_appendS (vs := [byteV (c + UInt8.ofNat i)]) Tryd.underlying22 info5 (by decide) rfl rfl rfl (le_lst _ _) (by simp [byteV, Value.oneCell']) (by simp; omega) (by decide) (fun g hg => (LeftS.cons (t := 0) rfl (Surv.v _) (LeftS.cons (t := 1) rfl (Surv.v _) (LeftS.cons (t := 6) rfl (Surv.v _) (LeftS.cons (t := 9) rfl (Surv.v _) (LeftS.cons (t := 13) rfl (Surv.v _) (LeftS.cons (t := 14) rfl (Surv.v _) (LeftS.cons (t := 15) rfl (Surv.v _) (LeftS.cons (t := 16) rfl (Surv.v _) LeftS.nil))))))))), ?_⟩
    refine RunTK.last ?_
    refine RunK.step rfl rfl (ok_assign rfl) ?_
    refine RunK.nil ?_
    refine End.sub (Sub.cons (t := 0) rfl (Sub.cons (t := 1) rfl (Sub.cons (t := 5) rfl (Sub.cons (t := 6) rfl Sub.nil)))) ?_
    refine End.normal_block ?_
    refine End.normal_then (End.code ?_)
    refine A.reg (by kernel_rfl) (by kernel_rfl) (.inl rfl) ?_
    refine RunTK.last ?_
    refine RunK.step rfl rfl (ok_move rfl) ?_
    refine RunK.step rfl rfl (ok_bin rfl rfl rfl) ?_; refine RunK.as (.int .i64 ((i + 1 : Nat) : Int)) (by rw [wrap_i64 (by omega) (by omega)]; first | rfl | (congr 1; omega)) ?_
    refine RunK.step rfl rfl (ok_assign rfl) ?_
    refine RunK.nil ?_
    refine End.sub (Sub.cons (t := 0) rfl (Sub.cons (t := 1) rfl (Sub.cons (t := 5) rfl (Sub.cons (t := 6) rfl Sub.nil)))) ?_
    refine End.normal_then ?_
    refine End.again (i + 1) ?_ ?_ ?_
    · show _ ≤ _; omega
    · show _ - _ < _ - _; omega
    · exact (Sub.cons (t := 0) rfl (Sub.cons (t := 1) rfl (Sub.eq (t := 5) _ rfl (by rw [rise_succ]; simp) (Sub.cons (t := 6) rfl Sub.nil))))
  · obtain rfl : i = n := by simp at hc9; omega
    refine A.exit ?_
    refine End.exit_then ?_
    refine End.exit_then ?_
    refine End.exit_here ?_
    refine End.normal_then (End.code ?_)
    refine A.regs (by kernel_rfl) (by kernel_rfl) (.inl rfl) ?_
    refine RunTK.last ?_
    refine RunK.step rfl rfl (ok_move rfl) ?_
    refine RunK.step rfl rfl (ok_assign rfl) ?_
    refine RunK.nil ?_
    refine A.sub (Sub.cons (t := 4) rfl Sub.nil) ?_
    refine A.ret ?_
    exact End.ret1 rfl rfl (by first | exact Le.refl _ | exact Le.old _ _)
end Go.Proofs.YtidlikaiileggaaDoor
