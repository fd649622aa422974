/-
  The definition's package of layer 2, by facts: Primes.
-/
import Derived.Test.YtlnnhlgfomklcaaDoorC02e
namespace Go.Proofs.YtlnnhlgfomklcaaDoor
open Go Go.RowKit
set_option linter.unusedVariables false

theorem bne_cast (a : Nat) : (((a : Nat) : Int) != 0) = (a != 0) := by rw [Bool.eq_iff_iff]; simp

set_option maxHeartbeats 400000 in
theorem Primes_fn  : Fn Tryd.prog 18 [.v (.int .i64 64)] (lst ((sieveN 310).map u64D)) := by
  refine Fn.of Tryd.func18 rfl (by kernel_rfl) Tryd.ntmps18 (by simp) (fun w => [(0, .v (.int .i64 64))]) (fun w => (Start.v rfl Start.nil)) fun w₀ => ?_
  refine A.regs (by kernel_rfl) (by kernel_rfl) (.inl rfl) ?_
  refine RunTK.last ?_
  refine RunK.step rfl rfl (ok_assign rfl) ?_
  refine RunK.nil ?_
  refine A.sub (Sub.cons (t := 0) rfl Sub.nil) ?_
  refine A.regs (by kernel_rfl) (by kernel_rfl) (.inl rfl) ?_
  refine RunTK.last ?_
  refine RunK.step rfl rfl (ok_assign rfl) ?_
  refine RunK.nil ?_
  refine A.sub (Sub.cons (t := 0) rfl (Sub.cons (t := 3) rfl Sub.nil)) ?_
  refine A.seq ?_
  refine A.regs (by kernel_rfl) (by kernel_rfl) (.inl rfl) ?_
  refine RunTK.last ?_
  refine RunK.step rfl rfl (ok_assign rfl) ?_
  refine RunK.nil ?_
  refine A.sub (Sub.cons (t := 0) rfl (Sub.cons (t := 3) rfl (Sub.cons (t := 4) rfl Sub.nil))) ?_
  refine A.block ?_
  refine A.subL (SubL.cons (t := 0) rfl (Le.refl _) (SubL.cons (t := 3) rfl (own_nil (B := w₀.heap.size) (e := 38)) (SubL.cons (t := 4) rfl (Le.refl _) SubL.nil))) ?_
  refine A.loop (ι := Nat) (fun k => k ≤ 310) (fun k => [(0, .v (.int .i64 64)), (3, own w₀.heap.size 38 (sieveN k).length ((sieveN k).map u64V)), (4, .v (u64V (k + 2)))]) (fun k => 310 - k) 0 ?_ ?_ ?_
  · exact Nat.zero_le _
  · exact (Sub.cons (t := 0) rfl (Sub.cons (t := 3) rfl (Sub.cons (t := 4) rfl Sub.nil)))
  intro k hk
  refine A.seq ?_
  refine A.regs (by kernel_rfl) (by kernel_rfl) (.inl rfl) ?_
  refine RunTK.last ?_
  refine RunK.step rfl rfl (ok_move rfl) ?_
  refine RunK.step rfl rfl (ok_len Tryd.underlying48 rfl (own_u64 rfl)) ?_; refine RunK.as (.int .i64 (((sieveN k).length : Nat) : Int)) (by rw [List.length_map]) ?_
  refine RunK.step rfl rfl (ok_move rfl) ?_
  refine RunK.step rfl rfl (ok_bin rfl rfl rfl) ?_
  refine RunK.nil ?_
  refine A.sub (Sub.cons (t := 0) rfl (Sub.cons (t := 3) rfl (Sub.cons (t := 4) rfl (Sub.cons (t := 10) rfl Sub.nil)))) ?_
  refine A.cond rfl (fun hc10 => ?_) (fun hc10 => ?_)
  · have hlen : (sieveN k).length < 64 := by simp at hc10; omega
    have hk310 := sieve_more hk hlen
    refine A.skip ?_
    refine End.normal_then (End.code ?_)
    refine A.seq ?_
    refine A.block ?_
    refine A.regs (by kernel_rfl) (by kernel_rfl) (.inl rfl) ?_
    refine RunTK.last ?_
    refine RunK.step rfl rfl (ok_assign rfl) ?_
    refine RunK.nil ?_
    refine A.sub (Sub.cons (t := 0) rfl (Sub.cons (t := 3) rfl (Sub.cons (t := 4) rfl (Sub.cons (t := 5) rfl Sub.nil)))) ?_
    refine A.seq ?_
    refine A.regs (by kernel_rfl) (by kernel_rfl) (.inl rfl) ?_
    refine RunTK.last ?_
    refine RunK.step rfl rfl (ok_assign rfl) ?_
    refine RunK.nil ?_
    refine A.sub (Sub.cons (t := 0) rfl (Sub.cons (t := 3) rfl (Sub.cons (t := 4) rfl (Sub.cons (t := 5) rfl (Sub.cons (t := 6) rfl Sub.nil))))) ?_
    refine A.block ?_
    refine A.loop (ι := Nat) (fun i => i ≤ (sieveN k).length) (fun i => [(0, .v (.int .i64 64)), (3, own w₀.heap.size 38 (sieveN k).length ((sieveN k).map u64V)), (4, .v (u64V (k + 2))), (5, .v (.bool (((sieveN k).take i).all (fun q => (k + 2) % q != 0)))), (6, .v (.int .i64 ((i : Nat) : Int)))]) (fun i => (sieveN k).length - i) 0 ?_ ?_ ?_
    · exact Nat.zero_le _
    · exact (Sub.cons (t := 0) rfl (Sub.cons (t := 3) rfl (Sub.cons (t := 4) rfl (Sub.cons (t := 5) rfl (Sub.cons (t := 6) rfl Sub.nil)))))
    intro i hi
    refine A.seq ?_
    refine A.regs (by kernel_rfl) (by kernel_rfl) (.inl rfl) ?_
    refine RunTK.last ?_
    refine RunK.step rfl rfl (ok_move rfl) ?_
    refine RunK.step rfl rfl (ok_move rfl) ?_
    refine RunK.step rfl rfl (ok_len Tryd.underlying48 rfl (own_u64 rfl)) ?_; refine RunK.as (.int .i64 (((sieveN k).length : Nat) : Int)) (by rw [List.length_map]) ?_
    refine RunK.step rfl rfl (ok_bin rfl rfl rfl) ?_
    refine RunK.nil ?_
    refine A.sub (Sub.cons (t := 0) rfl (Sub.cons (t := 3) rfl (Sub.cons (t := 4) rfl (Sub.cons (t := 5) rfl (Sub.cons (t := 6) rfl (Sub.cons (t := 16) rfl Sub.nil)))))) ?_
    refine A.cond rfl (fun hc16 => ?_) (fun hc16 => ?_)
    · have hlt : i < (sieveN k).length := by simp at hc16; omega
      refine A.skip ?_
      refine End.normal_then (End.code ?_)
      refine A.seq ?_
      refine A.block ?_
      rcases Bool.eq_false_or_eq_true (((sieveN k).take i).all (fun q => (k + 2) % q != 0)) with hsp | hsp
      · refine A.reg (by kernel_rfl) (by kernel_rfl) (.inl rfl) ?_
        refine RunTK.last ?_
        refine RunK.step rfl rfl (ok_move rfl) ?_
        refine RunK.step rfl rfl (ok_move rfl) ?_; refine RunK.as (.bool true) (by rw [hsp]) ?_
        refine RunK.guarded rfl rfl rfl rfl (ok_move rfl) ?_
        refine RunK.guarded rfl rfl rfl rfl (ok_move rfl) ?_
        refine RunK.guarded rfl rfl rfl rfl (ok_move rfl) ?_
        refine RunK.guarded rfl rfl rfl rfl (ok_index (d := u64D (sieveN k)[i]) Tryd.underlying48 info38 rfl (own_u64 rfl) rfl (by omega) (by rw [Int.toNat_natCast, List.getElem?_map, List.getElem?_eq_getElem hlt]; rfl)) ?_
        refine RunK.guarded rfl rfl rfl rfl (ok_load Tryd.underlying38 rfl rfl) ?_
        refine RunK.guarded rfl rfl rfl rfl (ok_rem rfl rfl (by have := sieve_pos k (sieveN k)[i] (List.getElem_mem hlt); omega)) ?_; refine RunK.as (u64V ((k + 2) % (sieveN k)[i])) (by show Value.int _ _ = Value.int _ _; congr 1) ?_
        refine RunK.guarded rfl rfl rfl rfl (ok_bin rfl rfl rfl) ?_
        refine RunK.step rfl rfl (ok_pick rfl rfl) ?_; refine RunK.as (.bool (((sieveN k).take (i + 1)).all (fun q => (k + 2) % q != 0))) (by rw [List.take_add_one, List.getElem?_eq_getElem hlt, List.all_append, hsp, bne_cast, Option.toList_some, List.all_cons, List.all_nil, Bool.and_true, Bool.true_and]) ?_
        refine RunK.step rfl rfl (ok_assign rfl) ?_
        refine RunK.nil ?_
        refine End.sub (Sub.cons (t := 0) rfl (Sub.cons (t := 3) rfl (Sub.cons (t := 4) rfl (Sub.cons (t := 5) rfl (Sub.cons (t := 6) rfl Sub.nil))))) ?_
        refine End.normal_block ?_
        refine End.normal_then (End.code ?_)
        refine A.reg (by kernel_rfl) (by kernel_rfl) (.inl rfl) ?_
        refine RunTK.last ?_
        refine RunK.step rfl rfl (ok_move rfl) ?_
        refine RunK.step rfl rfl (ok_bin rfl rfl rfl) ?_; refine RunK.as (.int .i64 ((i + 1 : Nat) : Int)) (by rw [wrap_i64 (by omega) (by omega)]; first | rfl | (congr 1; omega)) ?_
        refine RunK.step rfl rfl (ok_assign rfl) ?_
        refine RunK.nil ?_
        refine End.sub (Sub.cons (t := 0) rfl (Sub.cons (t := 3) rfl (Sub.cons (t := 4) rfl (Sub.cons (t := 5) rfl (Sub.cons (t := 6) rfl Sub.nil))))) ?_
        refine End.normal_then ?_
        refine End.again (i + 1) ?_ ?_ ?_
        · show _ ≤ _; omega
        · show _ - _ < _ - _; omega
        · exact (Sub.cons (t := 0) rfl (Sub.cons (t := 3) rfl (Sub.cons (t := 4) rfl (Sub.cons (t := 5) rfl (Sub.cons (t := 6) rfl Sub.nil)))))
      · refine A.reg (by kernel_rfl) (by kernel_rfl) (.inl rfl) ?_
        refine RunTK.last ?_
        refine RunK.step rfl rfl (ok_move rfl) ?_
        refine RunK.step rfl rfl (ok_move rfl) ?_; refine RunK.as (.bool false) (by rw [hsp]) ?_
        refine RunK.skipped rfl rfl rfl rfl rfl ?_
        refine RunK.skipped rfl rfl rfl rfl rfl ?_
        refine RunK.skipped rfl rfl rfl rfl rfl ?_
        refine RunK.skipped rfl rfl rfl rfl rfl ?_
        refine RunK.skipped rfl rfl rfl rfl rfl ?_
        refine RunK.skipped rfl rfl rfl rfl rfl ?_
        refine RunK.skipped rfl rfl rfl rfl rfl ?_
        refine RunK.step rfl rfl (ok_pick rfl rfl) ?_; refine RunK.as (.bool (((sieveN k).take (i + 1)).all (fun q => (k + 2) % q != 0))) (by rw [List.take_add_one, List.getElem?_eq_getElem hlt, List.all_append, hsp]; rfl) ?_
        refine RunK.step rfl rfl (ok_assign rfl) ?_
        refine RunK.nil ?_
        refine End.sub (Sub.cons (t := 0) rfl (Sub.cons (t := 3) rfl (Sub.cons (t := 4) rfl (Sub.cons (t := 5) rfl (Sub.cons (t := 6) rfl Sub.nil))))) ?_
        refine End.normal_block ?_
        refine End.normal_then (End.code ?_)
        refine A.reg (by kernel_rfl) (by kernel_rfl) (.inl rfl) ?_
        refine RunTK.last ?_
        refine RunK.step rfl rfl (ok_move rfl) ?_
        refine RunK.step rfl rfl (ok_bin rfl rfl rfl) ?_; refine RunK.as (.int .i64 ((i + 1 : Nat) : Int)) (by rw [wrap_i64 (by omega) (by omega)]; first | rfl | (congr 1; omega)) ?_
        refine RunK.step rfl rfl (ok_assign rfl) ?_
        refine RunK.nil ?_
        refine End.sub (Sub.cons (t := 0) rfl (Sub.cons (t := 3) rfl (Sub.cons (t := 4) rfl (Sub.cons (t := 5) rfl (Sub.cons (t := 6) rfl Sub.nil))))) ?_
        refine End.normal_then ?_
        refine End.again (i + 1) ?_ ?_ ?_
        · show _ ≤ _; omega
        · show _ - _ < _ - _; omega
        · exact (Sub.cons (t := 0) rfl (Sub.cons (t := 3) rfl (Sub.cons (t := 4) rfl (Sub.cons (t := 5) rfl (Sub.cons (t := 6) rfl Sub.nil)))))
    · obtain rfl : i = (sieveN k).length := by simp at hc16; omega
      refine A.exit ?_
      refine End.exit_then ?_
      refine End.exit_then ?_
      refine End.exit_here ?_
      refine End.normal_then (End.code ?_)
      refine A.regs (by kernel_rfl) (by kernel_rfl) (.inl rfl) ?_
      refine RunTK.last ?_
      refine RunK.step rfl rfl (ok_move rfl) ?_
      refine RunK.nil ?_
      refine A.sub (Sub.cons (t := 0) rfl (Sub.cons (t := 3) rfl (Sub.cons (t := 4) rfl (Sub.cons (t := 29) rfl Sub.nil)))) ?_
      refine A.cond rfl (fun hc29 => ?_) (fun hc29 => ?_)
      · have hs : sieveN (k + 1) = sieveN k ++ [k + 2] := by rw [sieveN, if_pos]; rwa [List.take_length] at hc29
        refine A.reg (by kernel_rfl) (by kernel_rfl) (.inl rfl) ?_
        refine RunTK.eff 3 (by decide) rfl (.inl rfl) ?_
        refine RunK.step rfl rfl (ok_move rfl) ?_
        refine RunK.step rfl rfl (ok_move rfl) ?_
        refine RunK.step rfl rfl (ok_build [u64D (k + 2)] Tryd.underlying48 info38 rfl (by decide) (by decide) rfl ⟨rfl, rfl, trivial⟩ (fun d hd w x h => by simp only [List.mem_cons, List.not_mem_nil, or_false] at hd; rcases hd with rfl; exact v_one rfl h)) ?_
        refine RunK.nil ?_
        refine ⟨_, eff_appendS (vs := [u64V (k + 2)]) Tryd.underlying48 info38 (by decide) rfl rfl rfl (le_lst _ _) (by simp [u64V, Value.oneCell']) (by simp; omega) (by decide) (fun g hg => (LeftS.cons (t := 0) rfl (Surv.v _) (LeftS.cons (t := 4) rfl (Surv.v _) (LeftS.cons (t := 29) rfl (Surv.v _) (LeftS.cons (t := 31) rfl (Surv.v _) LeftS.nil))))), ?_⟩
        refine RunTK.last ?_
        refine RunK.step rfl rfl (ok_assign rfl) ?_
        refine RunK.nil ?_
        refine End.sub (Sub.cons (t := 0) rfl (Sub.cons (t := 3) rfl (Sub.cons (t := 4) rfl Sub.nil))) ?_
        refine End.normal_block ?_
        refine End.normal_then (End.code ?_)
        refine A.reg (by kernel_rfl) (by kernel_rfl) (.inl rfl) ?_
        refine RunTK.last ?_
        refine RunK.step rfl rfl (ok_move rfl) ?_
        refine RunK.step rfl rfl (ok_bin rfl rfl rfl) ?_; refine RunK.as (u64V (k + 1 + 2)) (by rw [wrap_u64 (by omega) (by omega)]; first | rfl | (show Value.int _ _ = Value.int _ _; congr 1; omega)) ?_
        refine RunK.step rfl rfl (ok_assign rfl) ?_
        refine RunK.nil ?_
        refine End.sub (Sub.cons (t := 0) rfl (Sub.cons (t := 3) rfl (Sub.cons (t := 4) rfl Sub.nil))) ?_
        refine End.normal_then ?_
        refine End.again (k + 1) ?_ ?_ ?_
        · show _ ≤ _; omega
        · show _ - _ < _ - _; omega
        · exact (Sub.cons (t := 0) rfl (Sub.eq (t := 3) _ rfl (by first | (rw [hs, List.map_append, List.length_append]; rfl) | rw [hs]) (Sub.cons (t := 4) rfl Sub.nil)))
      · have hs : sieveN (k + 1) = sieveN k := by rw [sieveN, if_neg]; rw [List.take_length] at hc29; rw [hc29]; decide
        refine A.skip ?_
        refine End.normal_block ?_
        refine End.normal_then (End.code ?_)
        refine A.reg (by kernel_rfl) (by kernel_rfl) (.inl rfl) ?_
        refine RunTK.last ?_
        refine RunK.step rfl rfl (ok_move rfl) ?_
        refine RunK.step rfl rfl (ok_bin rfl rfl rfl) ?_; refine RunK.as (u64V (k + 1 + 2)) (by rw [wrap_u64 (by omega) (by omega)]; first | rfl | (show Value.int _ _ = Value.int _ _; congr 1; omega)) ?_
        refine RunK.step rfl rfl (ok_assign rfl) ?_
        refine RunK.nil ?_
        refine End.sub (Sub.cons (t := 0) rfl (Sub.cons (t := 3) rfl (Sub.cons (t := 4) rfl Sub.nil))) ?_
        refine End.normal_then ?_
        refine End.again (k + 1) ?_ ?_ ?_
        · show _ ≤ _; omega
        · show _ - _ < _ - _; omega
        · exact (Sub.cons (t := 0) rfl (Sub.eq (t := 3) _ rfl (by first | (rw [hs, List.map_append, List.length_append]; rfl) | rw [hs]) (Sub.cons (t := 4) rfl Sub.nil)))
  · have hend := sieve_end hk (by simp at hc10; omega)
    refine A.exit ?_
    refine End.exit_then ?_
    refine End.exit_then ?_
    refine End.exit_here ?_
    refine End.normal_then (End.code ?_)
    refine A.regs (by kernel_rfl) (by kernel_rfl) (.inl rfl) ?_
    refine RunTK.last ?_
    refine RunK.step rfl rfl (ok_move rfl) ?_
    refine RunK.step rfl rfl (ok_assign rfl) ?_
    refine RunK.nil ?_
    refine A.sub (Sub.cons (t := 2) rfl Sub.nil) ?_
    refine A.ret ?_
    exact End.ret1 rfl rfl ((own_u64 rfl).trans (Le.eq (by rw [hend])))
end Go.Proofs.YtlnnhlgfomklcaaDoor
