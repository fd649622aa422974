/-
  The definition's package of layer 2, by facts: times, above, Root.
-/
import Derived.Test.YtlnnhlgfomklcaaDoorDig
import Derived.Test.YtlnnhlgfomklcaaDoorC02a
namespace Go.Proofs.YtlnnhlgfomklcaaDoor
open Go Go.RowKit
set_option linter.unusedVariables false

theorem pow16 (n : Nat) : 0 < 65536 ^ n := Nat.pow_pos (by decide)
theorem carry_small {c x k : Nat} (hc : c < x) (hx : x < 137438953472) (hk : 0 < c / 65536 ^ k) : k < 4 := by
  rcases Nat.lt_or_ge k 4 with h | h
  · exact h
  · have h1 : 65536 ^ 4 ≤ 65536 ^ k := Nat.pow_le_pow_right (by decide) h
    rw [Nat.div_eq_of_lt (by omega)] at hk; cases hk
theorem canon_next {v x N M : Nat} (hx : 0 < x) (hc : N = 1 ∨ 65536 ^ (N - 1) ≤ v) (hM : M = N ∨ 65536 ^ (M - 1) ≤ v * x) : M = 1 ∨ 65536 ^ (M - 1) ≤ v * x := by
  rcases hM with rfl | h
  · rcases hc with h | h
    · exact .inl h
    · exact .inr (Nat.le_trans h (Nat.le_mul_of_pos_right _ hx))
  · exact .inr h

theorem info38 : InfoIs Tryd.prog 38 (.int .u64 0) 8 := by unfold InfoIs; kernel_rfl
set_option maxHeartbeats 400000 in
theorem times_fn (v n x : Nat) (hv : v < 65536 ^ n) (hn : n ≤ 20) (hx0 : 0 < x) (hx : x < 137438953472) : Fn Tryd.prog 40 [lst ((digs (v) (n)).map u64D), .v (u64V x)] (exD (fun M => n ≤ M ∧ v * x < 65536 ^ M ∧ (M = n ∨ 65536 ^ (M - 1) ≤ v * x)) (fun M => lst ((digs (v * x) (M)).map u64D))) := by
  have hsm : ∀ k, 0 < v * x / 65536 ^ (n + k) → k < 4 := fun k h => by
    rw [Nat.pow_add, ← Nat.div_div_eq_div_mul] at h
    have h1 : v * x / 65536 ^ n < x := by
      have := carry_lt v (65536 ^ n) (pow16 n) hx0
      rwa [Nat.mod_eq_of_lt hv] at this
    exact carry_small h1 hx h
  have hsm0 : v * x / 65536 ^ n < x := by
    have := carry_lt v (65536 ^ n) (pow16 n) hx0
    rwa [Nat.mod_eq_of_lt hv] at this
  refine Fn.of Tryd.func40 rfl (by kernel_rfl) Tryd.ntmps40 (by simp) (fun w => [(0, old w.heap.size (lst ((digs (v) (n)).map u64D))), (1, .v (u64V x))]) (fun w => (Start.old rfl (Start.v rfl Start.nil))) fun w₀ => ?_
  refine A.regs (by kernel_rfl) (by kernel_rfl) (.inl rfl) ?_
  refine RunTK.last ?_
  refine RunK.step rfl rfl (ok_assign rfl) ?_
  refine RunK.nil ?_
  refine A.sub (Sub.cons (t := 0) rfl (Sub.cons (t := 1) rfl Sub.nil)) ?_
  refine A.regs (by kernel_rfl) (by kernel_rfl) (.inl rfl) ?_
  refine RunTK.last ?_
  refine RunK.step rfl rfl (ok_assign rfl) ?_
  refine RunK.nil ?_
  refine A.sub (Sub.cons (t := 0) rfl (Sub.cons (t := 1) rfl (Sub.cons (t := 5) rfl Sub.nil))) ?_
  refine A.regs (by kernel_rfl) (by kernel_rfl) (.inl rfl) ?_
  refine RunTK.last ?_
  refine RunK.step rfl rfl (ok_assign rfl) ?_
  refine RunK.nil ?_
  refine A.sub (Sub.cons (t := 0) rfl (Sub.cons (t := 1) rfl (Sub.cons (t := 5) rfl (Sub.cons (t := 6) rfl Sub.nil)))) ?_
  refine A.seq ?_
  refine A.regs (by kernel_rfl) (by kernel_rfl) (.inl rfl) ?_
  refine RunTK.last ?_
  refine RunK.step rfl rfl (ok_assign rfl) ?_
  refine RunK.nil ?_
  refine A.sub (Sub.cons (t := 0) rfl (Sub.cons (t := 1) rfl (Sub.cons (t := 5) rfl (Sub.cons (t := 6) rfl (Sub.cons (t := 7) rfl Sub.nil))))) ?_
  refine A.block ?_
  refine A.subL (SubL.cons (t := 0) rfl (Le.refl _) (SubL.cons (t := 1) rfl (Le.refl _) (SubL.cons (t := 5) rfl (own_nil (B := w₀.heap.size) (e := 38)) (SubL.cons (t := 6) rfl (Le.refl _) (SubL.cons (t := 7) rfl (Le.refl _) SubL.nil))))) ?_
  refine A.loop (ι := Nat) (fun i => i ≤ n) (fun i => [(0, old w₀.heap.size (lst ((digs (v) (n)).map u64D))), (1, .v (u64V x)), (5, own w₀.heap.size 38 (i) ((digs (v * x) (i)).map u64V)), (6, .v (u64V (v % 65536 ^ i * x / 65536 ^ i))), (7, .v (.int .i64 ((i : Nat) : Int)))]) (fun i => n - i) 0 ?_ ?_ ?_
  · exact Nat.zero_le _
  · exact (Sub.cons (t := 0) rfl (Sub.cons (t := 1) rfl (Sub.cons (t := 5) rfl (Sub.eq (t := 6) _ rfl (by simp [Nat.mod_one]; rfl) (Sub.cons (t := 7) rfl Sub.nil)))))
  intro i hi
  refine A.seq ?_
  refine A.regs (by kernel_rfl) (by kernel_rfl) (.inl rfl) ?_
  refine RunTK.last ?_
  refine RunK.step rfl rfl (ok_move rfl) ?_
  refine RunK.step rfl rfl (ok_move rfl) ?_
  refine RunK.step rfl rfl (ok_len Tryd.underlying48 rfl (Le.old _ _)) ?_; refine RunK.as (.int .i64 ((n : Nat) : Int)) (by rw [List.length_map, digs_length]) ?_
  refine RunK.step rfl rfl (ok_bin rfl rfl rfl) ?_
  refine RunK.nil ?_
  refine A.sub (Sub.cons (t := 0) rfl (Sub.cons (t := 1) rfl (Sub.cons (t := 5) rfl (Sub.cons (t := 6) rfl (Sub.cons (t := 7) rfl (Sub.cons (t := 11) rfl Sub.nil)))))) ?_
  refine A.cond rfl (fun hc11 => ?_) (fun hc11 => ?_)
  · have hlt : i < n := by simp at hc11; omega
    have hcar := carry_lt v (65536 ^ i) (pow16 i) hx0
    have hdig : v / 65536 ^ i % 65536 < 65536 := Nat.mod_lt _ (by decide)
    have hmul : v / 65536 ^ i % 65536 * x ≤ 65535 * x := Nat.mul_le_mul_right _ (by omega)
    refine A.skip ?_
    refine End.normal_then (End.code ?_)
    refine A.seq ?_
    refine A.block ?_
    refine A.regs (by kernel_rfl) (by kernel_rfl) (.inl rfl) ?_
    refine RunTK.last ?_
    refine RunK.step rfl rfl (ok_move rfl) ?_
    refine RunK.step rfl rfl (ok_move rfl) ?_
    refine RunK.step rfl rfl (ok_move rfl) ?_
    refine RunK.step rfl rfl (ok_index (d := u64D (v / 65536 ^ i % 65536)) Tryd.underlying48 info38 rfl (Le.old _ _) rfl (by omega) (by rw [Int.toNat_natCast, List.getElem?_map, digs_get hlt]; rfl)) ?_
    refine RunK.step rfl rfl (ok_load Tryd.underlying38 rfl rfl) ?_
    refine RunK.step rfl rfl (ok_move rfl) ?_
    refine RunK.step rfl rfl (ok_bin rfl rfl rfl) ?_; refine RunK.as (u64V (v / 65536 ^ i % 65536 * x)) (by rw [← Int.natCast_mul, wrapN_u64 (by omega)]; rfl) ?_
    refine RunK.step rfl rfl (ok_bin rfl rfl rfl) ?_; refine RunK.as (u64V (v % 65536 ^ i * x / 65536 ^ i + v / 65536 ^ i % 65536 * x)) (by rw [← Int.natCast_add, wrapN_u64 (by omega)]; rfl) ?_
    refine RunK.step rfl rfl (ok_assign rfl) ?_
    refine RunK.nil ?_
    refine A.sub (Sub.cons (t := 0) rfl (Sub.cons (t := 1) rfl (Sub.cons (t := 5) rfl (Sub.cons (t := 6) rfl (Sub.cons (t := 7) rfl Sub.nil))))) ?_
    refine A.regs (by kernel_rfl) (by kernel_rfl) (.inl rfl) ?_
    refine RunTK.eff 4 (by decide) rfl (.inl rfl) ?_
    refine RunK.step rfl rfl (ok_move rfl) ?_
    refine RunK.step rfl rfl (ok_move rfl) ?_
    refine RunK.step rfl rfl (ok_rem rfl rfl (by decide)) ?_; refine RunK.as (u64V (v * x / 65536 ^ i % 65536)) (by rw [tmod_lit _ (by decide), times_digit v x _ (pow16 i)]; rfl) ?_
    refine RunK.step rfl rfl (ok_build [u64D (v * x / 65536 ^ i % 65536)] Tryd.underlying48 info38 rfl (by decide) (by decide) rfl ⟨rfl, rfl, trivial⟩ (fun d hd w x h => by simp only [List.mem_cons, List.not_mem_nil, or_false] at hd; rcases hd with rfl; exact v_one rfl h)) ?_
    refine RunK.nil ?_
    refine ⟨_, eff_appendS (vs := [u64V (v * x / 65536 ^ i % 65536)]) Tryd.underlying48 info38 (by decide) rfl rfl rfl (le_lst _ _) (by simp [u64V, Value.oneCell']) (by simp; omega) (by decide) (fun g hg => (LeftS.cons (t := 0) rfl (Surv.old (by omega)) (LeftS.cons (t := 1) rfl (Surv.v _) (LeftS.cons (t := 6) rfl (Surv.v _) (LeftS.cons (t := 7) rfl (Surv.v _) (LeftS.cons (t := 23) rfl (Surv.v _) (LeftS.cons (t := 24) rfl (Surv.v _) LeftS.nil))))))), ?_⟩
    refine RunTK.last ?_
    refine RunK.step rfl rfl (ok_assign rfl) ?_
    refine RunK.nil ?_
    refine A.sub (Sub.cons (t := 0) rfl (Sub.cons (t := 1) rfl (Sub.cons (t := 5) rfl (Sub.cons (t := 6) rfl (Sub.cons (t := 7) rfl Sub.nil))))) ?_
    refine A.reg (by kernel_rfl) (by kernel_rfl) (.inl rfl) ?_
    refine RunTK.last ?_
    refine RunK.step rfl rfl (ok_move rfl) ?_
    refine RunK.step rfl rfl (ok_div rfl rfl (by decide)) ?_; refine RunK.as (u64V (v % 65536 ^ (i + 1) * x / 65536 ^ (i + 1))) (by rw [tdiv_lit _ (by decide), wrapN_u64 (Nat.lt_of_le_of_lt (Nat.div_le_self _ _) (by omega)), Nat.pow_succ, ← times_carry v x _ (pow16 i)]; rfl) ?_
    refine RunK.step rfl rfl (ok_assign rfl) ?_
    refine RunK.nil ?_
    refine End.sub (Sub.cons (t := 0) rfl (Sub.cons (t := 1) rfl (Sub.cons (t := 5) rfl (Sub.cons (t := 6) rfl (Sub.cons (t := 7) rfl Sub.nil))))) ?_
    refine End.normal_block ?_
    refine End.normal_then (End.code ?_)
    refine A.reg (by kernel_rfl) (by kernel_rfl) (.inl rfl) ?_
    refine RunTK.last ?_
    refine RunK.step rfl rfl (ok_move rfl) ?_
    refine RunK.step rfl rfl (ok_bin rfl rfl rfl) ?_; refine RunK.as (.int .i64 ((i + 1 : Nat) : Int)) (by rw [wrap_i64 (by omega) (by omega)]; first | rfl | (congr 1; omega)) ?_
    refine RunK.step rfl rfl (ok_assign rfl) ?_
    refine RunK.nil ?_
    refine End.sub (Sub.cons (t := 0) rfl (Sub.cons (t := 1) rfl (Sub.cons (t := 5) rfl (Sub.cons (t := 6) rfl (Sub.cons (t := 7) rfl Sub.nil))))) ?_
    refine End.normal_then ?_
    refine End.again (i + 1) ?_ ?_ ?_
    · show _ ≤ _; omega
    · show _ - _ < _ - _; omega
    · exact (Sub.cons (t := 0) rfl (Sub.cons (t := 1) rfl (Sub.eq (t := 5) _ rfl (by rw [digs_snoc, List.map_append]; rfl) (Sub.cons (t := 6) rfl (Sub.cons (t := 7) rfl Sub.nil)))))
  · obtain rfl : n = i := by simp at hc11; omega
    refine A.exit ?_
    refine End.exit_then ?_
    refine End.exit_then ?_
    refine End.exit_here ?_
    refine End.normal_then (End.code ?_)
    refine A.seq ?_
    refine A.block ?_
    refine A.loop (ι := Nat) (fun k => k ≤ 4 ∧ (k = 0 ∨ 65536 ^ (n + k - 1) ≤ v * x)) (fun k => [(5, own w₀.heap.size 38 (n + k) ((digs (v * x) (n + k)).map u64V)), (6, .v (u64V (v * x / 65536 ^ (n + k))))]) (fun k => 4 - k) 0 ?_ ?_ ?_
    · exact ⟨by omega, .inl rfl⟩
    · exact (Sub.cons (t := 5) rfl (Sub.eq (t := 6) _ rfl (by rw [Nat.mod_eq_of_lt hv]; rfl) Sub.nil))
    intro k hk
    refine A.seq ?_
    refine A.regs (by kernel_rfl) (by kernel_rfl) (.inl rfl) ?_
    refine RunTK.last ?_
    refine RunK.step rfl rfl (ok_move rfl) ?_
    refine RunK.step rfl rfl (ok_bin rfl rfl rfl) ?_
    refine RunK.nil ?_
    refine A.sub (Sub.cons (t := 5) rfl (Sub.cons (t := 6) rfl (Sub.cons (t := 30) rfl Sub.nil))) ?_
    refine A.cond rfl (fun hc30 => ?_) (fun hc30 => ?_)
    · have hpos : 0 < v * x / 65536 ^ (n + k) := Int.natCast_pos.1 (of_decide_eq_true hc30)
      have hk4 := hsm k hpos
      have hle : v * x / 65536 ^ (n + k) < 137438953472 := by rw [Nat.pow_add, ← Nat.div_div_eq_div_mul]; exact Nat.lt_of_le_of_lt (Nat.div_le_self _ _) (by omega)
      have hge : 65536 ^ (n + k) ≤ v * x := by
        rcases Nat.lt_or_ge (v * x) (65536 ^ (n + k)) with h | h
        · rw [Nat.div_eq_of_lt h] at hpos; cases hpos
        · exact h
      refine A.skip ?_
      refine End.normal_then (End.code ?_)
      refine A.block ?_
      refine A.regs (by kernel_rfl) (by kernel_rfl) (.inl rfl) ?_
      refine RunTK.eff 4 (by decide) rfl (.inl rfl) ?_
      refine RunK.step rfl rfl (ok_move rfl) ?_
      refine RunK.step rfl rfl (ok_move rfl) ?_
      refine RunK.step rfl rfl (ok_rem rfl rfl (by decide)) ?_; refine RunK.as (u64V (v * x / 65536 ^ (n + k) % 65536)) (by rw [tmod_lit _ (by decide)]; rfl) ?_
      refine RunK.step rfl rfl (ok_build [u64D (v * x / 65536 ^ (n + k) % 65536)] Tryd.underlying48 info38 rfl (by decide) (by decide) rfl ⟨rfl, rfl, trivial⟩ (fun d hd w x h => by simp only [List.mem_cons, List.not_mem_nil, or_false] at hd; rcases hd with rfl; exact v_one rfl h)) ?_
      refine RunK.nil ?_
      refine ⟨_, eff_appendS (vs := [u64V (v * x / 65536 ^ (n + k) % 65536)]) Tryd.underlying48 info38 (by decide) rfl rfl rfl (le_lst _ _) (by simp [u64V, Value.oneCell']) (by simp; omega) (by decide) (fun g hg => (LeftS.cons (t := 6) rfl (Surv.v _) (LeftS.cons (t := 30) rfl (Surv.v _) (LeftS.cons (t := 32) rfl (Surv.v _) (LeftS.cons (t := 33) rfl (Surv.v _) LeftS.nil))))), ?_⟩
      refine RunTK.last ?_
      refine RunK.step rfl rfl (ok_assign rfl) ?_
      refine RunK.nil ?_
      refine A.sub (Sub.cons (t := 5) rfl (Sub.cons (t := 6) rfl Sub.nil)) ?_
      refine A.reg (by kernel_rfl) (by kernel_rfl) (.inl rfl) ?_
      refine RunTK.last ?_
      refine RunK.step rfl rfl (ok_move rfl) ?_
      refine RunK.step rfl rfl (ok_div rfl rfl (by decide)) ?_; refine RunK.as (u64V (v * x / 65536 ^ (n + (k + 1)))) (by rw [tdiv_lit _ (by decide), wrapN_u64 (Nat.lt_of_le_of_lt (Nat.div_le_self _ _) (by omega)), ← Nat.add_assoc, Nat.pow_succ, ← Nat.div_div_eq_div_mul]; rfl) ?_
      refine RunK.step rfl rfl (ok_assign rfl) ?_
      refine RunK.nil ?_
      refine End.sub (Sub.cons (t := 5) rfl (Sub.cons (t := 6) rfl Sub.nil)) ?_
      refine End.normal_block ?_
      refine End.normal_then ?_
      refine End.again (k + 1) ?_ ?_ ?_
      · exact ⟨by omega, .inr hge⟩
      · show _ - _ < _ - _; omega
      · exact (Sub.eq (t := 5) _ rfl (by rw [← Nat.add_assoc, digs_snoc, List.map_append]; rfl) (Sub.cons (t := 6) rfl Sub.nil))
    · have hzero : v * x / 65536 ^ (n + k) = 0 := Nat.eq_zero_of_not_pos fun h => of_decide_eq_false hc30 (Int.natCast_pos.2 h)
      have hend : v * x < 65536 ^ (n + k) := (Nat.div_eq_zero_iff_lt (pow16 _)).1 hzero
      refine A.exit ?_
      refine End.exit_then ?_
      refine End.exit_then ?_
      refine End.exit_here ?_
      refine End.normal_then (End.code ?_)
      refine A.regs (by kernel_rfl) (by kernel_rfl) (.inl rfl) ?_
      refine RunTK.last ?_
      refine RunK.step rfl rfl (ok_move rfl) ?_
      refine RunK.step rfl rfl (ok_assign rfl) ?_
      refine RunK.nil ?_
      refine A.sub (Sub.cons (t := 4) rfl Sub.nil) ?_
      refine A.ret ?_
      exact End.ret1 rfl rfl ((own_u64 (digs_length _ _).symm).trans (Le.ex (P := fun M => n ≤ M ∧ v * x < 65536 ^ M ∧ (M = n ∨ 65536 ^ (M - 1) ≤ v * x)) (d := fun M => lst ((digs (v * x) M).map u64D)) (n + k) ⟨by omega, hend, hk.2.imp (fun h => by rw [h]; rfl) id⟩))
end Go.Proofs.YtlnnhlgfomklcaaDoor
