/-
  The definition's package of layer 2, by facts: above, Root.
-/
import Derived.Test.YtlnnhlgfomklcaaDoorC02d
namespace Go.Proofs.YtlnnhlgfomklcaaDoor
open Go Go.RowKit
set_option linter.unusedVariables false

theorem pow_bound {x M k K : Nat} (hM : M = 1 ∨ 65536 ^ (M - 1) ≤ x) (hx : x < 65536 ^ K) (hK : 1 ≤ K) : M ≤ K := by
  rcases hM with h | h
  · omega
  · rcases Nat.lt_or_ge K M with h1 | h1
    · have h2 : 65536 ^ K ≤ 65536 ^ (M - 1) := Nat.pow_le_pow_right (by decide) (by omega)
      omega
    · exact h1
theorem pow_atleast {x M K : Nat} (hM : x < 65536 ^ M) (hx : 65536 ^ K ≤ x) : K < M := by
  rcases Nat.lt_or_ge K M with h | h
  · exact h
  · have h2 : 65536 ^ M ≤ 65536 ^ K := Nat.pow_le_pow_right (by decide) h
    omega
theorem pow37 {x i : Nat} (hx : x < 137438953472) (hi : i ≤ 3) : x ^ i < 65536 ^ 7 := by
  have h1 : x ^ i ≤ 137438953472 ^ i := Nat.pow_le_pow_left (Nat.le_of_lt hx) i
  have h2 : 137438953472 ^ i ≤ 137438953472 ^ 3 := Nat.pow_le_pow_right (by decide) hi
  have h3 : 137438953472 ^ 3 < 65536 ^ 7 := by decide
  omega
theorem root_width {x M power : Nat} (hx : 4294967296 ≤ x) (hx' : x < 137438953472) (hp : power = 2 ∨ power = 3) (h1 : x ^ power < 65536 ^ M) (h2 : M = 1 ∨ 65536 ^ (M - 1) ≤ x ^ power) : M = 2 * power + 1 := by
  have hlo : 4294967296 ^ power ≤ x ^ power := Nat.pow_le_pow_left hx power
  have hhi : x ^ power ≤ 137438953471 ^ power := Nat.pow_le_pow_left (by omega) power
  rcases hp with rfl | rfl
  · have a := pow_bound (k := 0) (K := 5) h2 (Nat.lt_of_le_of_lt hhi (by decide)) (by decide)
    have b := pow_atleast (K := 4) h1 (Nat.le_trans (by decide) hlo)
    omega
  · have a := pow_bound (k := 0) (K := 7) h2 (Nat.lt_of_le_of_lt hhi (by decide)) (by decide)
    have b := pow_atleast (K := 6) h1 (Nat.le_trans (by decide) hlo)
    omega

set_option maxHeartbeats 400000 in
theorem above_fn (x p power : Nat) (hx : 4294967296 ≤ x) (hx' : x < 137438953472) (hp : p < 65536) (hpow : power = 2 ∨ power = 3) : Fn Tryd.prog 32 [.v (u64V x), .v (u64V p), .v (.int .i64 ((power : Nat) : Int))] (.v (.bool (decide (p * 65536 ^ (2 * power) < x ^ power)))) := by
  have hpw : power ≤ 3 := by omega
  have hpw2 : 2 ≤ power := by omega
  refine Fn.of Tryd.func32 rfl (by kernel_rfl) Tryd.ntmps32 (by simp) (fun w => [(0, .v (u64V x)), (1, .v (u64V p)), (2, .v (.int .i64 ((power : Nat) : Int)))]) (fun w => (Start.v rfl (Start.v rfl (Start.v rfl Start.nil)))) fun w₀ => ?_
  refine A.regs (by kernel_rfl) (by kernel_rfl) (.inl rfl) ?_
  refine RunTK.last ?_
  refine RunK.step rfl rfl (ok_assign rfl) ?_
  refine RunK.nil ?_
  refine A.sub (Sub.cons (t := 0) rfl (Sub.cons (t := 1) rfl (Sub.cons (t := 2) rfl Sub.nil))) ?_
  refine A.regs (by kernel_rfl) (by kernel_rfl) (.inl rfl) ?_
  refine RunTK.last ?_
  refine RunK.step rfl rfl (ok_build [u64D (1)] Tryd.underlying48 info38 rfl (by decide) (by decide) rfl ⟨rfl, rfl, trivial⟩ (fun d hd w x h => by simp only [List.mem_cons, List.not_mem_nil, or_false] at hd; rcases hd with rfl; exact v_one rfl h)) ?_
  refine RunK.step rfl rfl (ok_assign rfl) ?_
  refine RunK.nil ?_
  refine A.sub (Sub.cons (t := 0) rfl (Sub.cons (t := 1) rfl (Sub.cons (t := 2) rfl (Sub.cons (t := 7) rfl Sub.nil)))) ?_
  refine A.seq ?_
  refine A.regs (by kernel_rfl) (by kernel_rfl) (.inl rfl) ?_
  refine RunTK.last ?_
  refine RunK.step rfl rfl (ok_assign rfl) ?_
  refine RunK.nil ?_
  refine A.sub (Sub.cons (t := 0) rfl (Sub.cons (t := 1) rfl (Sub.cons (t := 2) rfl (Sub.cons (t := 7) rfl (Sub.cons (t := 8) rfl Sub.nil))))) ?_
  refine A.block ?_
  refine A.subL (SubL.cons (t := 0) rfl (Le.refl _) (SubL.cons (t := 1) rfl (Le.refl _) (SubL.cons (t := 2) rfl (Le.refl _) (SubL.cons (t := 7) rfl ((le_lst _ _).trans ((Le.eq (by simp [digs])).trans (Le.ex (P := (fun M => 1 ≤ M ∧ x ^ (0) < 65536 ^ M ∧ (M = 1 ∨ 65536 ^ (M - 1) ≤ x ^ (0)))) (d := (fun M => lst ((digs (x ^ (0)) M).map u64D))) 1 ⟨by omega, by simp, .inl rfl⟩))) (SubL.cons (t := 8) rfl (Le.refl _) SubL.nil))))) ?_
  refine A.loop (ι := Nat) (fun i => i ≤ power) (fun i => [(0, .v (u64V x)), (1, .v (u64V p)), (2, .v (.int .i64 ((power : Nat) : Int))), (7, exD (fun M => 1 ≤ M ∧ x ^ (i) < 65536 ^ M ∧ (M = 1 ∨ 65536 ^ (M - 1) ≤ x ^ (i))) (fun M => lst ((digs (x ^ (i)) M).map u64D))), (8, .v (.int .i64 ((i : Nat) : Int)))]) (fun i => power - i) 0 ?_ ?_ ?_
  · exact Nat.zero_le _
  · exact (Sub.cons (t := 0) rfl (Sub.cons (t := 1) rfl (Sub.cons (t := 2) rfl (Sub.cons (t := 7) rfl (Sub.cons (t := 8) rfl Sub.nil)))))
  intro i hi
  refine A.seq ?_
  refine A.regs (by kernel_rfl) (by kernel_rfl) (.inl rfl) ?_
  refine RunTK.last ?_
  refine RunK.step rfl rfl (ok_move rfl) ?_
  refine RunK.step rfl rfl (ok_move rfl) ?_
  refine RunK.step rfl rfl (ok_bin rfl rfl rfl) ?_
  refine RunK.nil ?_
  refine A.sub (Sub.cons (t := 0) rfl (Sub.cons (t := 1) rfl (Sub.cons (t := 2) rfl (Sub.cons (t := 7) rfl (Sub.cons (t := 8) rfl (Sub.cons (t := 15) rfl Sub.nil)))))) ?_
  refine A.cond rfl (fun hc15 => ?_) (fun hc15 => ?_)
  · have hlt : i < power := by simp at hc15; omega
    refine A.exOpen (t := 7) rfl fun M hM => ?_
    refine A.skip ?_
    refine End.normal_then (End.code ?_)
    refine A.seq ?_
    refine A.block ?_
    refine A.reg (by kernel_rfl) (by kernel_rfl) (.inl rfl) ?_
    refine RunTK.last ?_
    refine RunK.step rfl rfl (ok_move rfl) ?_
    refine RunK.step rfl rfl (ok_move rfl) ?_
    refine RunK.step rfl rfl (ok_call ((times_fn (x ^ i) M x hM.2.1 (Nat.le_trans (pow_bound (k := 0) hM.2.2 (pow37 hx' (by omega)) (by decide)) (by decide)) (by omega) hx').le (d' := exD (fun M => 1 ≤ M ∧ x ^ (i + 1) < 65536 ^ M ∧ (M = 1 ∨ 65536 ^ (M - 1) ≤ x ^ (i + 1))) (fun M => lst ((digs (x ^ (i + 1)) M).map u64D))) (Le.exs (d := (fun M => lst ((digs (x ^ (i + 1)) M).map u64D))) fun M' h' => ⟨by omega, h'.2.1, canon_next (by omega) hM.2.2 h'.2.2⟩)) (Args.cons rfl (Le.refl _) (Args.cons rfl (Le.refl _) Args.nil))) ?_
    refine RunK.step rfl rfl (ok_assign rfl) ?_
    refine RunK.nil ?_
    refine End.sub (Sub.cons (t := 0) rfl (Sub.cons (t := 1) rfl (Sub.cons (t := 2) rfl (Sub.cons (t := 7) rfl (Sub.cons (t := 8) rfl Sub.nil))))) ?_
    refine End.normal_block ?_
    refine End.normal_then (End.code ?_)
    refine A.reg (by kernel_rfl) (by kernel_rfl) (.inl rfl) ?_
    refine RunTK.last ?_
    refine RunK.step rfl rfl (ok_move rfl) ?_
    refine RunK.step rfl rfl (ok_bin rfl rfl rfl) ?_; refine RunK.as (.int .i64 ((i + 1 : Nat) : Int)) (by rw [wrap_i64 (by omega) (by omega)]; first | rfl | (congr 1; omega)) ?_
    refine RunK.step rfl rfl (ok_assign rfl) ?_
    refine RunK.nil ?_
    refine End.sub (Sub.cons (t := 0) rfl (Sub.cons (t := 1) rfl (Sub.cons (t := 2) rfl (Sub.cons (t := 7) rfl (Sub.cons (t := 8) rfl Sub.nil))))) ?_
    refine End.normal_then ?_
    refine End.again (i + 1) ?_ ?_ ?_
    · show _ ≤ _; omega
    · show _ - _ < _ - _; omega
    · exact (Sub.cons (t := 0) rfl (Sub.cons (t := 1) rfl (Sub.cons (t := 2) rfl (Sub.cons (t := 7) rfl (Sub.cons (t := 8) rfl Sub.nil)))))
  · obtain rfl : power = i := by simp at hc15; omega
    refine A.exOpen (t := 7) rfl fun M hM => ?_
    obtain rfl := root_width hx hx' hpow hM.2.1 hM.2.2
    refine A.exit ?_
    refine End.exit_then ?_
    refine End.exit_then ?_
    refine End.exit_here ?_
    refine End.normal_then (End.code ?_)
    refine A.regs (by kernel_rfl) (by kernel_rfl) (.inl rfl) ?_
    refine RunTK.last ?_
    refine RunK.step rfl rfl (ok_move rfl) ?_
    refine RunK.step rfl rfl (ok_build [u64D (p)] Tryd.underlying48 info38 rfl (by decide) (by decide) rfl ⟨rfl, rfl, trivial⟩ (fun d hd w x h => by simp only [List.mem_cons, List.not_mem_nil, or_false] at hd; rcases hd with rfl; exact v_one rfl h)) ?_
    refine RunK.step rfl rfl (ok_assign rfl) ?_
    refine RunK.nil ?_
    refine A.sub (Sub.cons (t := 2) rfl (Sub.cons (t := 7) rfl (Sub.cons (t := 9) rfl Sub.nil))) ?_
    refine A.seq ?_
    refine A.regs (by kernel_rfl) (by kernel_rfl) (.inl rfl) ?_
    refine RunTK.last ?_
    refine RunK.step rfl rfl (ok_assign rfl) ?_
    refine RunK.nil ?_
    refine A.sub (Sub.cons (t := 2) rfl (Sub.cons (t := 7) rfl (Sub.cons (t := 9) rfl (Sub.cons (t := 10) rfl Sub.nil)))) ?_
    refine A.block ?_
    refine A.subL (SubL.cons (t := 2) rfl (Le.refl _) (SubL.cons (t := 7) rfl (Le.refl _) (SubL.cons (t := 9) rfl ((le_lst _ _).trans (Le.eq (e := lst ((digs (p * 65536 ^ 0) (0 + 1)).map u64D)) (by simp [digs, Nat.mod_eq_of_lt hp]))) (SubL.cons (t := 10) rfl (Le.refl _) SubL.nil)))) ?_
    refine A.loop (ι := Nat) (fun i => i ≤ 2 * power) (fun i => [(2, .v (.int .i64 ((power : Nat) : Int))), (7, lst ((digs (x ^ power) (2 * power + 1)).map u64D)), (9, lst ((digs (p * 65536 ^ i) (i + 1)).map u64D)), (10, .v (.int .i64 ((i : Nat) : Int)))]) (fun i => 2 * power - i) 0 ?_ ?_ ?_
    · exact Nat.zero_le _
    · exact (Sub.cons (t := 2) rfl (Sub.cons (t := 7) rfl (Sub.cons (t := 9) rfl (Sub.cons (t := 10) rfl Sub.nil))))
    intro i hi
    refine A.seq ?_
    refine A.regs (by kernel_rfl) (by kernel_rfl) (.inl rfl) ?_
    refine RunTK.last ?_
    refine RunK.step rfl rfl (ok_move rfl) ?_
    refine RunK.step rfl rfl (ok_move rfl) ?_
    refine RunK.step rfl rfl (ok_bin rfl rfl rfl) ?_; refine RunK.as (.int .i64 ((2 * power : Nat) : Int)) (by rw [wrap_i64 (by omega) (by omega)]; first | rfl | (congr 1; omega)) ?_
    refine RunK.step rfl rfl (ok_bin rfl rfl rfl) ?_
    refine RunK.nil ?_
    refine A.sub (Sub.cons (t := 2) rfl (Sub.cons (t := 7) rfl (Sub.cons (t := 9) rfl (Sub.cons (t := 10) rfl (Sub.cons (t := 26) rfl Sub.nil))))) ?_
    refine A.cond rfl (fun hc26 => ?_) (fun hc26 => ?_)
    · have hlt : i < 2 * power := by simp at hc26; omega
      refine A.skip ?_
      refine End.normal_then (End.code ?_)
      refine A.seq ?_
      refine A.block ?_
      refine A.reg (by kernel_rfl) (by kernel_rfl) (.inl rfl) ?_
      refine RunTK.last ?_
      refine RunK.step rfl rfl (ok_build [u64D (0)] Tryd.underlying48 info38 rfl (by decide) (by decide) rfl ⟨rfl, rfl, trivial⟩ (fun d hd w x h => by simp only [List.mem_cons, List.not_mem_nil, or_false] at hd; rcases hd with rfl; exact v_one rfl h)) ?_
      refine RunK.step rfl rfl (ok_move rfl) ?_
      refine RunK.step rfl rfl ((ok_append_new (os := [u64V 0]) (vs := (digs (p * 65536 ^ i) (i + 1)).map u64V) Tryd.underlying48 info38 (by decide) rfl rfl (Le.refl _) rfl (Le.eq (u64_vals _)) (by simp [digs, List.range_succ]) (u64_ones _) (by simp [digs_length]; omega)).le (d' := lst ((digs (p * 65536 ^ (i + 1)) (i + 1 + 1)).map u64D)) (own_le (by simp; omega) |>.trans (Le.eq (by rw [Nat.pow_succ, ← Nat.mul_assoc, digs_zero, List.map_cons, List.map_append, List.map_map]; rfl)))) ?_
      refine RunK.step rfl rfl (ok_assign rfl) ?_
      refine RunK.nil ?_
      refine End.sub (Sub.cons (t := 2) rfl (Sub.cons (t := 7) rfl (Sub.cons (t := 9) rfl (Sub.cons (t := 10) rfl Sub.nil)))) ?_
      refine End.normal_block ?_
      refine End.normal_then (End.code ?_)
      refine A.reg (by kernel_rfl) (by kernel_rfl) (.inl rfl) ?_
      refine RunTK.last ?_
      refine RunK.step rfl rfl (ok_move rfl) ?_
      refine RunK.step rfl rfl (ok_bin rfl rfl rfl) ?_; refine RunK.as (.int .i64 ((i + 1 : Nat) : Int)) (by rw [wrap_i64 (by omega) (by omega)]; first | rfl | (congr 1; omega)) ?_
      refine RunK.step rfl rfl (ok_assign rfl) ?_
      refine RunK.nil ?_
      refine End.sub (Sub.cons (t := 2) rfl (Sub.cons (t := 7) rfl (Sub.cons (t := 9) rfl (Sub.cons (t := 10) rfl Sub.nil)))) ?_
      refine End.normal_then ?_
      refine End.again (i + 1) ?_ ?_ ?_
      · show _ ≤ _; omega
      · show _ - _ < _ - _; omega
      · exact (Sub.cons (t := 2) rfl (Sub.cons (t := 7) rfl (Sub.cons (t := 9) rfl (Sub.cons (t := 10) rfl Sub.nil))))
    · obtain rfl : i = 2 * power := by simp at hc26; omega
      refine A.exit ?_
      refine End.exit_then ?_
      refine End.exit_then ?_
      refine End.exit_here ?_
      refine End.normal_then (End.code ?_)
      refine A.seq ?_
      refine A.block ?_
      refine A.loop (ι := Unit) (fun _ => True) (fun _ => [(7, lst ((digs (x ^ power) (2 * power + 1)).map u64D)), (9, lst ((digs (p * 65536 ^ (2 * power)) (2 * power + 1)).map u64D))]) (fun _ => 0) () ?_ ?_ ?_
      · trivial
      · exact (Sub.cons (t := 7) rfl (Sub.cons (t := 9) rfl Sub.nil))
      intro _ _
      refine A.seq ?_
      refine A.regs (by kernel_rfl) (by kernel_rfl) (.inl rfl) ?_
      refine RunTK.last ?_
      refine RunK.step rfl rfl (ok_move rfl) ?_
      refine RunK.step rfl rfl (ok_len Tryd.underlying48 rfl (Le.refl _)) ?_; refine RunK.as (.int .i64 ((2 * power + 1 : Nat) : Int)) (by rw [List.length_map, digs_length]) ?_
      refine RunK.step rfl rfl (ok_move rfl) ?_
      refine RunK.step rfl rfl (ok_len Tryd.underlying48 rfl (Le.refl _)) ?_; refine RunK.as (.int .i64 ((2 * power + 1 : Nat) : Int)) (by rw [List.length_map, digs_length]) ?_
      refine RunK.step rfl rfl (ok_bin rfl rfl rfl) ?_; refine RunK.as (.bool false) (by simp) ?_
      refine RunK.nil ?_
      refine A.sub (Sub.cons (t := 7) rfl (Sub.cons (t := 9) rfl (Sub.cons (t := 36) rfl Sub.nil))) ?_
      refine A.no rfl ?_
      refine A.exit ?_
      refine End.exit_then ?_
      refine End.exit_then ?_
      refine End.exit_here ?_
      refine End.normal_then (End.code ?_)
      refine A.seq ?_
      refine A.block ?_
      refine A.loop (ι := Unit) (fun _ => True) (fun _ => [(7, lst ((digs (x ^ power) (2 * power + 1)).map u64D)), (9, lst ((digs (p * 65536 ^ (2 * power)) (2 * power + 1)).map u64D))]) (fun _ => 0) () ?_ ?_ ?_
      · trivial
      · exact (Sub.cons (t := 7) rfl (Sub.cons (t := 9) rfl Sub.nil))
      intro _ _
      refine A.seq ?_
      refine A.regs (by kernel_rfl) (by kernel_rfl) (.inl rfl) ?_
      refine RunTK.last ?_
      refine RunK.step rfl rfl (ok_move rfl) ?_
      refine RunK.step rfl rfl (ok_len Tryd.underlying48 rfl (Le.refl _)) ?_; refine RunK.as (.int .i64 ((2 * power + 1 : Nat) : Int)) (by rw [List.length_map, digs_length]) ?_
      refine RunK.step rfl rfl (ok_move rfl) ?_
      refine RunK.step rfl rfl (ok_len Tryd.underlying48 rfl (Le.refl _)) ?_; refine RunK.as (.int .i64 ((2 * power + 1 : Nat) : Int)) (by rw [List.length_map, digs_length]) ?_
      refine RunK.step rfl rfl (ok_bin rfl rfl rfl) ?_; refine RunK.as (.bool false) (by simp) ?_
      refine RunK.nil ?_
      refine A.sub (Sub.cons (t := 7) rfl (Sub.cons (t := 9) rfl (Sub.cons (t := 44) rfl Sub.nil))) ?_
      refine A.no rfl ?_
      refine A.exit ?_
      refine End.exit_then ?_
      refine End.exit_then ?_
      refine End.exit_here ?_
      refine End.normal_then (End.code ?_)
      refine A.seq ?_
      refine A.regs (by kernel_rfl) (by kernel_rfl) (.inl rfl) ?_
      refine RunTK.last ?_
      refine RunK.step rfl rfl (ok_move rfl) ?_
      refine RunK.step rfl rfl (ok_len Tryd.underlying48 rfl (Le.refl _)) ?_; refine RunK.as (.int .i64 ((2 * power + 1 : Nat) : Int)) (by rw [List.length_map, digs_length]) ?_
      refine RunK.step rfl rfl (ok_bin rfl rfl rfl) ?_; refine RunK.as (.int .i64 (((2 * power + 1 : Nat) : Int) - 1)) (by rw [wrap_i64 (by omega) (by omega)]) ?_
      refine RunK.step rfl rfl (ok_assign rfl) ?_
      refine RunK.nil ?_
      refine A.sub (Sub.cons (t := 7) rfl (Sub.cons (t := 9) rfl (Sub.cons (t := 11) rfl Sub.nil))) ?_
      refine A.block ?_
      refine A.loop (ι := Nat) (fun k => k ≤ 2 * power + 1 ∧ x ^ power / 65536 ^ k = p * 65536 ^ (2 * power) / 65536 ^ k) (fun k => [(7, lst ((digs (x ^ power) (2 * power + 1)).map u64D)), (9, lst ((digs (p * 65536 ^ (2 * power)) (2 * power + 1)).map u64D)), (11, .v (.int .i64 ((k : Int) - 1)))]) (fun k => k) (2 * power + 1) ?_ ?_ ?_
      · exact ⟨Nat.le_refl _, by rw [Nat.div_eq_of_lt hM.2.1, Nat.div_eq_of_lt (by rw [Nat.pow_succ, Nat.mul_comm]; exact Nat.mul_lt_mul_of_pos_left hp (pow16 _))]⟩
      · exact (Sub.cons (t := 7) rfl (Sub.cons (t := 9) rfl (Sub.cons (t := 11) rfl Sub.nil)))
      intro k hk
      refine A.seq ?_
      refine A.regs (by kernel_rfl) (by kernel_rfl) (.inl rfl) ?_
      refine RunTK.last ?_
      refine RunK.step rfl rfl (ok_move rfl) ?_
      refine RunK.step rfl rfl (ok_bin rfl rfl rfl) ?_
      refine RunK.nil ?_
      refine A.sub (Sub.cons (t := 7) rfl (Sub.cons (t := 9) rfl (Sub.cons (t := 11) rfl (Sub.cons (t := 52) rfl Sub.nil)))) ?_
      refine A.cond rfl (fun hc52 => ?_) (fun hc52 => ?_)
      · obtain ⟨m, rfl⟩ : ∃ m, k = m + 1 := ⟨k - 1, by simp at hc52; omega⟩
        refine A.skip ?_
        refine End.normal_then (End.code ?_)
        refine A.seq ?_
        refine A.block ?_
        refine A.regs (by kernel_rfl) (by kernel_rfl) (.inr (by kernel_rfl)) ?_
        refine RunTK.last ?_
        refine RunK.step rfl rfl (ok_move rfl) ?_
        refine RunK.step rfl rfl (ok_move rfl) ?_
        refine RunK.step rfl rfl (ok_index (d := u64D (x ^ power / 65536 ^ m % 65536)) Tryd.underlying48 info38 rfl (Le.refl _) rfl (by omega) (by rw [show (((m + 1 : Nat) : Int) - 1).toNat = m from by omega, List.getElem?_map, digs_get (by omega)]; rfl)) ?_
        refine RunK.step rfl rfl (ok_load Tryd.underlying38 rfl rfl) ?_
        refine RunK.step rfl rfl (ok_move rfl) ?_
        refine RunK.step rfl rfl (ok_move rfl) ?_
        refine RunK.step rfl rfl (ok_index (d := u64D (p * 65536 ^ (2 * power) / 65536 ^ m % 65536)) Tryd.underlying48 info38 rfl (Le.refl _) rfl (by omega) (by rw [show (((m + 1 : Nat) : Int) - 1).toNat = m from by omega, List.getElem?_map, digs_get (by omega)]; rfl)) ?_
        refine RunK.step rfl rfl (ok_load Tryd.underlying38 rfl rfl) ?_
        refine RunK.step rfl rfl (ok_bin rfl rfl rfl) ?_
        refine RunK.nil ?_
        refine A.sub (Sub.cons (t := 7) rfl (Sub.cons (t := 9) rfl (Sub.cons (t := 11) rfl (Sub.cons (t := 63) rfl Sub.nil)))) ?_
        refine A.cond rfl (fun hc63 => ?_) (fun hc63 => ?_)
        · have hne : x ^ power / 65536 ^ m % 65536 ≠ p * 65536 ^ (2 * power) / 65536 ^ m % 65536 := fun h => by rw [h] at hc63; simp at hc63
          refine A.regs (by kernel_rfl) (by kernel_rfl) (.inr (by kernel_rfl)) ?_
          refine RunTK.last ?_
          refine RunK.step rfl rfl (ok_move rfl) ?_
          refine RunK.step rfl rfl (ok_move rfl) ?_
          refine RunK.step rfl rfl (ok_index (d := u64D (x ^ power / 65536 ^ m % 65536)) Tryd.underlying48 info38 rfl (Le.refl _) rfl (by omega) (by rw [show (((m + 1 : Nat) : Int) - 1).toNat = m from by omega, List.getElem?_map, digs_get (by omega)]; rfl)) ?_
          refine RunK.step rfl rfl (ok_load Tryd.underlying38 rfl rfl) ?_
          refine RunK.step rfl rfl (ok_move rfl) ?_
          refine RunK.step rfl rfl (ok_move rfl) ?_
          refine RunK.step rfl rfl (ok_index (d := u64D (p * 65536 ^ (2 * power) / 65536 ^ m % 65536)) Tryd.underlying48 info38 rfl (Le.refl _) rfl (by omega) (by rw [show (((m + 1 : Nat) : Int) - 1).toNat = m from by omega, List.getElem?_map, digs_get (by omega)]; rfl)) ?_
          refine RunK.step rfl rfl (ok_load Tryd.underlying38 rfl rfl) ?_
          refine RunK.step rfl rfl (ok_bin rfl rfl rfl) ?_; refine RunK.as (.bool (decide (p * 65536 ^ (2 * power) < x ^ power))) (by rw [← digit_order hk.2 hne]; congr 1; exact decide_eq_decide.2 Int.ofNat_lt) ?_
          refine RunK.step rfl rfl (ok_assign rfl) ?_
          refine RunK.nil ?_
          refine A.sub (Sub.cons (t := 6) rfl Sub.nil) ?_
          refine A.ret ?_
          refine End.ret_block ?_
          refine End.ret_then ?_
          refine End.ret_then ?_
          refine End.ret_block ?_
          refine End.ret_then ?_
          first | exact End.ret1 rfl rfl (Le.refl _) | exact End.ret1 rfl rfl (Le.v (by rw [heq]; simp))
        · have hsame : x ^ power / 65536 ^ m % 65536 = p * 65536 ^ (2 * power) / 65536 ^ m % 65536 := Int.natCast_inj.1 (bne_eq_false_iff_eq.1 hc63)
          refine A.skip ?_
          refine End.normal_block ?_
          refine End.normal_then (End.code ?_)
          refine A.reg (by kernel_rfl) (by kernel_rfl) (.inl rfl) ?_
          refine RunTK.last ?_
          refine RunK.step rfl rfl (ok_move rfl) ?_
          refine RunK.step rfl rfl (ok_bin rfl rfl rfl) ?_; refine RunK.as (.int .i64 ((m : Int) - 1)) (by rw [wrap_i64 (by omega) (by omega)]; congr 1; omega) ?_
          refine RunK.step rfl rfl (ok_assign rfl) ?_
          refine RunK.nil ?_
          refine End.sub (Sub.cons (t := 7) rfl (Sub.cons (t := 9) rfl (Sub.cons (t := 11) rfl Sub.nil))) ?_
          refine End.normal_then ?_
          refine End.again m ?_ ?_ ?_
          · exact ⟨by omega, digit_same hk.2 hsame⟩
          · show m < m + 1; omega
          · exact (Sub.cons (t := 7) rfl (Sub.cons (t := 9) rfl (Sub.cons (t := 11) rfl Sub.nil)))
      · have heq : x ^ power = p * 65536 ^ (2 * power) := by
          have h0 : k = 0 := by simp at hc52; omega
          subst h0
          simpa using hk.2
        refine A.exit ?_
        refine End.exit_then ?_
        refine End.exit_then ?_
        refine End.exit_here ?_
        refine End.normal_then (End.code ?_)
        refine A.regs (by kernel_rfl) (by kernel_rfl) (.inl rfl) ?_
        refine RunTK.last ?_
        refine RunK.step rfl rfl (ok_assign rfl) ?_
        refine RunK.nil ?_
        refine A.sub (Sub.cons (t := 6) rfl Sub.nil) ?_
        refine A.ret ?_
        first | exact End.ret1 rfl rfl (Le.refl _) | exact End.ret1 rfl rfl (Le.v (by rw [heq]; simp))
theorem pow32 (power : Nat) : 65536 ^ (2 * power) = 2 ^ (32 * power) := by
  rw [show (65536 : Nat) = 2 ^ 16 from rfl, ← Nat.pow_mul]; congr 1; omega
theorem root_first {p power : Nat} (hp : 0 < p) : ¬ p * 2 ^ (32 * power) < (0 + 2 ^ 32) ^ power := by
  rw [Nat.zero_add, ← Nat.pow_mul]
  exact Nat.not_lt.2 (Nat.le_mul_of_pos_left _ hp)
set_option maxHeartbeats 400000 in
theorem Root_fn (p power : Nat) (hp0 : 0 < p) (hp : p < 65536) (hpow : power = 2 ∨ power = 3) : Fn Tryd.prog 19 [.v (u64V p), .v (.int .i64 ((power : Nat) : Int))] (.v (u32V (rootF p power))) := by
  refine Fn.of Tryd.func19 rfl (by kernel_rfl) Tryd.ntmps19 (by simp) (fun w => [(0, .v (u64V p)), (1, .v (.int .i64 ((power : Nat) : Int)))]) (fun w => (Start.v rfl (Start.v rfl Start.nil))) fun w₀ => ?_
  refine A.regs (by kernel_rfl) (by kernel_rfl) (.inl rfl) ?_
  refine RunTK.last ?_
  refine RunK.step rfl rfl (ok_assign rfl) ?_
  refine RunK.nil ?_
  refine A.sub (Sub.cons (t := 0) rfl (Sub.cons (t := 1) rfl Sub.nil)) ?_
  refine A.regs (by kernel_rfl) (by kernel_rfl) (.inl rfl) ?_
  refine RunTK.last ?_
  refine RunK.step rfl rfl (ok_assign rfl) ?_
  refine RunK.nil ?_
  refine A.sub (Sub.cons (t := 0) rfl (Sub.cons (t := 1) rfl (Sub.cons (t := 5) rfl Sub.nil))) ?_
  refine A.seq ?_
  refine A.regs (by kernel_rfl) (by kernel_rfl) (.inl rfl) ?_
  refine RunTK.last ?_
  refine RunK.step rfl rfl (ok_assign rfl) ?_
  refine RunK.nil ?_
  refine A.sub (Sub.cons (t := 0) rfl (Sub.cons (t := 1) rfl (Sub.cons (t := 5) rfl (Sub.cons (t := 6) rfl Sub.nil)))) ?_
  refine A.block ?_
  refine A.loop (ι := Nat × Nat) (fun ⟨k, x⟩ => k ≤ 37 ∧ rootFrom p power k x = rootFrom p power 37 0 ∧ x + 2 ^ k ≤ 137438953472 ∧ ((x = 0 ∧ 33 ≤ k) ∨ 4294967296 ≤ x)) (fun ⟨k, x⟩ => [(0, .v (u64V p)), (1, .v (.int .i64 ((power : Nat) : Int))), (5, .v (u64V x)), (6, .v (u64V (2 ^ k / 2)))]) (fun ⟨k, x⟩ => k) (37, 0) ?_ ?_ ?_
  · exact ⟨by decide, rfl, by decide, .inl ⟨rfl, by decide⟩⟩
  · exact (Sub.cons (t := 0) rfl (Sub.cons (t := 1) rfl (Sub.cons (t := 5) rfl (Sub.cons (t := 6) rfl Sub.nil))))
  intro ⟨k, x⟩ ⟨hk37, hroot, hsum, hor⟩
  refine A.seq ?_
  refine A.regs (by kernel_rfl) (by kernel_rfl) (.inl rfl) ?_
  refine RunTK.last ?_
  refine RunK.step rfl rfl (ok_move rfl) ?_
  refine RunK.step rfl rfl (ok_bin rfl rfl rfl) ?_
  refine RunK.nil ?_
  refine A.sub (Sub.cons (t := 0) rfl (Sub.cons (t := 1) rfl (Sub.cons (t := 5) rfl (Sub.cons (t := 6) rfl (Sub.cons (t := 8) rfl Sub.nil))))) ?_
  refine A.cond rfl (fun hc8 => ?_) (fun hc8 => ?_)
  · obtain ⟨m, rfl⟩ : ∃ m, k = m + 1 := ⟨k - 1, by
      rcases Nat.eq_zero_or_pos k with h | h
      · subst h; exact absurd hc8 (by decide)
      · omega⟩
    have hbit : 2 ^ (m + 1) / 2 = 2 ^ m := by rw [Nat.pow_succ, Nat.mul_div_cancel _ (by decide)]
    have hps : 2 ^ (m + 1) = 2 ^ m * 2 := Nat.pow_succ _ _
    have hmp : 0 < 2 ^ m := Nat.pow_pos (by decide)
    have hge : 4294967296 ≤ x + 2 ^ m := by
      rcases hor with ⟨_, h⟩ | h
      · have := Nat.pow_le_pow_right (n := 2) (by decide) (show 32 ≤ m by omega); omega
      · omega
    refine A.skip ?_
    refine End.normal_then (End.code ?_)
    refine A.seq ?_
    refine A.block ?_
    refine A.regs (by kernel_rfl) (by kernel_rfl) (.inl rfl) ?_
    refine RunTK.last ?_
    refine RunK.step rfl rfl (ok_move rfl) ?_
    refine RunK.step rfl rfl (ok_move rfl) ?_
    refine RunK.step rfl rfl (ok_bin rfl rfl rfl) ?_; refine RunK.as (u64V (x + 2 ^ m)) (by rw [hbit, ← Int.natCast_add, wrapN_u64 (by omega)]; rfl) ?_
    refine RunK.step rfl rfl (ok_move rfl) ?_
    refine RunK.step rfl rfl (ok_move rfl) ?_
    refine RunK.step rfl rfl (ok_call (above_fn (x + 2 ^ m) p power (by omega) (by omega) hp hpow) (Args.cons rfl (Le.refl _) (Args.cons rfl (Le.refl _) (Args.cons rfl (Le.refl _) Args.nil)))) ?_; refine RunK.as (.bool (decide (p * 2 ^ (32 * power) < (x + 2 ^ m) ^ power))) (by rw [pow32]) ?_
    refine RunK.step rfl rfl (ok_not rfl) ?_
    refine RunK.nil ?_
    refine A.sub (Sub.cons (t := 0) rfl (Sub.cons (t := 1) rfl (Sub.cons (t := 5) rfl (Sub.cons (t := 6) rfl (Sub.cons (t := 17) rfl Sub.nil))))) ?_
    refine A.cond rfl (fun hc17 => ?_) (fun hc17 => ?_)
    · have hacc : ¬ p * 2 ^ (32 * power) < (x + 2 ^ m) ^ power := by simpa using hc17
      have hxx : (if p * 2 ^ (32 * power) < (x + 2 ^ m) ^ power then x else x + 2 ^ m) = x + 2 ^ m := if_neg hacc
      have hb1 : (if p * 2 ^ (32 * power) < (x + 2 ^ m) ^ power then x else x + 2 ^ m) + 2 ^ m ≤ 137438953472 := by rw [hxx]; omega
      have hb2 : ((if p * 2 ^ (32 * power) < (x + 2 ^ m) ^ power then x else x + 2 ^ m) = 0 ∧ 33 ≤ m) ∨ 4294967296 ≤ (if p * 2 ^ (32 * power) < (x + 2 ^ m) ^ power then x else x + 2 ^ m) := by rw [hxx]; exact .inr hge
      refine A.reg (by kernel_rfl) (by kernel_rfl) (.inl rfl) ?_
      refine RunTK.last ?_
      refine RunK.step rfl rfl (ok_move rfl) ?_
      refine RunK.step rfl rfl (ok_move rfl) ?_
      refine RunK.step rfl rfl (ok_bin rfl rfl rfl) ?_; refine RunK.as (u64V (x + 2 ^ m)) (by rw [hbit, ← Int.natCast_add, wrapN_u64 (by omega)]; rfl) ?_
      refine RunK.step rfl rfl (ok_assign rfl) ?_
      refine RunK.nil ?_
      refine End.sub (Sub.cons (t := 0) rfl (Sub.cons (t := 1) rfl (Sub.cons (t := 5) rfl (Sub.cons (t := 6) rfl Sub.nil)))) ?_
      refine End.normal_block ?_
      refine End.normal_then (End.code ?_)
      refine A.reg (by kernel_rfl) (by kernel_rfl) (.inl rfl) ?_
      refine RunTK.last ?_
      refine RunK.step rfl rfl (ok_move rfl) ?_
      refine RunK.step rfl rfl (ok_div rfl rfl (by decide)) ?_; refine RunK.as (u64V (2 ^ m / 2)) (by rw [hbit, tdiv_lit _ (by decide), wrapN_u64 (Nat.lt_of_le_of_lt (Nat.div_le_self _ _) (by omega))]; rfl) ?_
      refine RunK.step rfl rfl (ok_assign rfl) ?_
      refine RunK.nil ?_
      refine End.sub (Sub.cons (t := 0) rfl (Sub.cons (t := 1) rfl (Sub.cons (t := 5) rfl (Sub.cons (t := 6) rfl Sub.nil)))) ?_
      refine End.normal_then ?_
      refine End.again (m, (if p * 2 ^ (32 * power) < (x + 2 ^ m) ^ power then x else x + 2 ^ m)) ?_ ?_ ?_
      · exact ⟨by omega, hroot, hb1, hb2⟩
      · show m < m + 1; omega
      · exact (Sub.cons (t := 0) rfl (Sub.cons (t := 1) rfl (Sub.eq (t := 5) _ rfl (by first | rw [if_neg hacc] | rw [if_pos hrej]) (Sub.cons (t := 6) rfl Sub.nil))))
    · have hrej : p * 2 ^ (32 * power) < (x + 2 ^ m) ^ power := by simpa using hc17
      have hxx : (if p * 2 ^ (32 * power) < (x + 2 ^ m) ^ power then x else x + 2 ^ m) = x := if_pos hrej
      have hb1 : (if p * 2 ^ (32 * power) < (x + 2 ^ m) ^ power then x else x + 2 ^ m) + 2 ^ m ≤ 137438953472 := by rw [hxx]; omega
      have hb2 : ((if p * 2 ^ (32 * power) < (x + 2 ^ m) ^ power then x else x + 2 ^ m) = 0 ∧ 33 ≤ m) ∨ 4294967296 ≤ (if p * 2 ^ (32 * power) < (x + 2 ^ m) ^ power then x else x + 2 ^ m) := by
        rw [hxx]
        rcases hor with ⟨h0, h33⟩ | h
        · rcases Nat.lt_or_ge m 33 with h | h
          · obtain rfl : m = 32 := by omega
            subst h0; exact absurd hrej (root_first hp0)
          · exact .inl ⟨h0, h⟩
        · exact .inr h
      refine A.skip ?_
      refine End.normal_block ?_
      refine End.normal_then (End.code ?_)
      refine A.reg (by kernel_rfl) (by kernel_rfl) (.inl rfl) ?_
      refine RunTK.last ?_
      refine RunK.step rfl rfl (ok_move rfl) ?_
      refine RunK.step rfl rfl (ok_div rfl rfl (by decide)) ?_; refine RunK.as (u64V (2 ^ m / 2)) (by rw [hbit, tdiv_lit _ (by decide), wrapN_u64 (Nat.lt_of_le_of_lt (Nat.div_le_self _ _) (by omega))]; rfl) ?_
      refine RunK.step rfl rfl (ok_assign rfl) ?_
      refine RunK.nil ?_
      refine End.sub (Sub.cons (t := 0) rfl (Sub.cons (t := 1) rfl (Sub.cons (t := 5) rfl (Sub.cons (t := 6) rfl Sub.nil)))) ?_
      refine End.normal_then ?_
      refine End.again (m, (if p * 2 ^ (32 * power) < (x + 2 ^ m) ^ power then x else x + 2 ^ m)) ?_ ?_ ?_
      · exact ⟨by omega, hroot, hb1, hb2⟩
      · show m < m + 1; omega
      · exact (Sub.cons (t := 0) rfl (Sub.cons (t := 1) rfl (Sub.eq (t := 5) _ rfl (by first | rw [if_neg hacc] | rw [if_pos hrej]) (Sub.cons (t := 6) rfl Sub.nil))))
  · obtain rfl : k = 0 := by
      rcases Nat.eq_zero_or_pos k with h | h
      · exact h
      · obtain ⟨m, rfl⟩ : ∃ m, k = m + 1 := ⟨k - 1, by omega⟩
        rw [Nat.pow_succ, Nat.mul_div_cancel _ (by decide)] at hc8
        exact absurd (Int.natCast_pos.2 (Nat.pow_pos (n := m) (show 0 < 2 by decide))) (of_decide_eq_false hc8)
    refine A.exit ?_
    refine End.exit_then ?_
    refine End.exit_then ?_
    refine End.exit_here ?_
    refine End.normal_then (End.code ?_)
    refine A.regs (by kernel_rfl) (by kernel_rfl) (.inl rfl) ?_
    refine RunTK.last ?_
    refine RunK.step rfl rfl (ok_move rfl) ?_
    refine RunK.step rfl rfl (ok_rem rfl rfl (by decide)) ?_; refine RunK.as (u64V (x % 4294967296)) (by rw [tmod_lit _ (by decide)]; rfl) ?_
    refine RunK.step rfl rfl (ok_conv Tryd.underlying38 Tryd.underlying22 rfl) ?_; refine RunK.as (u32V (rootF p power)) (by rw [wrap_u32_nat, Nat.mod_mod, rootF, u32V_ofNat, ← hroot]; rfl) ?_
    refine RunK.step rfl rfl (ok_assign rfl) ?_
    refine RunK.nil ?_
    refine A.sub (Sub.cons (t := 4) rfl Sub.nil) ?_
    refine A.ret ?_
    exact End.ret1 rfl rfl (by first | exact Le.refl _ | exact Le.old _ _)
end Go.Proofs.YtlnnhlgfomklcaaDoor
