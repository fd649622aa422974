/-
  The laws of layer 1, each called with values that read as lists and numbers: it returns true, and memory at most grows.
-/
import Derived.Test.YtflnbbjocakekaaC01c
import Derived.Test.YtflnbbjocakekaaC01d
namespace Go.Proofs.Ytflnbbjocakekaa
open Go Go.RowKit
set_option linter.unusedVariables false

theorem lit_byt {ds : List D} {c : Nat} {l : List UInt8} (h : ds = l.map byteD) : Le (list ds c) (byt l) := h ▸ le_lst _ c
theorem fresh_byt {B : Nat} {e : TypeId} {xs : List Value} {n : Nat} {l : List UInt8} (hx : xs = l.map byteV) (hn : n = l.length) (hm : n ≤ maxLen) : Le (fresh B e xs n) (byt l) := by
  subst hx; exact (fresh_bytes hn hm).trans (le_byt _ _)
theorem rot_add (V : Nat) (m n : Int) : rotB (rotB V (m % 32).toNat) (n % 32).toNat = rotB V ((m + n) % 32).toNat := by
  rw [rotB_rotB, ← rotB_mod]; congr 1; omega
theorem getV_be4 {v : Nat} (h : v < 4294967296) : getV (be 4 v) 4 = v := by
  rw [getV, be_length, if_pos rfl, num_be, Nat.mod_eq_of_lt (by omega)]
theorem getV_be8 {v : Nat} (h : v < 18446744073709551616) : getV (be 8 v) 8 = v := by
  rw [getV, be_length, if_pos rfl, num_be, Nat.mod_eq_of_lt (by omega)]
theorem tmod1000 (n : Int) : -1000 < n.tmod 1000 ∧ n.tmod 1000 < 1000 := by
  have h := Int.tmod_eq_emod (a := n) (b := 1000)
  rw [show Int.natAbs 1000 = 1000 from rfl] at h
  split at h <;> omega

set_option maxHeartbeats 1000000 in
theorem lives_fn  : Fn Try.prog 17 [] (.v (.bool true)) := by
  refine Fn.of Try.func17 rfl (by kernel_rfl) Try.ntmps17 (by simp) (fun w => []) (fun w => Start.nil) fun w₀ => ?_
  refine A.regs (by kernel_rfl) (by kernel_rfl) (.inl rfl) ?_
  refine RunTK.last ?_
  refine RunK.step rfl rfl (ok_assign rfl) ?_
  refine RunK.nil ?_
  refine A.sub Sub.nil ?_
  refine A.seq ?_
  refine A.regs (by kernel_rfl) (by kernel_rfl) (.inl rfl) ?_
  refine RunTK.last ?_
  refine RunK.step rfl rfl (ok_call (Put32_fn 1 (by decide) (by decide)) (Args.cons rfl (Le.refl _) Args.nil)) ?_
  refine RunK.step rfl rfl (ok_build [byteD 0, byteD 0, byteD 0, byteD 1] Try.underlying23 info5 rfl (by decide) (by decide) rfl ⟨rfl, rfl, rfl, rfl, rfl, rfl, rfl, rfl, trivial⟩ (fun d hd w x h => by simp only [List.mem_cons, List.not_mem_nil, or_false] at hd; rcases hd with rfl | rfl | rfl | rfl <;> exact v_one rfl h)) ?_
  refine RunK.step rfl rfl (ok_call (same_fn [0, 0, 0, 1] 0) (Args.cons rfl (Le.eq (by kernel_rfl)) (Args.cons rfl (Le.refl _) (Args.cons rfl (lit_byt rfl) (Args.cons rfl (Le.refl _) Args.nil))))) ?_
  refine RunK.step rfl rfl (ok_not rfl) ?_
  refine RunK.step rfl rfl (ok_move rfl) ?_
  refine RunK.guarded rfl rfl rfl rfl (ok_call (Put32_fn 305419896 (by decide) (by decide)) (Args.cons rfl (Le.refl _) Args.nil)) ?_
  refine RunK.guarded rfl rfl rfl rfl (ok_build [byteD 18, byteD 52, byteD 86, byteD 120] Try.underlying23 info5 rfl (by decide) (by decide) rfl ⟨rfl, rfl, rfl, rfl, rfl, rfl, rfl, rfl, trivial⟩ (fun d hd w x h => by simp only [List.mem_cons, List.not_mem_nil, or_false] at hd; rcases hd with rfl | rfl | rfl | rfl <;> exact v_one rfl h)) ?_
  refine RunK.guarded rfl rfl rfl rfl (ok_call (same_fn [18, 52, 86, 120] 0) (Args.cons rfl (Le.eq (by kernel_rfl)) (Args.cons rfl (Le.refl _) (Args.cons rfl (lit_byt rfl) (Args.cons rfl (Le.refl _) Args.nil))))) ?_
  refine RunK.guarded rfl rfl rfl rfl (ok_not rfl) ?_
  refine RunK.step rfl rfl (ok_pick rfl rfl) ?_
  refine RunK.step rfl rfl (ok_move rfl) ?_
  refine RunK.guarded rfl rfl rfl rfl (ok_call (Put64_fn 258 (by decide) (by decide)) (Args.cons rfl (Le.refl _) Args.nil)) ?_
  refine RunK.guarded rfl rfl rfl rfl (ok_build [byteD 0, byteD 0, byteD 0, byteD 0, byteD 0, byteD 0, byteD 1, byteD 2] Try.underlying23 info5 rfl (by decide) (by decide) rfl ⟨rfl, rfl, rfl, rfl, rfl, rfl, rfl, rfl, rfl, rfl, rfl, rfl, rfl, rfl, rfl, rfl, trivial⟩ (fun d hd w x h => by simp only [List.mem_cons, List.not_mem_nil, or_false] at hd; rcases hd with rfl | rfl | rfl | rfl | rfl | rfl | rfl | rfl <;> exact v_one rfl h)) ?_
  refine RunK.guarded rfl rfl rfl rfl (ok_call (same_fn [0, 0, 0, 0, 0, 0, 1, 2] 0) (Args.cons rfl (Le.eq (by kernel_rfl)) (Args.cons rfl (Le.refl _) (Args.cons rfl (lit_byt rfl) (Args.cons rfl (Le.refl _) Args.nil))))) ?_
  refine RunK.guarded rfl rfl rfl rfl (ok_not rfl) ?_
  refine RunK.step rfl rfl (ok_pick rfl rfl) ?_
  refine RunK.nil ?_
  refine A.sub (Sub.cons (t := 26) rfl Sub.nil) ?_
  refine A.no rfl ?_
  refine A.skip ?_
  refine End.normal_then (End.code ?_)
  refine A.regs (by kernel_rfl) (by kernel_rfl) (.inl rfl) ?_
  refine RunTK.last ?_
  refine RunK.step rfl rfl (ok_build [byteD 0, byteD 0, byteD 1, byteD 0] Try.underlying23 info5 rfl (by decide) (by decide) rfl ⟨rfl, rfl, rfl, rfl, rfl, rfl, rfl, rfl, trivial⟩ (fun d hd w x h => by simp only [List.mem_cons, List.not_mem_nil, or_false] at hd; rcases hd with rfl | rfl | rfl | rfl <;> exact v_one rfl h)) ?_
  refine RunK.step rfl rfl (ok_call (Get32_fn [0, 0, 1, 0]) (Args.cons rfl (lit_byt rfl) Args.nil)) ?_
  refine RunK.step rfl rfl (ok_move rfl) ?_
  refine RunK.step rfl rfl (ok_extract rfl rfl) ?_
  refine RunK.step rfl rfl (ok_extract rfl rfl) ?_
  refine RunK.step rfl rfl (ok_assign rfl) ?_
  refine RunK.step rfl rfl (ok_assign rfl) ?_
  refine RunK.nil ?_
  refine A.sub (Sub.cons (t := 1) rfl (Sub.cons (t := 2) rfl Sub.nil)) ?_
  refine A.regs (by kernel_rfl) (by kernel_rfl) (.inl rfl) ?_
  refine RunTK.last ?_
  refine RunK.step rfl rfl (ok_build [byteD 1, byteD 2, byteD 3] Try.underlying23 info5 rfl (by decide) (by decide) rfl ⟨rfl, rfl, rfl, rfl, rfl, rfl, trivial⟩ (fun d hd w x h => by simp only [List.mem_cons, List.not_mem_nil, or_false] at hd; rcases hd with rfl | rfl | rfl <;> exact v_one rfl h)) ?_
  refine RunK.step rfl rfl (ok_call (Get32_fn [1, 2, 3]) (Args.cons rfl (lit_byt rfl) Args.nil)) ?_
  refine RunK.step rfl rfl (ok_move rfl) ?_
  refine RunK.step rfl rfl (ok_extract rfl rfl) ?_
  refine RunK.step rfl rfl (ok_extract rfl rfl) ?_
  refine RunK.step rfl rfl (ok_assign rfl) ?_
  refine RunK.step rfl rfl (ok_assign rfl) ?_
  refine RunK.nil ?_
  refine A.sub (Sub.cons (t := 1) rfl (Sub.cons (t := 2) rfl (Sub.cons (t := 4) rfl Sub.nil))) ?_
  refine A.regs (by kernel_rfl) (by kernel_rfl) (.inl rfl) ?_
  refine RunTK.last ?_
  refine RunK.step rfl rfl (ok_make 9 Try.underlying23 info5 (by decide) rfl rfl rfl rfl rfl (by decide)) ?_
  refine RunK.step rfl rfl (ok_call (Get64_fn (List.replicate 9 0)) (Args.cons rfl (fresh_byt rfl rfl (by decide)) Args.nil)) ?_
  refine RunK.step rfl rfl (ok_move rfl) ?_
  refine RunK.step rfl rfl (ok_extract rfl rfl) ?_
  refine RunK.step rfl rfl (ok_extract rfl rfl) ?_
  refine RunK.step rfl rfl (ok_assign rfl) ?_
  refine RunK.step rfl rfl (ok_assign rfl) ?_
  refine RunK.nil ?_
  refine A.sub (Sub.cons (t := 1) rfl (Sub.cons (t := 2) rfl (Sub.cons (t := 4) rfl (Sub.cons (t := 6) rfl Sub.nil)))) ?_
  refine A.seq ?_
  refine A.regs (by kernel_rfl) (by kernel_rfl) (.inl rfl) ?_
  refine RunTK.last ?_
  refine RunK.step rfl rfl (ok_move rfl) ?_
  refine RunK.step rfl rfl (ok_bin rfl rfl rfl) ?_; refine RunK.as (.bool false) (by kernel_rfl) ?_
  refine RunK.step rfl rfl (ok_move rfl) ?_
  refine RunK.guarded rfl rfl rfl rfl (ok_move rfl) ?_
  refine RunK.guarded rfl rfl rfl rfl (ok_bin rfl rfl rfl) ?_; refine RunK.as (.bool false) (by kernel_rfl) ?_
  refine RunK.step rfl rfl (ok_pick rfl rfl) ?_
  refine RunK.step rfl rfl (ok_move rfl) ?_
  refine RunK.guarded rfl rfl rfl rfl (ok_move rfl) ?_
  refine RunK.guarded rfl rfl rfl rfl (ok_bin rfl rfl rfl) ?_; refine RunK.as (.bool false) (by kernel_rfl) ?_
  refine RunK.step rfl rfl (ok_pick rfl rfl) ?_
  refine RunK.step rfl rfl (ok_move rfl) ?_
  refine RunK.guarded rfl rfl rfl rfl (ok_move rfl) ?_
  refine RunK.guarded rfl rfl rfl rfl (ok_bin rfl rfl rfl) ?_; refine RunK.as (.bool false) (by kernel_rfl) ?_
  refine RunK.step rfl rfl (ok_pick rfl rfl) ?_
  refine RunK.step rfl rfl (ok_move rfl) ?_
  refine RunK.guarded rfl rfl rfl rfl (ok_call (Rot_fn 1 1 (by decide) (by decide)) (Args.cons rfl (Le.refl _) (Args.cons rfl (Le.refl _) Args.nil))) ?_
  refine RunK.guarded rfl rfl rfl rfl (ok_bin rfl rfl rfl) ?_; refine RunK.as (.bool false) (by kernel_rfl) ?_
  refine RunK.step rfl rfl (ok_pick rfl rfl) ?_
  refine RunK.step rfl rfl (ok_move rfl) ?_
  refine RunK.guarded rfl rfl rfl rfl (ok_call (Rot_fn 2147483648 1 (by decide) (by decide)) (Args.cons rfl (Le.refl _) (Args.cons rfl (Le.refl _) Args.nil))) ?_
  refine RunK.guarded rfl rfl rfl rfl (ok_bin rfl rfl rfl) ?_; refine RunK.as (.bool false) (by kernel_rfl) ?_
  refine RunK.step rfl rfl (ok_pick rfl rfl) ?_
  refine RunK.step rfl rfl (ok_move rfl) ?_
  refine RunK.guarded rfl rfl rfl rfl (ok_call (Rot_fn 1 (-1) (by decide) (by decide)) (Args.cons rfl (Le.refl _) (Args.cons rfl (Le.refl _) Args.nil))) ?_
  refine RunK.guarded rfl rfl rfl rfl (ok_bin rfl rfl rfl) ?_; refine RunK.as (.bool false) (by kernel_rfl) ?_
  refine RunK.step rfl rfl (ok_pick rfl rfl) ?_
  refine RunK.step rfl rfl (ok_move rfl) ?_
  refine RunK.guarded rfl rfl rfl rfl (ok_call (Rot_fn 5 64 (by decide) (by decide)) (Args.cons rfl (Le.refl _) (Args.cons rfl (Le.refl _) Args.nil))) ?_
  refine RunK.guarded rfl rfl rfl rfl (ok_bin rfl rfl rfl) ?_; refine RunK.as (.bool false) (by kernel_rfl) ?_
  refine RunK.step rfl rfl (ok_pick rfl rfl) ?_
  refine RunK.nil ?_
  refine A.sub (Sub.cons (t := 71) rfl Sub.nil) ?_
  refine A.no rfl ?_
  refine A.skip ?_
  refine End.normal_then (End.code ?_)
  refine A.regs (by kernel_rfl) (by kernel_rfl) (.inl rfl) ?_
  refine RunTK.last ?_
  refine RunK.step rfl rfl (ok_build [byteD 15, byteD 240] Try.underlying23 info5 rfl (by decide) (by decide) rfl ⟨rfl, rfl, rfl, rfl, trivial⟩ (fun d hd w x h => by simp only [List.mem_cons, List.not_mem_nil, or_false] at hd; rcases hd with rfl | rfl <;> exact v_one rfl h)) ?_
  refine RunK.step rfl rfl (ok_build [byteD 255, byteD 255] Try.underlying23 info5 rfl (by decide) (by decide) rfl ⟨rfl, rfl, rfl, rfl, trivial⟩ (fun d hd w x h => by simp only [List.mem_cons, List.not_mem_nil, or_false] at hd; rcases hd with rfl | rfl <;> exact v_one rfl h)) ?_
  refine RunK.step rfl rfl (ok_call (Xor_fn [15, 240] [255, 255] (by decide)) (Args.cons rfl (lit_byt rfl) (Args.cons rfl (lit_byt rfl) Args.nil))) ?_
  refine RunK.step rfl rfl (ok_move rfl) ?_
  refine RunK.step rfl rfl (ok_extract rfl rfl) ?_
  refine RunK.step rfl rfl (ok_extract rfl rfl) ?_
  refine RunK.step rfl rfl (ok_assign rfl) ?_
  refine RunK.step rfl rfl (ok_assign rfl) ?_
  refine RunK.nil ?_
  refine A.sub (Sub.cons (t := 7) rfl (Sub.cons (t := 8) rfl Sub.nil)) ?_
  refine A.regs (by kernel_rfl) (by kernel_rfl) (.inl rfl) ?_
  refine RunTK.last ?_
  refine RunK.step rfl rfl (ok_build [byteD 1] Try.underlying23 info5 rfl (by decide) (by decide) rfl ⟨rfl, rfl, trivial⟩ (fun d hd w x h => by simp only [List.mem_cons, List.not_mem_nil, or_false] at hd; rcases hd with rfl <;> exact v_one rfl h)) ?_
  refine RunK.step rfl rfl (ok_call (Xor_fn [1] [] (by decide)) (Args.cons rfl (lit_byt rfl) (Args.cons rfl (byt_nil_le) Args.nil))) ?_
  refine RunK.step rfl rfl (ok_move rfl) ?_
  refine RunK.step rfl rfl (ok_extract rfl rfl) ?_
  refine RunK.step rfl rfl (ok_extract rfl rfl) ?_
  refine RunK.step rfl rfl (ok_assign rfl) ?_
  refine RunK.step rfl rfl (ok_assign rfl) ?_
  refine RunK.nil ?_
  refine A.sub (Sub.cons (t := 7) rfl (Sub.cons (t := 8) rfl (Sub.cons (t := 9) rfl (Sub.cons (t := 10) rfl Sub.nil)))) ?_
  refine A.regs (by kernel_rfl) (by kernel_rfl) (.inl rfl) ?_
  refine RunTK.last ?_
  refine RunK.step rfl rfl (ok_build [byteD 1] Try.underlying23 info5 rfl (by decide) (by decide) rfl ⟨rfl, rfl, trivial⟩ (fun d hd w x h => by simp only [List.mem_cons, List.not_mem_nil, or_false] at hd; rcases hd with rfl <;> exact v_one rfl h)) ?_
  refine RunK.step rfl rfl (ok_build [byteD 2, byteD 3] Try.underlying23 info5 rfl (by decide) (by decide) rfl ⟨rfl, rfl, rfl, rfl, trivial⟩ (fun d hd w x h => by simp only [List.mem_cons, List.not_mem_nil, or_false] at hd; rcases hd with rfl | rfl <;> exact v_one rfl h)) ?_
  refine RunK.step rfl rfl (ok_build [list [byteD 1] 1, .v (.slice none 0 0), list [byteD 2, byteD 3] 2] Try.underlying49 info23 rfl (by decide) (by decide) rfl ⟨rfl, rfl, rfl, rfl, rfl, rfl, trivial⟩ (fun d hd w x h => by simp only [List.mem_cons, List.not_mem_nil, or_false] at hd; rcases hd with rfl | rfl | rfl <;> first | exact v_one rfl h | exact list_one h)) ?_
  refine RunK.step rfl rfl (ok_call (Join_fn [[1], [], [2, 3]] (by decide) (by decide)) (Args.cons rfl (list_lst3 (lit_byt rfl) byt_nil_le (lit_byt rfl)) Args.nil)) ?_
  refine RunK.step rfl rfl (ok_build [byteD 1, byteD 2, byteD 3] Try.underlying23 info5 rfl (by decide) (by decide) rfl ⟨rfl, rfl, rfl, rfl, rfl, rfl, trivial⟩ (fun d hd w x h => by simp only [List.mem_cons, List.not_mem_nil, or_false] at hd; rcases hd with rfl | rfl | rfl <;> exact v_one rfl h)) ?_
  refine RunK.step rfl rfl (ok_call (same_fn [1, 2, 3] 0) (Args.cons rfl (Le.eq (by kernel_rfl)) (Args.cons rfl (Le.refl _) (Args.cons rfl (lit_byt rfl) (Args.cons rfl (Le.refl _) Args.nil))))) ?_
  refine RunK.step rfl rfl (ok_move rfl) ?_
  refine RunK.guarded rfl rfl rfl rfl (ok_call (Join_fn [] (by decide) (by decide)) (Args.cons rfl (lst_nil_le) Args.nil)) ?_
  refine RunK.guarded rfl rfl rfl rfl (ok_call (same_fn [] 0) (Args.cons rfl (Le.eq (by kernel_rfl)) (Args.cons rfl (Le.refl _) (Args.cons rfl (byt_nil_le) (Args.cons rfl (Le.refl _) Args.nil))))) ?_
  refine RunK.step rfl rfl (ok_pick rfl rfl) ?_
  refine RunK.step rfl rfl (ok_move rfl) ?_
  refine RunK.guarded rfl rfl rfl rfl (ok_move rfl) ?_
  refine RunK.guarded rfl rfl rfl rfl (ok_move rfl) ?_
  refine RunK.guarded rfl rfl rfl rfl (ok_build [byteD 240, byteD 15] Try.underlying23 info5 rfl (by decide) (by decide) rfl ⟨rfl, rfl, rfl, rfl, trivial⟩ (fun d hd w x h => by simp only [List.mem_cons, List.not_mem_nil, or_false] at hd; rcases hd with rfl | rfl <;> exact v_one rfl h)) ?_
  refine RunK.guarded rfl rfl rfl rfl (ok_call (same_fn [240, 15] 0) (Args.cons rfl (Le.eq (by kernel_rfl)) (Args.cons rfl (Le.eq (by kernel_rfl)) (Args.cons rfl (lit_byt rfl) (Args.cons rfl (Le.refl _) Args.nil))))) ?_
  refine RunK.step rfl rfl (ok_pick rfl rfl) ?_
  refine RunK.step rfl rfl (ok_move rfl) ?_
  refine RunK.guarded rfl rfl rfl rfl (ok_move rfl) ?_
  refine RunK.guarded rfl rfl rfl rfl (ok_move rfl) ?_
  refine RunK.guarded rfl rfl rfl rfl (ok_call (same_fn [] 6) (Args.cons rfl (Le.eq (by kernel_rfl)) (Args.cons rfl (Le.eq (by kernel_rfl)) (Args.cons rfl (byt_nil_le) (Args.cons rfl (Le.refl _) Args.nil))))) ?_
  refine RunK.step rfl rfl (ok_pick rfl rfl) ?_
  refine RunK.step rfl rfl (ok_assign rfl) ?_
  refine RunK.nil ?_
  refine A.sub (Sub.cons (t := 0) rfl Sub.nil) ?_
  refine A.ret ?_
  exact End.ret1 rfl rfl (by first | exact Le.refl _ | exact Le.old _ _)
set_option maxHeartbeats 1000000 in
theorem WordsNumbers_fn (v w : Int) (hv0 : 0 ≤ v) (hv : v < 18446744073709551616) (hw0 : 0 ≤ w) (hw : w < 18446744073709551616) : Fn Try.prog 3 [.v (.int .u64 v), .v (.int .u64 w)] (.v (.bool true)) := by
  obtain ⟨V, rfl⟩ := Int.eq_ofNat_of_zero_le hv0
  obtain ⟨W, rfl⟩ := Int.eq_ofNat_of_zero_le hw0
  have hV : V < 18446744073709551616 := by omega
  have hW : W < 18446744073709551616 := by omega
  have hl : V % 4294967296 < 4294967296 := Nat.mod_lt _ (by decide)
  have hh : V / 4294967296 < 4294967296 := by omega
  have hbe : be 8 V = be 4 (V / 4294967296) ++ be 4 (V % 4294967296) := by
    rw [show (8 : Nat) = 4 + 4 from rfl, be_append, show (4294967296 : Nat) = 256 ^ 4 from rfl, be_mod]
  refine Fn.of Try.func3 rfl (by kernel_rfl) Try.ntmps3 (by simp) (fun w => [(0, .v (.int .u64 (V : Int))), (1, .v (.int .u64 (W : Int)))]) (fun w => (Start.v rfl (Start.v rfl Start.nil))) fun w₀ => ?_
  refine A.regs (by kernel_rfl) (by kernel_rfl) (.inl rfl) ?_
  refine RunTK.last ?_
  refine RunK.step rfl rfl (ok_assign rfl) ?_
  refine RunK.nil ?_
  refine A.sub (Sub.cons (t := 0) rfl (Sub.cons (t := 1) rfl Sub.nil)) ?_
  refine A.regs (by kernel_rfl) (by kernel_rfl) (.inl rfl) ?_
  refine RunTK.last ?_
  refine RunK.step rfl rfl (ok_move rfl) ?_
  refine RunK.step rfl rfl (ok_call ((Put64_fn (V : Int) hv0 hv).le (d' := bytes (be 8 V) 8) (Le.refl _)) (Args.cons rfl (Le.refl _) Args.nil)) ?_
  refine RunK.step rfl rfl (ok_move rfl) ?_
  refine RunK.step rfl rfl (ok_call ((Put64_fn (W : Int) hw0 hw).le (d' := bytes (be 8 W) 8) (Le.refl _)) (Args.cons rfl (Le.refl _) Args.nil)) ?_
  refine RunK.step rfl rfl (ok_assign rfl) ?_
  refine RunK.step rfl rfl (ok_assign rfl) ?_
  refine RunK.nil ?_
  refine A.sub (Sub.cons (t := 0) rfl (Sub.cons (t := 1) rfl (Sub.cons (t := 5) rfl (Sub.cons (t := 6) rfl Sub.nil)))) ?_
  refine A.regs (by kernel_rfl) (by kernel_rfl) (.inl rfl) ?_
  refine RunTK.last ?_
  refine RunK.step rfl rfl (ok_move rfl) ?_
  refine RunK.step rfl rfl (ok_call (Get64_fn (be 8 V)) (Args.cons rfl (le_byt _ _) Args.nil)) ?_
  refine RunK.step rfl rfl (ok_move rfl) ?_
  refine RunK.step rfl rfl (ok_extract rfl rfl) ?_; refine RunK.as (.int .u64 (V : Int)) (by rw [getV_be8 hV]) ?_
  refine RunK.step rfl rfl (ok_extract rfl rfl) ?_; refine RunK.as (.int .i64 0) (by rw [be_length]; rfl) ?_
  refine RunK.step rfl rfl (ok_assign rfl) ?_
  refine RunK.step rfl rfl (ok_assign rfl) ?_
  refine RunK.nil ?_
  refine A.sub (Sub.cons (t := 0) rfl (Sub.cons (t := 1) rfl (Sub.cons (t := 5) rfl (Sub.cons (t := 6) rfl (Sub.cons (t := 7) rfl (Sub.cons (t := 8) rfl Sub.nil)))))) ?_
  refine A.regs (by kernel_rfl) (by kernel_rfl) (.inl rfl) ?_
  refine RunTK.last ?_
  refine RunK.step rfl rfl (ok_move rfl) ?_
  refine RunK.step rfl rfl (ok_conv Try.underlying22 Try.underlying28 rfl) ?_; refine RunK.as (.int .u32 ((V % 4294967296 : Nat) : Int)) (by rw [wrap_u32_nat]) ?_
  refine RunK.step rfl rfl (ok_call ((Put32_fn ((V % 4294967296 : Nat) : Int) (by omega) (by omega)).le (d' := bytes (be 4 (V % 4294967296)) 4) (Le.refl _)) (Args.cons rfl (Le.refl _) Args.nil)) ?_
  refine RunK.step rfl rfl (ok_call (Get32_fn (be 4 (V % 4294967296))) (Args.cons rfl (le_byt _ _) Args.nil)) ?_
  refine RunK.step rfl rfl (ok_move rfl) ?_
  refine RunK.step rfl rfl (ok_extract rfl rfl) ?_; refine RunK.as (.int .u32 ((V % 4294967296 : Nat) : Int)) (by rw [getV_be4 hl]) ?_
  refine RunK.step rfl rfl (ok_extract rfl rfl) ?_; refine RunK.as (.int .i64 0) (by rw [be_length]; rfl) ?_
  refine RunK.step rfl rfl (ok_assign rfl) ?_
  refine RunK.step rfl rfl (ok_assign rfl) ?_
  refine RunK.nil ?_
  refine A.sub (Sub.cons (t := 0) rfl (Sub.cons (t := 1) rfl (Sub.cons (t := 5) rfl (Sub.cons (t := 6) rfl (Sub.cons (t := 7) rfl (Sub.cons (t := 8) rfl (Sub.cons (t := 9) rfl (Sub.cons (t := 10) rfl Sub.nil)))))))) ?_
  refine A.seq ?_
  refine A.regs (by kernel_rfl) (by kernel_rfl) (.inl rfl) ?_
  refine RunTK.last ?_
  refine RunK.step rfl rfl (ok_move rfl) ?_
  refine RunK.step rfl rfl (ok_move rfl) ?_
  refine RunK.step rfl rfl (ok_call ((refPut64_fn (V : Int) hv0 hv).le (d' := bytes (be 8 V) 8) (Le.refl _)) (Args.cons rfl (Le.refl _) Args.nil)) ?_
  refine RunK.step rfl rfl (ok_call (same_fn (be 8 V) 0) (Args.cons rfl (Le.eq (by rw [be_length])) (Args.cons rfl (Le.refl _) (Args.cons rfl (le_byt _ _) (Args.cons rfl (Le.refl _) Args.nil))))) ?_
  refine RunK.step rfl rfl (ok_not rfl) ?_
  refine RunK.step rfl rfl (ok_move rfl) ?_
  refine RunK.guarded rfl rfl rfl rfl (ok_move rfl) ?_
  refine RunK.guarded rfl rfl rfl rfl (ok_conv Try.underlying22 Try.underlying28 rfl) ?_; refine RunK.as (.int .u32 ((V % 4294967296 : Nat) : Int)) (by rw [wrap_u32_nat]) ?_
  refine RunK.guarded rfl rfl rfl rfl (ok_call ((Put32_fn ((V % 4294967296 : Nat) : Int) (by omega) (by omega)).le (d' := bytes (be 4 (V % 4294967296)) 4) (Le.refl _)) (Args.cons rfl (Le.refl _) Args.nil)) ?_
  refine RunK.guarded rfl rfl rfl rfl (ok_move rfl) ?_
  refine RunK.guarded rfl rfl rfl rfl (ok_conv Try.underlying22 Try.underlying28 rfl) ?_; refine RunK.as (.int .u32 ((V % 4294967296 : Nat) : Int)) (by rw [wrap_u32_nat]) ?_
  refine RunK.guarded rfl rfl rfl rfl (ok_call ((refPut32_fn ((V % 4294967296 : Nat) : Int) (by omega) (by omega)).le (d' := bytes (be 4 (V % 4294967296)) 4) (Le.refl _)) (Args.cons rfl (Le.refl _) Args.nil)) ?_
  refine RunK.guarded rfl rfl rfl rfl (ok_call (same_fn (be 4 (V % 4294967296)) 0) (Args.cons rfl (Le.eq (by rw [be_length])) (Args.cons rfl (Le.refl _) (Args.cons rfl (le_byt _ _) (Args.cons rfl (Le.refl _) Args.nil))))) ?_
  refine RunK.guarded rfl rfl rfl rfl (ok_not rfl) ?_
  refine RunK.step rfl rfl (ok_pick rfl rfl) ?_
  refine RunK.step rfl rfl (ok_move rfl) ?_
  refine RunK.guarded rfl rfl rfl rfl (ok_move rfl) ?_
  refine RunK.guarded rfl rfl rfl rfl (ok_move rfl) ?_
  refine RunK.guarded rfl rfl rfl rfl (ok_bin rfl rfl rfl) ?_; refine RunK.as (.bool false) (by simp) ?_
  refine RunK.step rfl rfl (ok_pick rfl rfl) ?_
  refine RunK.step rfl rfl (ok_move rfl) ?_
  refine RunK.guarded rfl rfl rfl rfl (ok_move rfl) ?_
  refine RunK.guarded rfl rfl rfl rfl (ok_bin rfl rfl rfl) ?_; refine RunK.as (.bool false) (by simp) ?_
  refine RunK.step rfl rfl (ok_pick rfl rfl) ?_
  refine RunK.step rfl rfl (ok_move rfl) ?_
  refine RunK.guarded rfl rfl rfl rfl (ok_move rfl) ?_
  refine RunK.guarded rfl rfl rfl rfl (ok_move rfl) ?_
  refine RunK.guarded rfl rfl rfl rfl (ok_conv Try.underlying22 Try.underlying28 rfl) ?_; refine RunK.as (.int .u32 ((V % 4294967296 : Nat) : Int)) (by rw [wrap_u32_nat]) ?_
  refine RunK.guarded rfl rfl rfl rfl (ok_bin rfl rfl rfl) ?_; refine RunK.as (.bool false) (by simp) ?_
  refine RunK.step rfl rfl (ok_pick rfl rfl) ?_
  refine RunK.step rfl rfl (ok_move rfl) ?_
  refine RunK.guarded rfl rfl rfl rfl (ok_move rfl) ?_
  refine RunK.guarded rfl rfl rfl rfl (ok_bin rfl rfl rfl) ?_; refine RunK.as (.bool false) (by simp) ?_
  refine RunK.step rfl rfl (ok_pick rfl rfl) ?_
  refine RunK.nil ?_
  refine A.sub (Sub.cons (t := 0) rfl (Sub.cons (t := 1) rfl (Sub.cons (t := 5) rfl (Sub.cons (t := 6) rfl (Sub.cons (t := 61) rfl Sub.nil))))) ?_
  refine A.no rfl ?_
  refine A.skip ?_
  refine End.normal_then (End.code ?_)
  refine A.regs (by kernel_rfl) (by kernel_rfl) (.inl rfl) ?_
  refine RunTK.last ?_
  refine RunK.step rfl rfl (ok_move rfl) ?_
  refine RunK.step rfl rfl (ok_shr rfl rfl (by decide)) ?_; refine RunK.as (.int .u64 ((V / 4294967296 : Nat) : Int)) (by rw [show min (Int.toNat 32) IntKind.u64.bits = 32 from rfl, shr_nat]) ?_
  refine RunK.step rfl rfl (ok_conv Try.underlying22 Try.underlying28 rfl) ?_; refine RunK.as (.int .u32 ((V / 4294967296 : Nat) : Int)) (by rw [wrap_u32_nat, Nat.mod_eq_of_lt hh]) ?_
  refine RunK.step rfl rfl (ok_call ((Put32_fn ((V / 4294967296 : Nat) : Int) (by omega) (by omega)).le (d' := bytes (be 4 (V / 4294967296)) 4) (Le.refl _)) (Args.cons rfl (Le.refl _) Args.nil)) ?_
  refine RunK.step rfl rfl (ok_move rfl) ?_
  refine RunK.step rfl rfl (ok_conv Try.underlying22 Try.underlying28 rfl) ?_; refine RunK.as (.int .u32 ((V % 4294967296 : Nat) : Int)) (by rw [wrap_u32_nat]) ?_
  refine RunK.step rfl rfl (ok_call ((Put32_fn ((V % 4294967296 : Nat) : Int) (by omega) (by omega)).le (d' := bytes (be 4 (V % 4294967296)) 4) (Le.refl _)) (Args.cons rfl (Le.refl _) Args.nil)) ?_
  refine RunK.step rfl rfl (ok_build [bytes (be 4 (V / 4294967296)) 4, bytes (be 4 (V % 4294967296)) 4] Try.underlying49 info23 rfl (by decide) (by decide) rfl ⟨rfl, rfl, rfl, rfl, trivial⟩ (fun d hd w x h => by simp only [List.mem_cons, List.not_mem_nil, or_false] at hd; rcases hd with rfl | rfl <;> exact bytes_one h)) ?_
  refine RunK.step rfl rfl (ok_call ((Join_fn [be 4 (V / 4294967296), be 4 (V % 4294967296)] (by simp) (by simp [be_length])).le (d' := byt (be 8 V)) ((le_byt _ _).trans (Le.eq (by rw [hbe]; simp)))) (Args.cons rfl (list_lst2 (le_byt _ _) (le_byt _ _)) Args.nil)) ?_
  refine RunK.step rfl rfl (ok_assign rfl) ?_
  refine RunK.nil ?_
  refine A.sub (Sub.cons (t := 0) rfl (Sub.cons (t := 1) rfl (Sub.cons (t := 5) rfl (Sub.cons (t := 6) rfl (Sub.cons (t := 11) rfl Sub.nil))))) ?_
  refine A.regs (by kernel_rfl) (by kernel_rfl) (.inl rfl) ?_
  refine RunTK.last ?_
  refine RunK.step rfl rfl (ok_move rfl) ?_
  refine RunK.step rfl rfl (ok_str Try.underlying23 Try.underlying5 Try.underlying9 rfl (by first | exact Le.refl _ | exact Le.old _ _ | exact le_byt _ _ | exact (Le.old _ _).trans (le_byt _ _) | exact le_lst _ _ | exact (Le.old _ _).trans (le_lst _ _) | exact (Le.old _ _).trans (Le.old _ _) | exact (Le.old _ _).trans ((Le.old _ _).trans (le_byt _ _)) | exact byt_nil_le | exact lst_nil_le | exact bytes_nil_le | exact list_nil_le)) ?_
  refine RunK.step rfl rfl (ok_move rfl) ?_
  refine RunK.step rfl rfl (ok_str Try.underlying23 Try.underlying5 Try.underlying9 rfl (by first | exact Le.refl _ | exact Le.old _ _ | exact le_byt _ _ | exact (Le.old _ _).trans (le_byt _ _) | exact le_lst _ _ | exact (Le.old _ _).trans (le_lst _ _) | exact (Le.old _ _).trans (Le.old _ _) | exact (Le.old _ _).trans ((Le.old _ _).trans (le_byt _ _)) | exact byt_nil_le | exact lst_nil_le | exact bytes_nil_le | exact list_nil_le)) ?_
  refine RunK.step rfl rfl (ok_seq rfl rfl) ?_; refine RunK.as (.bool true) (by simp) ?_
  refine RunK.step rfl rfl (ok_move rfl) ?_
  refine RunK.guarded rfl rfl rfl rfl (ok_move rfl) ?_
  refine RunK.guarded rfl rfl rfl rfl (ok_move rfl) ?_
  refine RunK.guarded rfl rfl rfl rfl (ok_bin rfl rfl rfl) ?_
  refine RunK.guarded rfl rfl rfl rfl (ok_move rfl) ?_
  refine RunK.guarded rfl rfl rfl rfl (ok_str Try.underlying23 Try.underlying5 Try.underlying9 rfl (by first | exact Le.refl _ | exact Le.old _ _ | exact le_byt _ _ | exact (Le.old _ _).trans (le_byt _ _) | exact le_lst _ _ | exact (Le.old _ _).trans (le_lst _ _) | exact (Le.old _ _).trans (Le.old _ _) | exact (Le.old _ _).trans ((Le.old _ _).trans (le_byt _ _)) | exact byt_nil_le | exact lst_nil_le | exact bytes_nil_le | exact list_nil_le)) ?_
  refine RunK.guarded rfl rfl rfl rfl (ok_move rfl) ?_
  refine RunK.guarded rfl rfl rfl rfl (ok_str Try.underlying23 Try.underlying5 Try.underlying9 rfl (by first | exact Le.refl _ | exact Le.old _ _ | exact le_byt _ _ | exact (Le.old _ _).trans (le_byt _ _) | exact le_lst _ _ | exact (Le.old _ _).trans (le_lst _ _) | exact (Le.old _ _).trans (Le.old _ _) | exact (Le.old _ _).trans ((Le.old _ _).trans (le_byt _ _)) | exact byt_nil_le | exact lst_nil_le | exact bytes_nil_le | exact list_nil_le)) ?_
  refine RunK.guarded rfl rfl rfl rfl (ok_slt rfl rfl) ?_; refine RunK.as (.bool (decide (V < W))) (by rw [be_less hV hW]) ?_
  refine RunK.guarded rfl rfl rfl rfl (ok_beq Try.underlying4 rfl rfl) ?_; refine RunK.as (.bool true) (by simp) ?_
  refine RunK.step rfl rfl (ok_pick rfl rfl) ?_
  refine RunK.step rfl rfl (ok_move rfl) ?_
  refine RunK.guarded rfl rfl rfl rfl (ok_move rfl) ?_
  refine RunK.guarded rfl rfl rfl rfl (ok_move rfl) ?_
  refine RunK.guarded rfl rfl rfl rfl (ok_bin rfl rfl rfl) ?_
  refine RunK.guarded rfl rfl rfl rfl (ok_move rfl) ?_
  refine RunK.guarded rfl rfl rfl rfl (ok_str Try.underlying23 Try.underlying5 Try.underlying9 rfl (by first | exact Le.refl _ | exact Le.old _ _ | exact le_byt _ _ | exact (Le.old _ _).trans (le_byt _ _) | exact le_lst _ _ | exact (Le.old _ _).trans (le_lst _ _) | exact (Le.old _ _).trans (Le.old _ _) | exact (Le.old _ _).trans ((Le.old _ _).trans (le_byt _ _)) | exact byt_nil_le | exact lst_nil_le | exact bytes_nil_le | exact list_nil_le)) ?_
  refine RunK.guarded rfl rfl rfl rfl (ok_move rfl) ?_
  refine RunK.guarded rfl rfl rfl rfl (ok_str Try.underlying23 Try.underlying5 Try.underlying9 rfl (by first | exact Le.refl _ | exact Le.old _ _ | exact le_byt _ _ | exact (Le.old _ _).trans (le_byt _ _) | exact le_lst _ _ | exact (Le.old _ _).trans (le_lst _ _) | exact (Le.old _ _).trans (Le.old _ _) | exact (Le.old _ _).trans ((Le.old _ _).trans (le_byt _ _)) | exact byt_nil_le | exact lst_nil_le | exact bytes_nil_le | exact list_nil_le)) ?_
  refine RunK.guarded rfl rfl rfl rfl (ok_seq rfl rfl) ?_; refine RunK.as (.bool (decide (V = W))) (by rw [be_beq hV hW]) ?_
  refine RunK.guarded rfl rfl rfl rfl (ok_beq Try.underlying4 rfl rfl) ?_; refine RunK.as (.bool true) (by rw [show (((V : Nat) : Int) == (W : Int)) = decide (V = W) from by rw [Bool.eq_iff_iff]; simp; omega]; simp) ?_
  refine RunK.step rfl rfl (ok_pick rfl rfl) ?_
  refine RunK.step rfl rfl (ok_move rfl) ?_
  refine RunK.guarded rfl rfl rfl rfl (ok_call lives_fn Args.nil) ?_
  refine RunK.step rfl rfl (ok_pick rfl rfl) ?_
  refine RunK.step rfl rfl (ok_assign rfl) ?_
  refine RunK.nil ?_
  refine A.sub (Sub.cons (t := 4) rfl Sub.nil) ?_
  refine A.ret ?_
  exact End.ret1 rfl rfl (by first | exact Le.refl _ | exact Le.old _ _)
set_option maxHeartbeats 1000000 in
theorem WordsRot_fn (v m n : Int) (hv0 : 0 ≤ v) (hv : v < 4294967296) (hn0 : -9223372036854775808 ≤ n) (hn : n ≤ 9223372036854775807) : Fn Try.prog 5 [.v (.int .u32 v), .v (.int .i64 m), .v (.int .i64 n)] (.v (.bool true)) := by
  obtain ⟨V, rfl⟩ := Int.eq_ofNat_of_zero_le hv0
  have hV : V < 4294967296 := by omega
  have hm3 := tmod1000 m
  have hn3 := tmod1000 n
  have hz := rotB_zero hV
  have hr1 := rotB_lt V (m.tmod 1000 % 32).toNat
  refine Fn.of Try.func5 rfl (by kernel_rfl) Try.ntmps5 (by simp) (fun w => [(0, .v (.int .u32 (V : Int))), (1, .v (.int .i64 m)), (2, .v (.int .i64 n))]) (fun w => (Start.v rfl (Start.v rfl (Start.v rfl Start.nil)))) fun w₀ => ?_
  refine A.regs (by kernel_rfl) (by kernel_rfl) (.inl rfl) ?_
  refine RunTK.last ?_
  refine RunK.step rfl rfl (ok_assign rfl) ?_
  refine RunK.nil ?_
  refine A.sub (Sub.cons (t := 0) rfl (Sub.cons (t := 1) rfl (Sub.cons (t := 2) rfl Sub.nil))) ?_
  refine A.seq ?_
  refine A.regs (by kernel_rfl) (by kernel_rfl) (.inl rfl) ?_
  refine RunTK.last ?_
  refine RunK.step rfl rfl (ok_move rfl) ?_
  refine RunK.step rfl rfl (ok_move rfl) ?_
  refine RunK.step rfl rfl (ok_call (Rot_fn (V : Int) n hv0 hv) (Args.cons rfl (Le.refl _) (Args.cons rfl (Le.refl _) Args.nil))) ?_
  refine RunK.step rfl rfl (ok_move rfl) ?_
  refine RunK.step rfl rfl (ok_move rfl) ?_
  refine RunK.step rfl rfl (ok_call (refRot_fn (V : Int) n hv0 hv hn0 hn) (Args.cons rfl (Le.refl _) (Args.cons rfl (Le.refl _) Args.nil))) ?_
  refine RunK.step rfl rfl (ok_bin rfl rfl rfl) ?_; refine RunK.as (.bool false) (by simp) ?_
  refine RunK.step rfl rfl (ok_move rfl) ?_
  refine RunK.guarded rfl rfl rfl rfl (ok_move rfl) ?_
  refine RunK.guarded rfl rfl rfl rfl (ok_call (Rot_fn (V : Int) 32 hv0 hv) (Args.cons rfl (Le.refl _) (Args.cons rfl (Le.refl _) Args.nil))) ?_
  refine RunK.guarded rfl rfl rfl rfl (ok_move rfl) ?_
  refine RunK.guarded rfl rfl rfl rfl (ok_bin rfl rfl rfl) ?_; refine RunK.as (.bool false) (by rw [Int.toNat_natCast, show ((32 : Int) % 32).toNat = 0 from rfl, hz]; simp) ?_
  refine RunK.step rfl rfl (ok_pick rfl rfl) ?_
  refine RunK.step rfl rfl (ok_move rfl) ?_
  refine RunK.guarded rfl rfl rfl rfl (ok_move rfl) ?_
  refine RunK.guarded rfl rfl rfl rfl (ok_call (Rot_fn (V : Int) 0 hv0 hv) (Args.cons rfl (Le.refl _) (Args.cons rfl (Le.refl _) Args.nil))) ?_
  refine RunK.guarded rfl rfl rfl rfl (ok_move rfl) ?_
  refine RunK.guarded rfl rfl rfl rfl (ok_bin rfl rfl rfl) ?_; refine RunK.as (.bool false) (by rw [Int.toNat_natCast, show ((0 : Int) % 32).toNat = 0 from rfl, hz]; simp) ?_
  refine RunK.step rfl rfl (ok_pick rfl rfl) ?_
  refine RunK.nil ?_
  refine A.sub (Sub.cons (t := 0) rfl (Sub.cons (t := 1) rfl (Sub.cons (t := 2) rfl (Sub.cons (t := 25) rfl Sub.nil)))) ?_
  refine A.no rfl ?_
  refine A.skip ?_
  refine End.normal_then (End.code ?_)
  refine A.regs (by kernel_rfl) (by kernel_rfl) (.inl rfl) ?_
  refine RunTK.last ?_
  refine RunK.step rfl rfl (ok_move rfl) ?_
  refine RunK.step rfl rfl (ok_rem rfl rfl (by decide)) ?_
  refine RunK.step rfl rfl (ok_move rfl) ?_
  refine RunK.step rfl rfl (ok_rem rfl rfl (by decide)) ?_
  refine RunK.step rfl rfl (ok_assign rfl) ?_
  refine RunK.step rfl rfl (ok_assign rfl) ?_
  refine RunK.nil ?_
  refine A.sub (Sub.cons (t := 0) rfl (Sub.cons (t := 1) rfl (Sub.cons (t := 2) rfl Sub.nil))) ?_
  refine A.regs (by kernel_rfl) (by kernel_rfl) (.inl rfl) ?_
  refine RunTK.last ?_
  refine RunK.step rfl rfl (ok_move rfl) ?_
  refine RunK.step rfl rfl (ok_move rfl) ?_
  refine RunK.step rfl rfl (ok_call (Rot_fn (V : Int) (m.tmod 1000) hv0 hv) (Args.cons rfl (Le.refl _) (Args.cons rfl (Le.refl _) Args.nil))) ?_; refine RunK.as (.int .u32 ((rotB V (m.tmod 1000 % 32).toNat : Nat) : Int)) (by rw [Int.toNat_natCast]) ?_
  refine RunK.step rfl rfl (ok_move rfl) ?_
  refine RunK.step rfl rfl (ok_call (Rot_fn ((rotB V (m.tmod 1000 % 32).toNat : Nat) : Int) (n.tmod 1000) (by omega) (by omega)) (Args.cons rfl (Le.refl _) (Args.cons rfl (Le.refl _) Args.nil))) ?_
  refine RunK.step rfl rfl (ok_move rfl) ?_
  refine RunK.step rfl rfl (ok_move rfl) ?_
  refine RunK.step rfl rfl (ok_move rfl) ?_
  refine RunK.step rfl rfl (ok_bin rfl rfl rfl) ?_; refine RunK.as (.int .i64 (m.tmod 1000 + n.tmod 1000)) (by rw [wrap_i64 (by omega) (by omega)]) ?_
  refine RunK.step rfl rfl (ok_call (Rot_fn (V : Int) (m.tmod 1000 + n.tmod 1000) hv0 hv) (Args.cons rfl (Le.refl _) (Args.cons rfl (Le.refl _) Args.nil))) ?_
  refine RunK.step rfl rfl (ok_bin rfl rfl rfl) ?_; refine RunK.as (.bool true) (by rw [Int.toNat_natCast, Int.toNat_natCast, rot_add]; simp) ?_
  refine RunK.step rfl rfl (ok_move rfl) ?_
  refine RunK.guarded rfl rfl rfl rfl (ok_move rfl) ?_
  refine RunK.guarded rfl rfl rfl rfl (ok_move rfl) ?_
  refine RunK.guarded rfl rfl rfl rfl (ok_call (Rot_fn (V : Int) (m.tmod 1000) hv0 hv) (Args.cons rfl (Le.refl _) (Args.cons rfl (Le.refl _) Args.nil))) ?_; refine RunK.as (.int .u32 ((rotB V (m.tmod 1000 % 32).toNat : Nat) : Int)) (by rw [Int.toNat_natCast]) ?_
  refine RunK.guarded rfl rfl rfl rfl (ok_move rfl) ?_
  refine RunK.guarded rfl rfl rfl rfl (ok_neg rfl) ?_; refine RunK.as (.int .i64 (-(m.tmod 1000))) (by rw [wrap_i64 (by omega) (by omega)]; congr 1; omega) ?_
  refine RunK.guarded rfl rfl rfl rfl (ok_call (Rot_fn ((rotB V (m.tmod 1000 % 32).toNat : Nat) : Int) (-(m.tmod 1000)) (by omega) (by omega)) (Args.cons rfl (Le.refl _) (Args.cons rfl (Le.refl _) Args.nil))) ?_
  refine RunK.guarded rfl rfl rfl rfl (ok_move rfl) ?_
  refine RunK.guarded rfl rfl rfl rfl (ok_bin rfl rfl rfl) ?_; refine RunK.as (.bool true) (by rw [Int.toNat_natCast, rot_add, show (m.tmod 1000 + -(m.tmod 1000)) = 0 from by omega, show ((0 : Int) % 32).toNat = 0 from rfl, hz]; simp) ?_
  refine RunK.step rfl rfl (ok_pick rfl rfl) ?_
  refine RunK.step rfl rfl (ok_move rfl) ?_
  refine RunK.guarded rfl rfl rfl rfl (ok_call lives_fn Args.nil) ?_
  refine RunK.step rfl rfl (ok_pick rfl rfl) ?_
  refine RunK.step rfl rfl (ok_assign rfl) ?_
  refine RunK.nil ?_
  refine A.sub (Sub.cons (t := 6) rfl Sub.nil) ?_
  refine A.ret ?_
  exact End.ret1 rfl rfl (by first | exact Le.refl _ | exact Le.old _ _)
end Go.Proofs.Ytflnbbjocakekaa
