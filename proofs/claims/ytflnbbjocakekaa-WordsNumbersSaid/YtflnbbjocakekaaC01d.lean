/-
  The contracts of the functions of package words and of its reference, part four: Join, Xor.
-/
import Derived.Test.YtflnbbjocakekaaC01b
import Derived.Test.YtflnbbjocakekaaOps2
namespace Go.Proofs.Ytflnbbjocakekaa
open Go Go.RowKit
set_option linter.unusedVariables false

def xorV (a b : List UInt8) : List UInt8 := if a.length = b.length then xors a b else []

theorem Join_fnB (ps : List (List UInt8)) (hps : ps.length ≤ 1000000) (htot : ps.flatten.length ≤ 1000000) : FnB Try.prog 16 [lst (ps.map byt)] (fun B => fresh B 5 (ps.flatten.map byteV) ps.flatten.length) := by
  refine FnB.of Try.func16 rfl (by kernel_rfl) Try.ntmps16 (by simp) (fun w => [(0, old w.heap.size (lst (ps.map byt)))]) (fun w => (Start.old rfl Start.nil)) fun w₀ => ?_
  refine A.regs (by kernel_rfl) (by kernel_rfl) (.inl rfl) ?_
  refine RunTK.last ?_
  refine RunK.step rfl rfl (ok_assign rfl) ?_
  refine RunK.nil ?_
  refine A.sub (Sub.cons (t := 0) rfl Sub.nil) ?_
  refine A.regs (by kernel_rfl) (by kernel_rfl) (.inl rfl) ?_
  refine RunTK.last ?_
  refine RunK.step rfl rfl (ok_assign rfl) ?_
  refine RunK.nil ?_
  refine A.sub (Sub.cons (t := 0) rfl (Sub.cons (t := 3) rfl Sub.nil)) ?_
  refine A.seq ?_
  refine A.regs (by kernel_rfl) (by kernel_rfl) (.inl rfl) ?_
  refine RunTK.last ?_
  refine RunK.step rfl rfl (ok_move rfl) ?_
  refine RunK.step rfl rfl (ok_len Try.underlying49 rfl (by first | exact Le.refl _ | exact Le.old _ _ | exact le_byt _ _ | exact (Le.old _ _).trans (le_byt _ _) | exact le_lst _ _ | exact (Le.old _ _).trans (le_lst _ _) | exact (Le.old _ _).trans (Le.old _ _) | exact (Le.old _ _).trans ((Le.old _ _).trans (le_byt _ _)) | exact byt_nil_le | exact lst_nil_le | exact bytes_nil_le | exact list_nil_le)) ?_; refine RunK.as (.int .i64 (ps.length : Int)) (by simp) ?_
  refine RunK.step rfl rfl (ok_move rfl) ?_
  refine RunK.nil ?_
  refine A.sub (Sub.cons (t := 0) rfl (Sub.cons (t := 3) rfl (Sub.cons (t := 10) rfl (Sub.cons (t := 11) rfl (Sub.cons (t := 12) rfl Sub.nil))))) ?_
  refine A.block ?_
  refine A.loop (ι := Nat) (fun i => i ≤ ps.length) (fun i => [(0, old w₀.heap.size (lst (ps.map byt))), (3, .v (.int .i64 (((ps.take i).flatten.length : Nat) : Int))), (10, old w₀.heap.size (lst (ps.map byt))), (11, .v (.int .i64 (ps.length : Int))), (12, .v (.int .i64 (i : Int)))]) (fun i => ps.length - i) 0 ?_ ?_ ?_
  · exact Nat.zero_le _
  · exact (Sub.cons (t := 0) rfl (Sub.cons (t := 3) rfl (Sub.cons (t := 10) rfl (Sub.cons (t := 11) rfl (Sub.cons (t := 12) rfl Sub.nil)))))
  intro i hi
  refine A.regs (by kernel_rfl) (by kernel_rfl) (.inl rfl) ?_
  refine RunTK.last ?_
  refine RunK.step rfl rfl (ok_bin rfl rfl rfl) ?_
  refine RunK.nil ?_
  refine A.sub (Sub.cons (t := 0) rfl (Sub.cons (t := 3) rfl (Sub.cons (t := 10) rfl (Sub.cons (t := 11) rfl (Sub.cons (t := 12) rfl (Sub.cons (t := 13) rfl Sub.nil)))))) ?_
  refine A.seq ?_
  refine A.cond rfl (fun hc13 => ?_) (fun hc13 => ?_)
  · have hlt : i < ps.length := by simpa using hc13
    have hget : ps[i]? = some ps[i] := List.getElem?_eq_getElem hlt
    have hT := flatten_take_le ps (i + 1)
    rw [flatten_take_succ hget, List.length_append] at hT
    refine A.skip ?_
    refine End.normal_then (End.code ?_)
    refine A.seq ?_
    refine A.block ?_
    refine A.regs (by kernel_rfl) (by kernel_rfl) (.inl rfl) ?_
    refine RunTK.last ?_
    refine RunK.step rfl rfl (ok_index (d := byt ps[i]) Try.underlying49 info23 rfl (by first | exact Le.refl _ | exact Le.old _ _ | exact le_byt _ _ | exact (Le.old _ _).trans (le_byt _ _) | exact le_lst _ _ | exact (Le.old _ _).trans (le_lst _ _) | exact (Le.old _ _).trans (Le.old _ _) | exact (Le.old _ _).trans ((Le.old _ _).trans (le_byt _ _)) | exact byt_nil_le | exact lst_nil_le | exact bytes_nil_le | exact list_nil_le) rfl (by omega) (by simp [hlt])) ?_
    refine RunK.step rfl rfl (ok_load Try.underlying23 rfl rfl) ?_
    refine RunK.step rfl rfl (ok_assign rfl) ?_
    refine RunK.nil ?_
    refine A.sub (Sub.cons (t := 0) rfl (Sub.cons (t := 3) rfl (Sub.cons (t := 5) rfl (Sub.cons (t := 10) rfl (Sub.cons (t := 11) rfl (Sub.cons (t := 12) rfl Sub.nil)))))) ?_
    refine A.reg (by kernel_rfl) (by kernel_rfl) (.inl rfl) ?_
    refine RunTK.last ?_
    refine RunK.step rfl rfl (ok_move rfl) ?_
    refine RunK.step rfl rfl (ok_move rfl) ?_
    refine RunK.step rfl rfl (ok_lenB Try.underlying23 rfl (by first | exact Le.refl _ | exact Le.old _ _ | exact le_byt _ _ | exact (Le.old _ _).trans (le_byt _ _) | exact le_lst _ _ | exact (Le.old _ _).trans (le_lst _ _) | exact (Le.old _ _).trans (Le.old _ _) | exact (Le.old _ _).trans ((Le.old _ _).trans (le_byt _ _)) | exact byt_nil_le | exact lst_nil_le | exact bytes_nil_le | exact list_nil_le)) ?_
    refine RunK.step rfl rfl (ok_bin rfl rfl rfl) ?_; refine RunK.as (.int .i64 (((ps.take (i + 1)).flatten.length : Nat) : Int)) (by rw [wrap_i64 (by omega) (by omega), flatten_take_succ hget, List.length_append]; congr 1) ?_
    refine RunK.step rfl rfl (ok_assign rfl) ?_
    refine RunK.nil ?_
    refine End.sub (Sub.cons (t := 0) rfl (Sub.cons (t := 3) rfl (Sub.cons (t := 10) rfl (Sub.cons (t := 11) rfl (Sub.cons (t := 12) rfl Sub.nil))))) ?_
    refine End.normal_block ?_
    refine End.normal_then (End.code ?_)
    refine A.reg (by kernel_rfl) (by kernel_rfl) (.inl rfl) ?_
    refine RunTK.last ?_
    refine RunK.step rfl rfl (ok_bin rfl rfl rfl) ?_; refine RunK.as (.int .i64 ((i + 1 : Nat) : Int)) (by rw [wrap_i64 (by omega) (by omega)]; congr 1) ?_
    refine RunK.step rfl rfl (ok_move rfl) ?_
    refine RunK.nil ?_
    refine End.sub (Sub.cons (t := 0) rfl (Sub.cons (t := 3) rfl (Sub.cons (t := 10) rfl (Sub.cons (t := 11) rfl (Sub.cons (t := 12) rfl Sub.nil))))) ?_
    refine End.normal_then ?_
    refine End.again (i + 1) ?_ ?_ ?_
    · show _ ≤ _; omega
    · show _ - _ < _ - _; omega
    · exact (Sub.cons (t := 0) rfl (Sub.cons (t := 3) rfl (Sub.cons (t := 10) rfl (Sub.cons (t := 11) rfl (Sub.cons (t := 12) rfl Sub.nil)))))
  · have hi2 : i = ps.length := by simp at hc13; omega
    refine A.exit ?_
    refine End.exit_then ?_
    refine End.exit_then ?_
    refine End.exit_here ?_
    refine End.normal_then (End.code ?_)
    refine A.regs (by kernel_rfl) (by kernel_rfl) (.inl rfl) ?_
    refine RunTK.last ?_
    refine RunK.step rfl rfl (ok_move rfl) ?_
    refine RunK.step rfl rfl (ok_make ps.flatten.length Try.underlying23 info5 (by decide) rfl rfl rfl (by rw [hi2, List.take_length]) (by rw [hi2, List.take_length]) (by omega)) ?_
    refine RunK.step rfl rfl (ok_assign rfl) ?_
    refine RunK.nil ?_
    refine A.sub (Sub.cons (t := 0) rfl (Sub.cons (t := 6) rfl Sub.nil)) ?_
    refine A.open (t := 6) (k := 1000000) rfl fun b hb => ?_
    refine A.regs (by kernel_rfl) (by kernel_rfl) (.inl rfl) ?_
    refine RunTK.last ?_
    refine RunK.step rfl rfl (ok_assign rfl) ?_
    refine RunK.nil ?_
    refine A.sub (Sub.cons (t := 0) rfl (Sub.cons (t := 6) rfl (Sub.cons (t := 7) rfl (Sub.cons (t := 1000000) rfl Sub.nil)))) ?_
    refine A.seq ?_
    refine A.regs (by kernel_rfl) (by kernel_rfl) (.inl rfl) ?_
    refine RunTK.last ?_
    refine RunK.step rfl rfl (ok_move rfl) ?_
    refine RunK.step rfl rfl (ok_len Try.underlying49 rfl (by first | exact Le.refl _ | exact Le.old _ _ | exact le_byt _ _ | exact (Le.old _ _).trans (le_byt _ _) | exact le_lst _ _ | exact (Le.old _ _).trans (le_lst _ _) | exact (Le.old _ _).trans (Le.old _ _) | exact (Le.old _ _).trans ((Le.old _ _).trans (le_byt _ _)) | exact byt_nil_le | exact lst_nil_le | exact bytes_nil_le | exact list_nil_le)) ?_; refine RunK.as (.int .i64 (ps.length : Int)) (by simp) ?_
    refine RunK.step rfl rfl (ok_move rfl) ?_
    refine RunK.nil ?_
    refine A.sub (Sub.cons (t := 6) rfl (Sub.cons (t := 7) rfl (Sub.cons (t := 23) rfl (Sub.cons (t := 24) rfl (Sub.cons (t := 25) rfl (Sub.cons (t := 1000000) rfl Sub.nil)))))) ?_
    refine A.block ?_
    refine A.loop (ι := Nat) (fun i => i ≤ ps.length) (fun i => [(6, .v (.slice (some ⟨b, 0, none⟩) ps.flatten.length ps.flatten.length)), (7, .v (.int .i64 (((ps.take i).flatten.length : Nat) : Int))), (23, old w₀.heap.size (lst (ps.map byt))), (24, .v (.int .i64 (ps.length : Int))), (25, .v (.int .i64 (i : Int))), (1000000, blk b 5 ((ps.take i).flatten.map byteV ++ List.replicate (ps.flatten.length - (ps.take i).flatten.length) (.int .u8 0)))]) (fun i => ps.length - i) 0 ?_ ?_ ?_
    · exact Nat.zero_le _
    · exact (Sub.eq (t := 6) _ rfl (by simp) (Sub.cons (t := 7) rfl (Sub.cons (t := 23) rfl (Sub.cons (t := 24) rfl (Sub.cons (t := 25) rfl (Sub.eq (t := 1000000) _ rfl (by simp) Sub.nil))))))
    intro i hi
    refine A.regs (by kernel_rfl) (by kernel_rfl) (.inl rfl) ?_
    refine RunTK.last ?_
    refine RunK.step rfl rfl (ok_bin rfl rfl rfl) ?_
    refine RunK.nil ?_
    refine A.sub (Sub.cons (t := 6) rfl (Sub.cons (t := 7) rfl (Sub.cons (t := 23) rfl (Sub.cons (t := 24) rfl (Sub.cons (t := 25) rfl (Sub.cons (t := 26) rfl (Sub.cons (t := 1000000) rfl Sub.nil))))))) ?_
    refine A.seq ?_
    refine A.cond rfl (fun hc26 => ?_) (fun hc26 => ?_)
    · have hlt : i < ps.length := by simpa using hc26
      have hget : ps[i]? = some ps[i] := List.getElem?_eq_getElem hlt
      have hT := flatten_take_le ps (i + 1)
      rw [flatten_take_succ hget, List.length_append] at hT
      refine A.skip ?_
      refine End.normal_then (End.code ?_)
      refine A.seq ?_
      refine A.block ?_
      refine A.regs (by kernel_rfl) (by kernel_rfl) (.inl rfl) ?_
      refine RunTK.last ?_
      refine RunK.step rfl rfl (ok_index (d := byt ps[i]) Try.underlying49 info23 rfl (by first | exact Le.refl _ | exact Le.old _ _ | exact le_byt _ _ | exact (Le.old _ _).trans (le_byt _ _) | exact le_lst _ _ | exact (Le.old _ _).trans (le_lst _ _) | exact (Le.old _ _).trans (Le.old _ _) | exact (Le.old _ _).trans ((Le.old _ _).trans (le_byt _ _)) | exact byt_nil_le | exact lst_nil_le | exact bytes_nil_le | exact list_nil_le) rfl (by omega) (by simp [hlt])) ?_
      refine RunK.step rfl rfl (ok_load Try.underlying23 rfl rfl) ?_
      refine RunK.step rfl rfl (ok_assign rfl) ?_
      refine RunK.nil ?_
      refine A.sub (Sub.cons (t := 6) rfl (Sub.cons (t := 7) rfl (Sub.cons (t := 9) rfl (Sub.cons (t := 23) rfl (Sub.cons (t := 24) rfl (Sub.cons (t := 25) rfl (Sub.cons (t := 1000000) rfl Sub.nil))))))) ?_
      refine A.reg (by kernel_rfl) (by kernel_rfl) (.inl rfl) ?_
      refine RunTK.eff 5 (by decide) rfl (.inl rfl) ?_
      refine RunK.step rfl rfl (ok_move rfl) ?_
      refine RunK.step rfl rfl (ok_move rfl) ?_
      refine RunK.step rfl rfl (ok_move rfl) ?_
      refine RunK.step rfl rfl (ok_sliceV (ps.take i).flatten.length Try.underlying23 info5 rfl rfl (by omega) (Nat.le_refl _)) ?_
      refine RunK.step rfl rfl (ok_move rfl) ?_
      refine RunK.nil ?_
      refine ⟨_, eff_copy (s := 1000000) (l := ps[i]) Try.underlying23 info5 rfl rfl (Le.refl _) (by omega) hb rfl (by simp only [List.length_append, List.length_map, List.length_replicate]; split <;> omega) (by decide) (Left.cons (t := 6) rfl (Stays.v _ _) (Left.cons (t := 7) rfl (Stays.v _ _) (Left.cons (t := 23) rfl (Stays.old _ _) (Left.cons (t := 24) rfl (Stays.v _ _) (Left.cons (t := 25) rfl (Stays.v _ _) (Left.cons (t := 29) rfl (Stays.v _ _) (Left.cons (t := 30) rfl (Stays.v _ _) (Left.cons (t := 31) rfl (Stays.v _ _) (Left.cons (t := 32) rfl (Stays.v _ _) Left.nil))))))))), ?_⟩
      refine RunTK.last ?_
      refine RunK.step rfl rfl (ok_bin rfl rfl rfl) ?_; refine RunK.as (.int .i64 (((ps.take (i + 1)).flatten.length : Nat) : Int)) (by rw [wrap_i64 (by omega) (by omega), flatten_take_succ hget, List.length_append]; congr 1) ?_
      refine RunK.step rfl rfl (ok_assign rfl) ?_
      refine RunK.nil ?_
      refine End.sub (Sub.cons (t := 6) rfl (Sub.cons (t := 7) rfl (Sub.cons (t := 23) rfl (Sub.cons (t := 24) rfl (Sub.cons (t := 25) rfl (Sub.cons (t := 1000000) rfl Sub.nil)))))) ?_
      refine End.normal_block ?_
      refine End.normal_then (End.code ?_)
      refine A.reg (by kernel_rfl) (by kernel_rfl) (.inl rfl) ?_
      refine RunTK.last ?_
      refine RunK.step rfl rfl (ok_bin rfl rfl rfl) ?_; refine RunK.as (.int .i64 ((i + 1 : Nat) : Int)) (by rw [wrap_i64 (by omega) (by omega)]; congr 1) ?_
      refine RunK.step rfl rfl (ok_move rfl) ?_
      refine RunK.nil ?_
      refine End.sub (Sub.cons (t := 6) rfl (Sub.cons (t := 7) rfl (Sub.cons (t := 23) rfl (Sub.cons (t := 24) rfl (Sub.cons (t := 25) rfl (Sub.cons (t := 1000000) rfl Sub.nil)))))) ?_
      refine End.normal_then ?_
      refine End.again (i + 1) ?_ ?_ ?_
      · show _ ≤ _; omega
      · show _ - _ < _ - _; omega
      · exact (Sub.cons (t := 6) rfl (Sub.cons (t := 7) rfl (Sub.cons (t := 23) rfl (Sub.cons (t := 24) rfl (Sub.cons (t := 25) rfl (Sub.eq (t := 1000000) _ rfl (congrArg _ (copy_step hget (by omega) rfl)) Sub.nil))))))
    · have hi2 : i = ps.length := by simp at hc26; omega
      refine A.exit ?_
      refine End.exit_then ?_
      refine End.exit_then ?_
      refine End.exit_here ?_
      refine End.normal_then (End.code ?_)
      refine A.regs (by kernel_rfl) (by kernel_rfl) (.inl rfl) ?_
      refine RunTK.last ?_
      refine RunK.step rfl rfl (ok_move rfl) ?_
      refine RunK.step rfl rfl (ok_assign rfl) ?_
      refine RunK.nil ?_
      refine A.sub (Sub.cons (t := 2) rfl (Sub.cons (t := 1000000) rfl Sub.nil)) ?_
      refine A.ret ?_
      subst hi2
      exact End.fresh rfl hb rfl (by rw [List.length_map]) (k := 1000000) rfl (by rw [List.take_length, Nat.sub_self, List.replicate_zero, List.append_nil])
theorem Join_fn (ps : List (List UInt8)) (hps : ps.length ≤ 1000000) (htot : ps.flatten.length ≤ 1000000) : Fn Try.prog 16 [lst (ps.map byt)] (bytes ps.flatten ps.flatten.length) :=
  (Join_fnB ps hps htot).fn fun _ => fresh_bytes rfl (by simp only [maxLen]; omega)
theorem Xor_fn (a b : List UInt8) (ha : a.length ≤ 1000000) : Fn Try.prog 21 [byt a, byt b] (tup [bytes (xorV a b) (xorV a b).length, .v (.int .i64 (chk b.length a.length))]) := by
  have hchk : chk b.length a.length = 0 ↔ a.length = b.length := by unfold chk; split <;> (try split) <;> omega
  refine Fn.of Try.func21 rfl (by kernel_rfl) Try.ntmps21 (by simp) (fun w => [(0, old w.heap.size (byt a)), (1, old w.heap.size (byt b))]) (fun w => (Start.old rfl (Start.old rfl Start.nil))) fun w₀ => ?_
  refine A.regs (by kernel_rfl) (by kernel_rfl) (.inl rfl) ?_
  refine RunTK.last ?_
  refine RunK.step rfl rfl (ok_assign rfl) ?_
  refine RunK.step rfl rfl (ok_assign rfl) ?_
  refine RunK.nil ?_
  refine A.sub (Sub.cons (t := 0) rfl (Sub.cons (t := 1) rfl Sub.nil)) ?_
  refine A.seq ?_
  refine A.regs (by kernel_rfl) (by kernel_rfl) (.inl rfl) ?_
  refine RunTK.last ?_
  refine RunK.step rfl rfl (ok_move rfl) ?_
  refine RunK.step rfl rfl (ok_move rfl) ?_
  refine RunK.step rfl rfl (ok_lenB Try.underlying23 rfl (by first | exact Le.refl _ | exact Le.old _ _ | exact le_byt _ _ | exact (Le.old _ _).trans (le_byt _ _) | exact le_lst _ _ | exact (Le.old _ _).trans (le_lst _ _) | exact (Le.old _ _).trans (Le.old _ _) | exact (Le.old _ _).trans ((Le.old _ _).trans (le_byt _ _)) | exact byt_nil_le | exact lst_nil_le | exact bytes_nil_le | exact list_nil_le)) ?_
  refine RunK.step rfl rfl (ok_call (checkLength_fn b _) (Args.cons rfl (by first | exact Le.refl _ | exact Le.old _ _ | exact le_byt _ _ | exact (Le.old _ _).trans (le_byt _ _) | exact le_lst _ _ | exact (Le.old _ _).trans (le_lst _ _) | exact (Le.old _ _).trans (Le.old _ _) | exact (Le.old _ _).trans ((Le.old _ _).trans (le_byt _ _)) | exact byt_nil_le | exact lst_nil_le | exact bytes_nil_le | exact list_nil_le) (Args.cons rfl (Le.refl _) Args.nil))) ?_
  refine RunK.step rfl rfl (ok_assign rfl) ?_
  refine RunK.nil ?_
  refine A.sub (Sub.cons (t := 0) rfl (Sub.cons (t := 1) rfl (Sub.cons (t := 6) rfl Sub.nil))) ?_
  refine A.regs (by kernel_rfl) (by kernel_rfl) (.inl rfl) ?_
  refine RunTK.last ?_
  refine RunK.step rfl rfl (ok_move rfl) ?_
  refine RunK.step rfl rfl (ok_bin rfl rfl rfl) ?_
  refine RunK.nil ?_
  refine A.sub (Sub.cons (t := 0) rfl (Sub.cons (t := 1) rfl (Sub.cons (t := 6) rfl (Sub.cons (t := 14) rfl Sub.nil)))) ?_
  refine A.cond rfl (fun hc14 => ?_) (fun hc14 => ?_)
  · have hne : ¬ a.length = b.length := fun h => by simp [hchk.2 h] at hc14
    refine A.regs (by kernel_rfl) (by kernel_rfl) (.inl rfl) ?_
    refine RunTK.last ?_
    refine RunK.step rfl rfl (ok_move rfl) ?_
    refine RunK.step rfl rfl (ok_assign rfl) ?_
    refine RunK.step rfl rfl (ok_assign rfl) ?_
    refine RunK.nil ?_
    refine A.sub (Sub.cons (t := 4) rfl (Sub.cons (t := 5) rfl Sub.nil)) ?_
    refine A.ret ?_
    refine End.ret_then ?_
    first | (refine End.ret2 rfl rfl ?_ rfl (Le.refl _); rw [xorV, if_neg hne]; exact bytes_nil_le) | (subst hi2; refine End.bytes 4 1000000 (xors a b) rfl (xors_length heq).symm rfl ?_ (by simp [xors_length heq]) (by simp only [maxLen]; omega) ?_; (simp only [Nat.sub_self, List.replicate_zero, List.append_nil, xors_length heq]; rw [← List.map_take, List.take_take, Nat.min_self, List.take_of_length_le (by rw [xors_length heq]; omega)]); exact End.ret2 rfl rfl (Le.eq (by rw [xorV, if_pos heq, xors_length heq])) rfl (Le.v (by rw [hchk.2 heq])))
  · have heq : a.length = b.length := hchk.1 (by simpa using hc14)
    refine A.skip ?_
    refine End.normal_then (End.code ?_)
    refine A.regs (by kernel_rfl) (by kernel_rfl) (.inl rfl) ?_
    refine RunTK.last ?_
    refine RunK.step rfl rfl (ok_move rfl) ?_
    refine RunK.step rfl rfl (ok_lenB Try.underlying23 rfl (by first | exact Le.refl _ | exact Le.old _ _ | exact le_byt _ _ | exact (Le.old _ _).trans (le_byt _ _) | exact le_lst _ _ | exact (Le.old _ _).trans (le_lst _ _) | exact (Le.old _ _).trans (Le.old _ _) | exact (Le.old _ _).trans ((Le.old _ _).trans (le_byt _ _)) | exact byt_nil_le | exact lst_nil_le | exact bytes_nil_le | exact list_nil_le)) ?_
    refine RunK.step rfl rfl (ok_make a.length Try.underlying23 info5 (by decide) rfl rfl rfl rfl rfl (by omega)) ?_
    refine RunK.step rfl rfl (ok_assign rfl) ?_
    refine RunK.nil ?_
    refine A.sub (Sub.cons (t := 0) rfl (Sub.cons (t := 1) rfl (Sub.cons (t := 7) rfl Sub.nil))) ?_
    refine A.open (t := 7) (k := 1000000) rfl fun b0 hb0 => ?_
    have hb := hb0
    refine A.seq ?_
    refine A.regs (by kernel_rfl) (by kernel_rfl) (.inl rfl) ?_
    refine RunTK.last ?_
    refine RunK.step rfl rfl (ok_move rfl) ?_
    refine RunK.step rfl rfl (ok_lenV Try.underlying23 rfl) ?_
    refine RunK.step rfl rfl (ok_move rfl) ?_
    refine RunK.nil ?_
    refine A.sub (Sub.cons (t := 0) rfl (Sub.cons (t := 1) rfl (Sub.cons (t := 7) rfl (Sub.cons (t := 20) rfl (Sub.cons (t := 21) rfl (Sub.cons (t := 1000000) rfl Sub.nil)))))) ?_
    refine A.block ?_
    refine A.loop (ι := Nat) (fun i => i ≤ a.length) (fun i => [(0, old w₀.heap.size (byt a)), (1, old w₀.heap.size (byt b)), (7, .v (.slice (some ⟨b0, 0, none⟩) a.length a.length)), (20, .v (.int .i64 (a.length : Int))), (21, .v (.int .i64 (i : Int))), (1000000, blk b0 5 (((xors a b).take i).map byteV ++ List.replicate ((xors a b).length - i) (.int .u8 0)))]) (fun i => a.length - i) 0 ?_ ?_ ?_
    · exact Nat.zero_le _
    · exact (Sub.cons (t := 0) rfl (Sub.cons (t := 1) rfl (Sub.eq (t := 7) _ rfl (by simp) (Sub.cons (t := 20) rfl (Sub.cons (t := 21) rfl (Sub.eq (t := 1000000) _ rfl (by simp [xors_length heq]) Sub.nil))))))
    intro i hi
    refine A.regs (by kernel_rfl) (by kernel_rfl) (.inl rfl) ?_
    refine RunTK.last ?_
    refine RunK.step rfl rfl (ok_bin rfl rfl rfl) ?_
    refine RunK.nil ?_
    refine A.sub (Sub.cons (t := 0) rfl (Sub.cons (t := 1) rfl (Sub.cons (t := 7) rfl (Sub.cons (t := 20) rfl (Sub.cons (t := 21) rfl (Sub.cons (t := 22) rfl (Sub.cons (t := 1000000) rfl Sub.nil))))))) ?_
    refine A.seq ?_
    refine A.cond rfl (fun hc22 => ?_) (fun hc22 => ?_)
    · have hlt : i < a.length := by simpa using hc22
      have hlb : i < b.length := by omega
      refine A.skip ?_
      refine End.normal_then (End.code ?_)
      refine A.seq ?_
      refine A.block ?_
      refine A.regs (by kernel_rfl) (by kernel_rfl) (.inl rfl) ?_
      refine RunTK.last ?_
      refine RunK.step rfl rfl (ok_move rfl) ?_
      refine RunK.step rfl rfl (ok_assign rfl) ?_
      refine RunK.nil ?_
      refine A.sub (Sub.cons (t := 0) rfl (Sub.cons (t := 1) rfl (Sub.cons (t := 7) rfl (Sub.cons (t := 8) rfl (Sub.cons (t := 20) rfl (Sub.cons (t := 21) rfl (Sub.cons (t := 1000000) rfl Sub.nil))))))) ?_
      refine A.reg (by kernel_rfl) (by kernel_rfl) (.inr (by kernel_rfl)) ?_
      refine RunTK.eff 12 (by decide) rfl (.inr (by kernel_rfl)) ?_
      refine RunK.step rfl rfl (ok_move rfl) ?_
      refine RunK.step rfl rfl (ok_move rfl) ?_
      refine RunK.step rfl rfl (ok_move rfl) ?_
      refine RunK.step rfl rfl (ok_move rfl) ?_
      refine RunK.step rfl rfl (ok_index (d := byteD a[i]) Try.underlying23 info5 rfl (by first | exact Le.refl _ | exact Le.old _ _ | exact le_byt _ _ | exact (Le.old _ _).trans (le_byt _ _) | exact le_lst _ _ | exact (Le.old _ _).trans (le_lst _ _) | exact (Le.old _ _).trans (Le.old _ _) | exact (Le.old _ _).trans ((Le.old _ _).trans (le_byt _ _)) | exact byt_nil_le | exact lst_nil_le | exact bytes_nil_le | exact list_nil_le) rfl (by omega) (by simp [hlt])) ?_
      refine RunK.step rfl rfl (ok_load Try.underlying5 rfl rfl) ?_
      refine RunK.step rfl rfl (ok_move rfl) ?_
      refine RunK.step rfl rfl (ok_move rfl) ?_
      refine RunK.step rfl rfl (ok_index (d := byteD b[i]) Try.underlying23 info5 rfl (by first | exact Le.refl _ | exact Le.old _ _ | exact le_byt _ _ | exact (Le.old _ _).trans (le_byt _ _) | exact le_lst _ _ | exact (Le.old _ _).trans (le_lst _ _) | exact (Le.old _ _).trans (Le.old _ _) | exact (Le.old _ _).trans ((Le.old _ _).trans (le_byt _ _)) | exact byt_nil_le | exact lst_nil_le | exact bytes_nil_le | exact list_nil_le) rfl (by omega) (by simp [hlb])) ?_
      refine RunK.step rfl rfl (ok_load Try.underlying5 rfl rfl) ?_
      refine RunK.step rfl rfl (ok_bin rfl rfl rfl) ?_; refine RunK.as (byteV (a[i] ^^^ b[i])) (by rw [show IntKind.u8.bits = 8 from rfl, xor_u8_nat]; rfl) ?_
      refine RunK.step rfl rfl (ok_indexV i Try.underlying23 info5 rfl rfl rfl hlt) ?_
      refine RunK.nil ?_
      refine ⟨_, eff_store (n := 38) (s := 1000000) info5 rfl rfl rfl hb rfl (by simp [xors_length heq]; omega) (Left.cons (t := 0) rfl (Stays.old _ _) (Left.cons (t := 1) rfl (Stays.old _ _) (Left.cons (t := 7) rfl (Stays.v _ _) (Left.cons (t := 8) rfl (Stays.v _ _) (Left.cons (t := 20) rfl (Stays.v _ _) (Left.cons (t := 21) rfl (Stays.v _ _) (Left.cons (t := 24) rfl (Stays.v _ _) (Left.cons (t := 25) rfl (Stays.v _ _) (Left.cons (t := 26) rfl (Stays.old _ _) (Left.cons (t := 27) rfl (Stays.v _ _) (Left.cons (t := 29) rfl (Stays.v _ _) (Left.cons (t := 30) rfl (Stays.old _ _) (Left.cons (t := 31) rfl (Stays.v _ _) (Left.cons (t := 33) rfl (Stays.v _ _) (Left.cons (t := 34) rfl (Stays.v _ _) (Left.cons (t := 35) rfl (Stays.v _ _) Left.nil)))))))))))))))), ?_⟩
      refine RunTK.last ?_
      refine RunK.nil ?_
      refine End.sub (Sub.cons (t := 0) rfl (Sub.cons (t := 1) rfl (Sub.cons (t := 7) rfl (Sub.cons (t := 20) rfl (Sub.cons (t := 21) rfl (Sub.cons (t := 1000000) rfl Sub.nil)))))) ?_
      refine End.normal_block ?_
      refine End.normal_then (End.code ?_)
      refine A.reg (by kernel_rfl) (by kernel_rfl) (.inl rfl) ?_
      refine RunTK.last ?_
      refine RunK.step rfl rfl (ok_bin rfl rfl rfl) ?_; refine RunK.as (.int .i64 ((i + 1 : Nat) : Int)) (by rw [wrap_i64 (by omega) (by omega)]; congr 1) ?_
      refine RunK.step rfl rfl (ok_move rfl) ?_
      refine RunK.nil ?_
      refine End.sub (Sub.cons (t := 0) rfl (Sub.cons (t := 1) rfl (Sub.cons (t := 7) rfl (Sub.cons (t := 20) rfl (Sub.cons (t := 21) rfl (Sub.cons (t := 1000000) rfl Sub.nil)))))) ?_
      refine End.normal_then ?_
      refine End.again (i + 1) ?_ ?_ ?_
      · show _ ≤ _; omega
      · show _ - _ < _ - _; omega
      · exact (Sub.cons (t := 0) rfl (Sub.cons (t := 1) rfl (Sub.cons (t := 7) rfl (Sub.cons (t := 20) rfl (Sub.cons (t := 21) rfl (Sub.eq (t := 1000000) _ rfl (by rw [Nat.zero_add]; exact congrArg _ (fill_step (xors_get hlt hlb))) Sub.nil))))))
    · have hi2 : i = a.length := by simp at hc22; omega
      refine A.exit ?_
      refine End.exit_then ?_
      refine End.exit_then ?_
      refine End.exit_here ?_
      refine End.normal_then (End.code ?_)
      refine A.regs (by kernel_rfl) (by kernel_rfl) (.inl rfl) ?_
      refine RunTK.last ?_
      refine RunK.step rfl rfl (ok_move rfl) ?_
      refine RunK.step rfl rfl (ok_assign rfl) ?_
      refine RunK.step rfl rfl (ok_assign rfl) ?_
      refine RunK.nil ?_
      refine A.sub (Sub.cons (t := 4) rfl (Sub.cons (t := 5) rfl (Sub.cons (t := 1000000) rfl Sub.nil))) ?_
      refine A.ret ?_
      first | (refine End.ret2 rfl rfl ?_ rfl (Le.refl _); rw [xorV, if_neg hne]; exact bytes_nil_le) | (subst hi2; refine End.bytes 4 1000000 (xors a b) rfl (xors_length heq).symm rfl ?_ (by simp [xors_length heq]) (by simp only [maxLen]; omega) ?_; (simp only [Nat.sub_self, List.replicate_zero, List.append_nil, xors_length heq]; rw [← List.map_take, List.take_take, Nat.min_self, List.take_of_length_le (by rw [xors_length heq]; omega)]); exact End.ret2 rfl rfl (Le.eq (by rw [xorV, if_pos heq, xors_length heq])) rfl (Le.v (by rw [hchk.2 heq])))
theorem refXor_fn (a b : List UInt8) (heq : a.length = b.length) (ha : a.length ≤ 1000000) : Fn Try.prog 22 [byt a, byt b] (byt (xors a b)) := by
  refine Fn.of Try.func22 rfl (by kernel_rfl) Try.ntmps22 (by simp) (fun w => [(0, old w.heap.size (byt a)), (1, old w.heap.size (byt b))]) (fun w => (Start.old rfl (Start.old rfl Start.nil))) fun w₀ => ?_
  refine A.regs (by kernel_rfl) (by kernel_rfl) (.inl rfl) ?_
  refine RunTK.last ?_
  refine RunK.step rfl rfl (ok_assign rfl) ?_
  refine RunK.nil ?_
  refine A.sub (Sub.cons (t := 0) rfl (Sub.cons (t := 1) rfl Sub.nil)) ?_
  refine A.regs (by kernel_rfl) (by kernel_rfl) (.inl rfl) ?_
  refine RunTK.last ?_
  refine RunK.step rfl rfl (ok_assign rfl) ?_
  refine RunK.nil ?_
  refine A.sub (Sub.cons (t := 0) rfl (Sub.cons (t := 1) rfl (Sub.cons (t := 5) rfl Sub.nil))) ?_
  refine A.seq ?_
  refine A.regs (by kernel_rfl) (by kernel_rfl) (.inl rfl) ?_
  refine RunTK.last ?_
  refine RunK.step rfl rfl (ok_assign rfl) ?_
  refine RunK.nil ?_
  refine A.sub (Sub.cons (t := 0) rfl (Sub.cons (t := 1) rfl (Sub.cons (t := 5) rfl (Sub.cons (t := 6) rfl Sub.nil)))) ?_
  refine A.block ?_
  refine A.subL (SubL.cons (t := 0) rfl (Le.refl _) (SubL.cons (t := 1) rfl (Le.refl _) (SubL.cons (t := 5) rfl (own_nil (B := w₀.heap.size) (e := 5)) (SubL.cons (t := 6) rfl (Le.refl _) SubL.nil)))) ?_
  refine A.loop (ι := Nat) (fun i => i ≤ a.length) (fun i => [(0, old w₀.heap.size (byt a)), (1, old w₀.heap.size (byt b)), (5, own w₀.heap.size 5 i (((xors a b).take i).map byteV)), (6, .v (.int .i64 (i : Int)))]) (fun i => a.length - i) 0 ?_ ?_ ?_
  · exact Nat.zero_le _
  · exact (Sub.cons (t := 0) rfl (Sub.cons (t := 1) rfl (Sub.cons (t := 5) rfl (Sub.cons (t := 6) rfl Sub.nil))))
  intro i hi
  refine A.seq ?_
  refine A.regs (by kernel_rfl) (by kernel_rfl) (.inl rfl) ?_
  refine RunTK.last ?_
  refine RunK.step rfl rfl (ok_move rfl) ?_
  refine RunK.step rfl rfl (ok_move rfl) ?_
  refine RunK.step rfl rfl (ok_lenB Try.underlying23 rfl (by first | exact Le.refl _ | exact Le.old _ _ | exact le_byt _ _ | exact (Le.old _ _).trans (le_byt _ _) | exact le_lst _ _ | exact (Le.old _ _).trans (le_lst _ _) | exact (Le.old _ _).trans (Le.old _ _) | exact (Le.old _ _).trans ((Le.old _ _).trans (le_byt _ _)) | exact byt_nil_le | exact lst_nil_le | exact bytes_nil_le | exact list_nil_le)) ?_
  refine RunK.step rfl rfl (ok_bin rfl rfl rfl) ?_
  refine RunK.nil ?_
  refine A.sub (Sub.cons (t := 0) rfl (Sub.cons (t := 1) rfl (Sub.cons (t := 5) rfl (Sub.cons (t := 6) rfl (Sub.cons (t := 12) rfl Sub.nil))))) ?_
  refine A.cond rfl (fun hc12 => ?_) (fun hc12 => ?_)
  · have hlt : i < a.length := by simpa using hc12
    have hlb : i < b.length := by omega
    have hxa := a[i].toNat_lt
    have hxb := b[i].toNat_lt
    refine A.skip ?_
    refine End.normal_then (End.code ?_)
    refine A.seq ?_
    refine A.block ?_
    refine A.regs (by kernel_rfl) (by kernel_rfl) (.inl rfl) ?_
    refine RunTK.last ?_
    refine RunK.step rfl rfl (ok_assign rfl) ?_
    refine RunK.nil ?_
    refine A.sub (Sub.cons (t := 0) rfl (Sub.cons (t := 1) rfl (Sub.cons (t := 5) rfl (Sub.cons (t := 6) rfl (Sub.cons (t := 7) rfl Sub.nil))))) ?_
    refine A.seq ?_
    refine A.regs (by kernel_rfl) (by kernel_rfl) (.inl rfl) ?_
    refine RunTK.last ?_
    refine RunK.step rfl rfl (ok_assign rfl) ?_
    refine RunK.nil ?_
    refine A.sub (Sub.cons (t := 0) rfl (Sub.cons (t := 1) rfl (Sub.cons (t := 5) rfl (Sub.cons (t := 6) rfl (Sub.cons (t := 7) rfl (Sub.cons (t := 8) rfl Sub.nil)))))) ?_
    refine A.block ?_
    refine A.loop (ι := Nat) (fun j => j ≤ 8) (fun j => [(0, old w₀.heap.size (byt a)), (1, old w₀.heap.size (byt b)), (5, own w₀.heap.size 5 i (((xors a b).take i).map byteV)), (6, .v (.int .i64 (i : Int))), (7, .v (.int .i64 (((a[i].toNat / 2 ^ (8 - j)) ^^^ (b[i].toNat / 2 ^ (8 - j)) : Nat) : Int))), (8, .v (.int .i64 ((128 / 2 ^ j : Nat) : Int)))]) (fun j => 8 - j) 0 ?_ ?_ ?_
    · exact Nat.zero_le _
    · exact (Sub.cons (t := 0) rfl (Sub.cons (t := 1) rfl (Sub.cons (t := 5) rfl (Sub.cons (t := 6) rfl (Sub.eq (t := 7) _ rfl (by rw [Nat.div_eq_of_lt (by omega), Nat.div_eq_of_lt (by omega)]; rfl) (Sub.cons (t := 8) rfl Sub.nil))))))
    intro j hj
    refine A.seq ?_
    refine A.regs (by kernel_rfl) (by kernel_rfl) (.inl rfl) ?_
    refine RunTK.last ?_
    refine RunK.step rfl rfl (ok_move rfl) ?_
    refine RunK.step rfl rfl (ok_bin rfl rfl rfl) ?_
    refine RunK.nil ?_
    refine A.sub (Sub.cons (t := 0) rfl (Sub.cons (t := 1) rfl (Sub.cons (t := 5) rfl (Sub.cons (t := 6) rfl (Sub.cons (t := 7) rfl (Sub.cons (t := 8) rfl (Sub.cons (t := 16) rfl Sub.nil))))))) ?_
    refine A.cond rfl (fun hc16 => ?_) (fun hc16 => ?_)
    · have hj8 : j < 8 := by
        rcases Nat.lt_or_ge j 8 with h | h
        · exact h
        · have : j = 8 := by omega
          subst this; simp at hc16
      have hp := pow_half hj8
      have hpos : 0 < 2 ^ (7 - j) := Nat.pow_pos (by decide)
      have hv := xor_lt256 (8 - j) hxa hxb
      have hn := xor_next a[i].toNat b[i].toNat hj8
      have da := Nat.div_le_self a[i].toNat (2 ^ (7 - j))
      have db := Nat.div_le_self b[i].toNat (2 ^ (7 - j))
      refine A.skip ?_
      refine End.normal_then (End.code ?_)
      refine A.seq ?_
      refine A.block ?_
      refine A.reg (by kernel_rfl) (by kernel_rfl) (.inr (by kernel_rfl)) ?_
      refine RunTK.last ?_
      refine RunK.step rfl rfl (ok_move rfl) ?_
      refine RunK.step rfl rfl (ok_bin rfl rfl rfl) ?_; refine RunK.as (.int .i64 ((2 * ((a[i].toNat / 2 ^ (8 - j)) ^^^ (b[i].toNat / 2 ^ (8 - j))) : Nat) : Int)) (by rw [wrap_i64 (by omega) (by omega)]; congr 1) ?_
      refine RunK.step rfl rfl (ok_move rfl) ?_
      refine RunK.step rfl rfl (ok_move rfl) ?_
      refine RunK.step rfl rfl (ok_index (d := byteD a[i]) Try.underlying23 info5 rfl (by first | exact Le.refl _ | exact Le.old _ _ | exact le_byt _ _ | exact (Le.old _ _).trans (le_byt _ _) | exact le_lst _ _ | exact (Le.old _ _).trans (le_lst _ _) | exact (Le.old _ _).trans (Le.old _ _) | exact (Le.old _ _).trans ((Le.old _ _).trans (le_byt _ _)) | exact byt_nil_le | exact lst_nil_le | exact bytes_nil_le | exact list_nil_le) rfl (by omega) (by simp [hlt])) ?_
      refine RunK.step rfl rfl (ok_load Try.underlying5 rfl rfl) ?_
      refine RunK.step rfl rfl (ok_conv Try.underlying5 Try.underlying3 rfl) ?_; refine RunK.as (.int .i64 (a[i].toNat : Int)) (by rw [wrapN_i64 (by omega)]) ?_
      refine RunK.step rfl rfl (ok_move rfl) ?_
      refine RunK.step rfl rfl (ok_div rfl rfl (by omega)) ?_; refine RunK.as (.int .i64 ((a[i].toNat / 2 ^ (7 - j) : Nat) : Int)) (by rw [hp, tdiv_lit _ (by omega), Int.toNat_natCast, wrapN_i64 (by omega)]) ?_
      refine RunK.step rfl rfl (ok_move rfl) ?_
      refine RunK.step rfl rfl (ok_move rfl) ?_
      refine RunK.step rfl rfl (ok_index (d := byteD b[i]) Try.underlying23 info5 rfl (by first | exact Le.refl _ | exact Le.old _ _ | exact le_byt _ _ | exact (Le.old _ _).trans (le_byt _ _) | exact le_lst _ _ | exact (Le.old _ _).trans (le_lst _ _) | exact (Le.old _ _).trans (Le.old _ _) | exact (Le.old _ _).trans ((Le.old _ _).trans (le_byt _ _)) | exact byt_nil_le | exact lst_nil_le | exact bytes_nil_le | exact list_nil_le) rfl (by omega) (by simp [hlb])) ?_
      refine RunK.step rfl rfl (ok_load Try.underlying5 rfl rfl) ?_
      refine RunK.step rfl rfl (ok_conv Try.underlying5 Try.underlying3 rfl) ?_; refine RunK.as (.int .i64 (b[i].toNat : Int)) (by rw [wrapN_i64 (by omega)]) ?_
      refine RunK.step rfl rfl (ok_move rfl) ?_
      refine RunK.step rfl rfl (ok_div rfl rfl (by omega)) ?_; refine RunK.as (.int .i64 ((b[i].toNat / 2 ^ (7 - j) : Nat) : Int)) (by rw [hp, tdiv_lit _ (by omega), Int.toNat_natCast, wrapN_i64 (by omega)]) ?_
      refine RunK.step rfl rfl (ok_bin rfl rfl rfl) ?_; refine RunK.as (.int .i64 ((a[i].toNat / 2 ^ (7 - j) + b[i].toNat / 2 ^ (7 - j) : Nat) : Int)) (by rw [← Int.natCast_add, wrapN_i64 (by omega)]) ?_
      refine RunK.step rfl rfl (ok_rem rfl rfl (by decide)) ?_; refine RunK.as (.int .i64 (((a[i].toNat / 2 ^ (7 - j) + b[i].toNat / 2 ^ (7 - j)) % 2 : Nat) : Int)) (by rw [tmod_lit _ (by decide)]; rfl) ?_
      refine RunK.step rfl rfl (ok_bin rfl rfl rfl) ?_; refine RunK.as (.int .i64 (((a[i].toNat / 2 ^ (8 - (j + 1))) ^^^ (b[i].toNat / 2 ^ (8 - (j + 1))) : Nat) : Int)) (by rw [← Int.natCast_add, hn, wrapN_i64 (Nat.lt_trans (xor_lt256 _ hxa hxb) (by decide))]) ?_
      refine RunK.step rfl rfl (ok_assign rfl) ?_
      refine RunK.nil ?_
      refine End.sub (Sub.cons (t := 0) rfl (Sub.cons (t := 1) rfl (Sub.cons (t := 5) rfl (Sub.cons (t := 6) rfl (Sub.cons (t := 7) rfl (Sub.cons (t := 8) rfl Sub.nil)))))) ?_
      refine End.normal_block ?_
      refine End.normal_then (End.code ?_)
      refine A.reg (by kernel_rfl) (by kernel_rfl) (.inl rfl) ?_
      refine RunTK.last ?_
      refine RunK.step rfl rfl (ok_move rfl) ?_
      refine RunK.step rfl rfl (ok_div rfl rfl (by decide)) ?_; refine RunK.as (.int .i64 ((128 / 2 ^ (j + 1) : Nat) : Int)) (by rw [tdiv_lit _ (by decide), show Int.toNat 2 = 2 from rfl, Nat.div_div_eq_div_mul, ← Nat.pow_succ, wrapN_i64 (Nat.lt_of_le_of_lt (Nat.div_le_self _ _) (by decide))]) ?_
      refine RunK.step rfl rfl (ok_assign rfl) ?_
      refine RunK.nil ?_
      refine End.sub (Sub.cons (t := 0) rfl (Sub.cons (t := 1) rfl (Sub.cons (t := 5) rfl (Sub.cons (t := 6) rfl (Sub.cons (t := 7) rfl (Sub.cons (t := 8) rfl Sub.nil)))))) ?_
      refine End.normal_then ?_
      refine End.again (j + 1) ?_ ?_ ?_
      · show _ ≤ _; omega
      · show _ - _ < _ - _; omega
      · exact (Sub.cons (t := 0) rfl (Sub.cons (t := 1) rfl (Sub.cons (t := 5) rfl (Sub.cons (t := 6) rfl (Sub.cons (t := 7) rfl (Sub.cons (t := 8) rfl Sub.nil))))))
    · have hj2 : j = 8 := by
        rcases Nat.lt_or_ge j 8 with h | h
        · have hpos : 0 < 2 ^ (7 - j) := Nat.pow_pos (by decide)
          rw [pow_half h] at hc16; simp only [decide_eq_false_iff_not] at hc16; omega
        · omega
      subst hj2
      refine A.exit ?_
      refine End.exit_then ?_
      refine End.exit_then ?_
      refine End.exit_here ?_
      refine End.normal_then (End.code ?_)
      refine A.reg (by kernel_rfl) (by kernel_rfl) (.inl rfl) ?_
      refine RunTK.eff 4 (by decide) rfl (.inl rfl) ?_
      refine RunK.step rfl rfl (ok_move rfl) ?_
      refine RunK.step rfl rfl (ok_move rfl) ?_
      refine RunK.step rfl rfl (ok_conv Try.underlying3 Try.underlying5 rfl) ?_; refine RunK.as (byteV (a[i] ^^^ b[i])) (by rw [wrap_u8_nat, Nat.sub_self, Nat.pow_zero, Nat.div_one, Nat.div_one, xor_byte]; rfl) ?_
      refine RunK.step rfl rfl (ok_build [byteD (a[i] ^^^ b[i])] Try.underlying23 info5 rfl (by decide) (by decide) rfl ⟨rfl, rfl, trivial⟩ (fun d hd w x h => by simp at hd; subst hd; exact v_one rfl h)) ?_
      refine RunK.nil ?_
      refine ⟨_, eff_append (vs := [byteV (a[i] ^^^ b[i])]) Try.underlying23 info5 (by decide) rfl rfl rfl (le_lst _ _) (by simp [byteV, Value.oneCell']) (by simp; omega) (by decide) (Left.cons (t := 0) rfl (Stays.old _ _) (Left.cons (t := 1) rfl (Stays.old _ _) (Left.cons (t := 6) rfl (Stays.v _ _) (Left.cons (t := 7) rfl (Stays.v _ _) (Left.cons (t := 8) rfl (Stays.v _ _) (Left.cons (t := 16) rfl (Stays.v _ _) (Left.cons (t := 39) rfl (Stays.v _ _) (Left.cons (t := 40) rfl (Stays.v _ _) Left.nil)))))))), ?_⟩
      refine RunTK.last ?_
      refine RunK.step rfl rfl (ok_assign rfl) ?_
      refine RunK.nil ?_
      refine End.sub (Sub.cons (t := 0) rfl (Sub.cons (t := 1) rfl (Sub.cons (t := 5) rfl (Sub.cons (t := 6) rfl Sub.nil)))) ?_
      refine End.normal_block ?_
      refine End.normal_then (End.code ?_)
      refine A.reg (by kernel_rfl) (by kernel_rfl) (.inl rfl) ?_
      refine RunTK.last ?_
      refine RunK.step rfl rfl (ok_move rfl) ?_
      refine RunK.step rfl rfl (ok_bin rfl rfl rfl) ?_; refine RunK.as (.int .i64 ((i + 1 : Nat) : Int)) (by rw [wrap_i64 (by omega) (by omega)]; congr 1) ?_
      refine RunK.step rfl rfl (ok_assign rfl) ?_
      refine RunK.nil ?_
      refine End.sub (Sub.cons (t := 0) rfl (Sub.cons (t := 1) rfl (Sub.cons (t := 5) rfl (Sub.cons (t := 6) rfl Sub.nil)))) ?_
      refine End.normal_then ?_
      refine End.again (i + 1) ?_ ?_ ?_
      · show _ ≤ _; omega
      · show _ - _ < _ - _; omega
      · exact (Sub.cons (t := 0) rfl (Sub.cons (t := 1) rfl (Sub.eq (t := 5) _ rfl (by rw [List.take_add_one, xors_get hlt hlb, List.map_append]; rfl) (Sub.cons (t := 6) rfl Sub.nil))))
  · have hi2 : i = a.length := by simp at hc12; omega
    refine A.exit ?_
    refine End.exit_then ?_
    refine End.exit_then ?_
    refine End.exit_here ?_
    refine End.normal_then (End.code ?_)
    refine A.regs (by kernel_rfl) (by kernel_rfl) (.inl rfl) ?_
    refine RunTK.last ?_
    refine RunK.step rfl rfl (ok_move rfl) ?_
    refine RunK.step rfl rfl (ok_assign rfl) ?_
    refine RunK.nil ?_
    refine A.sub (Sub.cons (t := 4) rfl Sub.nil) ?_
    refine A.ret ?_
    refine End.ret1 rfl rfl (Le.trans (Le.eq ?_) (own_byt (B := w₀.heap.size) (e := 5) (n := a.length) (xors_length heq).symm))
    rw [hi2, List.take_of_length_le (by rw [xors_length heq]; omega)]
end Go.Proofs.Ytflnbbjocakekaa
