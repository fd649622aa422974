/-
 The contracts of the functions of package words and of its reference, part four: Join, Xor.
-/
import Derived.Test.YtbmpjeheaemgmaaShort
import Derived.Test.YtbmpjeheaemgmaaC01b
import Derived.Test.YtbmpjeheaemgmaaOps2
namespace Go.Proofs.Ytbmpjeheaemgmaa
open Go Go.RowKit
set_option linter.unusedVariables false
set_option maxRecDepth 20000

theorem Join_fnB (ps : List (List UInt8)) (hps : ps.length ≤ 1000000) (htot : ps.flatten.length ≤ 1000000) : FnB Try.prog 28 [lst (ps.map byt)] (fun B => fresh B 5 (ps.flatten.map byteV) ps.flatten.length) := by
 refine FnB.of Try.func28 rfl (by kernel_rfl) Try.ntmps28 (by simp) (fun w => [(0, old w.heap.size (lst (ps.map byt)))]) (fun w => (Start.old rfl Start.nil)) fun w₀ => ?_
 refine GS ?_
 refine TL ?_
 refine RA rfl ?_
 refine RN ?_
 refine GS ?_
 refine TL ?_
 refine RA rfl ?_
 refine RN ?_
 refine A.seq ?_
 refine GS ?_
 refine TL ?_
 refine RM rfl ?_
 refine RS (ok_len Try.underlying77 rfl LA) ?_; refine RZ (.int .i64 (ps.length : Int)) (by simp) ?_
 refine RM rfl ?_
 refine RN ?_
 refine A.block ?_
 refine A.loop (ι := Nat) (fun i => i ≤ ps.length) (fun i => [(0, old w₀.heap.size (lst (ps.map byt))), (3, .v (nI ((ps.take i).flatten.length))), (10, old w₀.heap.size (lst (ps.map byt))), (11, .v (.int .i64 (ps.length : Int))), (12, .v (.int .i64 (i : Int)))]) (fun i => ps.length - i) 0 ?_ ?_ ?_
 ·exact Nat.zero_le _
 ·exact (KC 0 rfl (KC 3 rfl (KC 10 rfl (KC 11 rfl (KC 12 rfl KN)))))
 intro i hi
 refine GS ?_
 refine TL ?_
 refine RB rfl rfl rfl ?_
 refine RN ?_
 refine A.seq ?_
 refine A.cond rfl (fun hc13 => ?_) (fun hc13 => ?_)
 ·have hlt : i < ps.length := by simpa using hc13
  have hget : ps[i]? = some ps[i] := List.getElem?_eq_getElem hlt
  have hT := flatten_take_le ps (i + 1)
  rw [flatten_take_succ hget, List.length_append] at hT
  refine A.skip ?_
  refine EN ?_
  refine A.seq ?_
  refine A.block ?_
  refine GS ?_
  refine TL ?_
  refine RS (ok_index (d := byt ps[i]) Try.underlying77 info31 rfl LA rfl (by omega) (by simp [hlt])) ?_
  refine RS (ok_load Try.underlying31 rfl rfl) ?_
  refine RA rfl ?_
  refine RN ?_
  refine GE ?_
  refine TL ?_
  refine RM rfl ?_
  refine RM rfl ?_
  refine RS (ok_lenB Try.underlying31 rfl LA) ?_
  refine RBS rfl rfl rfl (nI ((ps.take (i + 1)).flatten.length)) (by rw [wrap_i64 (by omega) (by omega), flatten_take_succ hget, List.length_append]; congr 1) ?_
  refine RA rfl ?_
  refine RN ?_
  refine End.normal_block ?_
  refine EN ?_
  refine GE ?_
  refine TL ?_
  refine RBS rfl rfl rfl (nI (i + 1)) (by rw [wrap_i64 (by omega) (by omega)]; congr 1) ?_
  refine RM rfl ?_
  refine RN ?_
  refine End.normal_then ?_
  refine End.again (i + 1) ?_ ?_ ?_
  ·show _ ≤ _; omega
  ·show _ - _ < _ - _; omega
  ·exact (KC 0 rfl (KC 3 rfl (KC 10 rfl (KC 11 rfl (KC 12 rfl KN)))))
 ·have hi2 : i = ps.length := by simp at hc13; omega
  refine A.exit ?_
  refine End.exit_then ?_
  refine End.exit_then ?_
  refine End.exit_here ?_
  refine EN ?_
  refine GS ?_
  refine TL ?_
  refine RM rfl ?_
  refine RS (ok_make ps.flatten.length Try.underlying31 info5 (by decide) rfl rfl rfl (by rw [hi2, List.take_length]) (by rw [hi2, List.take_length]) (by omega)) ?_
  refine RA rfl ?_
  refine RN ?_
  refine A.open (t := 6) (k := 1000000) rfl fun b hb => ?_
  refine GS ?_
  refine TL ?_
  refine RA rfl ?_
  refine RN ?_
  refine A.seq ?_
  refine GS ?_
  refine TL ?_
  refine RM rfl ?_
  refine RS (ok_len Try.underlying77 rfl LA) ?_; refine RZ (.int .i64 (ps.length : Int)) (by simp) ?_
  refine RM rfl ?_
  refine RN ?_
  refine A.block ?_
  refine A.loop (ι := Nat) (fun i => i ≤ ps.length) (fun i => [(6, .v (.slice (some ⟨b, 0, none⟩) ps.flatten.length ps.flatten.length)), (7, .v (nI ((ps.take i).flatten.length))), (23, old w₀.heap.size (lst (ps.map byt))), (24, .v (.int .i64 (ps.length : Int))), (25, .v (.int .i64 (i : Int))), (1000000, blk b 5 ((ps.take i).flatten.map byteV ++ List.replicate (ps.flatten.length - (ps.take i).flatten.length) (.int .u8 0)))]) (fun i => ps.length - i) 0 ?_ ?_ ?_
  ·exact Nat.zero_le _
  ·exact (KE 6 rfl (by simp) (KC 7 rfl (KC 23 rfl (KC 24 rfl (KC 25 rfl (KE 1000000 rfl (by simp) KN))))))
  intro i hi
  refine GS ?_
  refine TL ?_
  refine RB rfl rfl rfl ?_
  refine RN ?_
  refine A.seq ?_
  refine A.cond rfl (fun hc26 => ?_) (fun hc26 => ?_)
  ·have hlt : i < ps.length := by simpa using hc26
   have hget : ps[i]? = some ps[i] := List.getElem?_eq_getElem hlt
   have hT := flatten_take_le ps (i + 1)
   rw [flatten_take_succ hget, List.length_append] at hT
   refine A.skip ?_
   refine EN ?_
   refine A.seq ?_
   refine A.block ?_
   refine GS ?_
   refine TL ?_
   refine RS (ok_index (d := byt ps[i]) Try.underlying77 info31 rfl LA rfl (by omega) (by simp [hlt])) ?_
   refine RS (ok_load Try.underlying31 rfl rfl) ?_
   refine RA rfl ?_
   refine RN ?_
   refine GE ?_
   refine TF 5 ?_
   refine RM rfl ?_
   refine RM rfl ?_
   refine RM rfl ?_
   refine RS (ok_sliceV (ps.take i).flatten.length Try.underlying31 info5 rfl rfl (by omega) (Nat.le_refl _)) ?_
   refine RM rfl ?_
   refine RN ?_
   refine ⟨_, eff_copy (s := 1000000) (l := ps[i]) Try.underlying31 info5 rfl rfl (Le.refl _) (by omega) hb rfl (by simp only [List.length_append, List.length_map, List.length_replicate]; split <;> omega) (by decide) (Left.cons (t := 6) rfl (Stays.v _ _) (Left.cons (t := 23) rfl (Stays.old _ _) (Left.cons (t := 24) rfl (Stays.v _ _) (Left.cons (t := 25) rfl (Stays.v _ _) (Left.cons (t := 29) rfl (Stays.v _ _) Left.nil))))), ?_⟩
   refine TL ?_
   refine RBS rfl rfl rfl (nI ((ps.take (i + 1)).flatten.length)) (by rw [wrap_i64 (by omega) (by omega), flatten_take_succ hget, List.length_append]; congr 1) ?_
   refine RA rfl ?_
   refine RN ?_
   refine End.normal_block ?_
   refine EN ?_
   refine GE ?_
   refine TL ?_
   refine RBS rfl rfl rfl (nI (i + 1)) (by rw [wrap_i64 (by omega) (by omega)]; congr 1) ?_
   refine RM rfl ?_
   refine RN ?_
   refine End.normal_then ?_
   refine End.again (i + 1) ?_ ?_ ?_
   ·show _ ≤ _; omega
   ·show _ - _ < _ - _; omega
   ·exact (KC 6 rfl (KC 7 rfl (KC 23 rfl (KC 24 rfl (KC 25 rfl (KE 1000000 rfl (congrArg _ (copy_step hget (by omega) rfl)) KN))))))
  ·have hi2 : i = ps.length := by simp at hc26; omega
   refine A.exit ?_
   refine End.exit_then ?_
   refine End.exit_then ?_
   refine End.exit_here ?_
   refine EN ?_
   refine GS ?_
   refine TL ?_
   refine RM rfl ?_
   refine RA rfl ?_
   refine RN ?_
   refine A.ret ?_
   subst hi2
   exact End.fresh rfl hb rfl (by rw [List.length_map]) (k := 1000000) rfl (by rw [List.take_length, Nat.sub_self, List.replicate_zero, List.append_nil])
theorem Join_fn (ps : List (List UInt8)) (hps : ps.length ≤ 1000000) (htot : ps.flatten.length ≤ 1000000) : Fn Try.prog 28 [lst (ps.map byt)] (bytes ps.flatten ps.flatten.length) :=
 (Join_fnB ps hps htot).fn fun _ => fresh_bytes rfl (by simp only [maxLen]; omega)
-- caisson/words.Xor: not at this seat
-- caisson/caissonref01.Xor: not at this seat
end Go.Proofs.Ytbmpjeheaemgmaa
