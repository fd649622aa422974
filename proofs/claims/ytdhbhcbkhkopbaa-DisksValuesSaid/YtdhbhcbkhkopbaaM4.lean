/-
  OWN TEXTS of this seat, put together, part 4: C14f, C14g, Rets, Vars, VarF, C14h, Law9, Law12, C14i, OwnV.
-/
import Derived.Test.YtdhbhcbkhkopbaaM1
import Derived.Test.YtdhbhcbkhkopbaaM3
import Derived.Test.YtdhbhcbkhkopbaaM2
import Derived.SizedLaws
namespace Go.Proofs.Ytdhbhcbkhkopbaa
open Go Go.RowKit
set_option linter.unusedVariables false
set_option maxRecDepth 20000
set_option linter.unusedSimpArgs false
theorem conD_byt {lo : Nat} {e : TypeId} {c : Con} : Le (conD lo e c) (byt (c.getD [])) := by
 cases c with
 | none => exact fun B w x h => byt_nil_le _ _ _ h
 | some l => exact conD_bytes.trans (le_byt _ _)
theorem presU_pre (S : Dk) (i : Nat) : ∀ j, i ≤ j → ∃ r, presU S j = presU S i ++ r := by
 intro j
 induction j with
 | zero => intro h; exact ⟨[], by rw [show i = 0 from by omega, List.append_nil]⟩
 | succ j ih =>
  intro h
  rcases Nat.lt_or_ge j i with h1 | h1
  ·exact ⟨[], by rw [show i = j + 1 from by omega, List.append_nil]⟩
  ·obtain ⟨r, hr⟩ := ih h1
   cases hp : (lastC (hisC S j)).isSome with
   | true => exact ⟨r ++ [nI j], by rw [← presU_y hp, hr, List.append_assoc]⟩
   | false => exact ⟨r, by rw [← presU_n hp, hr]⟩
theorem presV_U (S : Dk) : presV S = presU S S.length := rfl
theorem presV_at {S : Dk} {i : Nat} (hi : i < S.length) (hp : (lastC (hisC S i)).isSome = true) : (presV S)[(presU S i).length]? = some (nI i) := by
 obtain ⟨r, hr⟩ := presU_pre S (i + 1) S.length hi
 rw [presV_U, hr, ← presU_y hp, List.append_assoc, List.getElem?_append_right (Nat.le_refl _), Nat.sub_self]; rfl
theorem presV_lt {S : Dk} {i : Nat} (hi : i < S.length) (hp : (lastC (hisC S i)).isSome = true) : (presU S i).length < (presV S).length := (List.getElem?_eq_some_iff.1 (presV_at hi hp)).1

theorem content_n (lo : Nat) : Fn Try.prog 19 [conD lo 5 (none), .v (.int .i64 (errC (none))), .v (aggV (cV (none)))] (.v (nI (1))) := by
 refine Fn.of Try.func19 rfl (by kernel_rfl) Try.ntmps19 (by simp) (fun w => [(0, old w.heap.size (conD lo 5 (none))), (1, .v (.int .i64 (errC (none)))), (2, .v (aggV (cV (none))))]) (fun w => (Start.old rfl (Start.v rfl (Start.v rfl Start.nil)))) fun w₀ => ?_
 refine GS ?_
 refine TN 0 ?_
 refine RN ?_
 refine ⟨_, _, eff_box (n := 33) (d := 5) (k := 1000005) rfl (by decide), fun b5 hb5 => ?_⟩
 have hBb5 := hb5.1
 refine TL ?_
 refine RA rfl ?_
 refine RN ?_
 refine A.seq ?_
 refine GS ?_
 refine TL ?_
 refine RS (ok_field field51_0 (by decide) rfl) ?_
 refine RS (ok_loadV (s := 1000005) (by decide) Try.underlying4 rfl rfl rfl (rfl)) ?_
 refine RS (ok_not rfl) ?_; refine RZ (.bool true) (rfl) ?_
 refine RN ?_
 refine A.yes rfl ?_
 refine A.seq ?_
 refine GS ?_
 refine TL ?_
 refine RM rfl ?_
 refine RBS rfl rfl rfl (.bool true) (rfl) ?_
 refine RM rfl ?_
 refine RQ (ok_move rfl) ?_
 refine RQ (ok_lenB Try.underlying37 rfl ((Le.old _ _).trans conD_byt)) ?_
 refine RQ (ok_bin rfl rfl rfl) ?_; refine RZ (.bool true) (rfl) ?_
 refine RP rfl rfl ?_
 refine RN ?_
 refine A.yes rfl ?_
 refine GS ?_
 refine TL ?_
 refine RA rfl ?_
 refine RN ?_
 refine A.ret ?_
 refine End.ret_then ?_
 refine End.ret_then ?_
 exact End.ret1 rfl rfl (by first | exact Le.refl _ | exact Le.old _ _)
theorem content_s (lo : Nat) (l : List UInt8) : Fn Try.prog 19 [conD lo 5 (some l), .v (.int .i64 (errC (some l))), .v (aggV (cV (some l)))] (.v (nI (1))) := by
 refine Fn.of Try.func19 rfl (by kernel_rfl) Try.ntmps19 (by simp) (fun w => [(0, old w.heap.size (conD lo 5 (some l))), (1, .v (.int .i64 (errC (some l)))), (2, .v (aggV (cV (some l))))]) (fun w => (Start.old rfl (Start.v rfl (Start.v rfl Start.nil)))) fun w₀ => ?_
 refine GS ?_
 refine TN 0 ?_
 refine RN ?_
 refine ⟨_, _, eff_box (n := 33) (d := 5) (k := 1000005) rfl (by decide), fun b5 hb5 => ?_⟩
 have hBb5 := hb5.1
 refine TL ?_
 refine RA rfl ?_
 refine RN ?_
 refine A.seq ?_
 refine GS ?_
 refine TL ?_
 refine RS (ok_field field51_0 (by decide) rfl) ?_
 refine RS (ok_loadV (s := 1000005) (by decide) Try.underlying4 rfl rfl rfl (rfl)) ?_
 refine RS (ok_not rfl) ?_; refine RZ (.bool false) (rfl) ?_
 refine RN ?_
 refine A.no rfl ?_
 refine A.skip ?_
 refine EN ?_
 refine A.seq ?_
 refine GS ?_
 refine TL ?_
 refine RM rfl ?_
 refine RBS rfl rfl rfl (.bool false) (rfl) ?_
 refine RM rfl ?_
 refine RQ (ok_move rfl) ?_
 refine RQ (ok_str (l := l) Try.underlying37 Try.underlying5 Try.underlying9 rfl ((Le.old _ _).trans conD_byt)) ?_
 refine RQ (ok_field field51_1 (by decide) rfl) ?_
 refine RQ (ok_loadV (s := 1000005) (by decide) Try.underlying9 rfl rfl rfl (rfl)) ?_
 refine RQ (ok_sne (a := l) (b := l) rfl rfl) ?_; refine RZ (.bool false) (by simp) ?_
 refine RP rfl rfl ?_
 refine RM rfl ?_
 refine RQ (ok_move rfl) ?_
 refine RQ (ok_cap Try.underlying37 rfl ((Le.old _ _).trans conD_bytes)) ?_
 refine RQ (ok_move rfl) ?_
 refine RQ (ok_lenB Try.underlying37 rfl ((Le.old _ _).trans conD_byt)) ?_
 refine RQ (ok_bin rfl rfl rfl) ?_; refine RZ (.bool false) (by simp) ?_
 refine RP rfl rfl ?_
 refine RN ?_
 refine A.no rfl ?_
 refine A.skip ?_
 refine EN ?_
 refine GS ?_
 refine TL ?_
 refine RA rfl ?_
 refine RN ?_
 refine A.ret ?_
 exact End.ret1 rfl rfl (by first | exact Le.refl _ | exact Le.old _ _)
theorem content_fn (lo : Nat) (c : Con) : Fn Try.prog 19 [conD lo 5 (c), .v (.int .i64 (errC (c))), .v (aggV (cV (c)))] (.v (nI (1))) := by
 cases c with
 | none => exact content_n lo
 | some l => exact content_s lo l
set_option maxHeartbeats 2000000 in
theorem equal_fn (X : Nat → Prop) (S : Dk) (hn : S.length ≤ 10922) (ht : totC S ≤ 1000000) : Fn Try.prog 12 [diskD dT X S, refD 61 51 (S)] (.v (nI (1))) := by
 refine Fn.of Try.func12 rfl (by kernel_rfl) Try.ntmps12 (by simp) (fun w => [(0, old w.heap.size (diskD dT X S)), (1, old w.heap.size (refD 61 51 (S)))]) (fun w => (Start.old rfl (Start.old rfl Start.nil))) fun w₀ => ?_
 refine A.nameTl (t := 0) (k := 1000200) rfl fun v hv1 => ?_
 refine A.nameTl (t := 1) (k := 1000201) rfl fun v' hv'1 => ?_
 refine GS ?_
 refine TN 0 ?_
 refine RN ?_
 refine ⟨_, _, eff_box (n := 122) (d := 2) (k := 1000002) rfl (by decide), fun b2 hb2 => ?_⟩
 have hBb2 := hb2.1
 refine TN 1 ?_
 refine RN ?_
 refine ⟨_, _, eff_box (n := 122) (d := 3) (k := 1000003) rfl (by decide), fun b3 hb3 => ?_⟩
 have hBb3 := hb3.1
 refine TL ?_
 refine RA rfl ?_
 refine RN ?_
 refine A.seq ?_
 refine GD ?_
 refine TL ?_
 refine RS (OpOk.tlO (k := 1000200) [nI S.length, nI (totC S)] (ok_loadA (s := 1000002) (by decide) Try.underlying27 rfl (size27.of (rfl)) rfl rfl) rfl hv1 (by decide) rfl) ?_
 refine RS (ok_call (dSize_fn S.length) (Args.cons rfl ((Le.old _ _).trans disk_sz) Args.nil)) ?_
 refine RS (ok_field field34_0 (by decide) rfl) ?_
 refine RS (OpOk.valO (k := 1000201) (ok_loadV (s := 1000003) (by decide) Try.underlying32 rfl rfl rfl (rfl)) (by decide) rfl) ?_
 refine RS (ok_len Try.underlying32 rfl ((Le.old _ _).trans lstT_lst)) ?_; refine RZ (nI (S.length)) (by rw [List.length_map]) ?_
 refine RBS rfl rfl rfl (.bool false) (by simp) ?_
 refine RN ?_
 refine A.no rfl ?_
 refine A.skip ?_
 refine EN ?_
 refine GS ?_
 refine TL ?_
 refine RA rfl ?_
 refine RN ?_
 refine GS ?_
 refine TL ?_
 refine RS (OpOk.tlO (k := 1000200) [nI S.length, nI (totC S)] (ok_loadA (s := 1000002) (by decide) Try.underlying27 rfl (size27.of (rfl)) rfl rfl) rfl hv1 (by decide) rfl) ?_
 refine RS (ok_call (dPresent_fn X S hn) (Args.cons rfl (Le.old _ _) Args.nil)) ?_
 refine RA rfl ?_
 refine RN ?_
 refine GS ?_
 refine TL ?_
 refine RA rfl ?_
 refine RN ?_
 refine A.seq ?_
 refine GS ?_
 refine TL ?_
 refine RA rfl ?_
 refine RN ?_
 refine A.block ?_
 refine A.loop (ι := Nat) (fun i => i ≤ S.length) (fun i => [(2, .v (ptr b2)), (3, .v (ptr b3)), (5, .v (nI (totC (S.take i)))), (6, vlist (presV S) (presV S).length), (7, .v (nI ((presU S i).length))), (8, .v (nI (i))), (1000002, blk b2 27 [nI S.length, nI (totC S), v]), (1000003, blk b3 34 [v']), (1000200, old w₀.heap.size (valM v (partsD' dT X S))), (1000201, old w₀.heap.size (valM v' (lstT 61 (S.map (rowT 51)))))]) (fun i => S.length - i) 0 ?_ ?_ ?_
 ·exact Nat.zero_le _
 ·exact (KC 2 rfl (KC 3 rfl (KE 5 rfl (by rfl) (KC 6 rfl (KE 7 rfl (by rfl) (KE 8 rfl (by rfl) (KC 1000002 rfl (KC 1000003 rfl (KC 1000200 rfl (KC 1000201 rfl KN))))))))))
 intro i hG
 refine A.seq ?_
 refine GS ?_
 refine TL ?_
 refine RM rfl ?_
 refine RS (ok_field field34_0 (by decide) rfl) ?_
 refine RS (OpOk.valO (k := 1000201) (ok_loadV (s := 1000003) (by decide) Try.underlying32 rfl rfl rfl (rfl)) (by decide) rfl) ?_
 refine RS (ok_len Try.underlying32 rfl ((Le.old _ _).trans lstT_lst)) ?_; refine RZ (nI (S.length)) (by rw [List.length_map]) ?_
 refine RB rfl rfl rfl ?_
 refine RN ?_
 refine A.cond rfl (fun hc25 => ?_) (fun hc25 => ?_)
 ·have hi : i < S.length := by simp at hc25; omega
  have hle := his_le S i
  refine A.skip ?_
  refine EN ?_
  refine A.seq ?_
  refine A.block ?_
  refine GS ?_
  refine TL ?_
  refine RS (OpOk.tlO (k := 1000200) [nI S.length, nI (totC S)] (ok_loadA (s := 1000002) (by decide) Try.underlying27 rfl (size27.of (rfl)) rfl rfl) rfl hv1 (by decide) rfl) ?_
  refine RM rfl ?_
  refine RS (ok_callB (dRead_fn X S i hi hn) con_tup_mono (Args.cons rfl (Le.old _ _) (Args.cons rfl LA Args.nil))) ?_
  refine RM rfl ?_
  refine RS (ok_extract rfl rfl) ?_
  refine RS (ok_extract rfl rfl) ?_
  refine RA rfl ?_
  refine RA rfl ?_
  refine RN ?_
  refine A.seq ?_
  refine GS ?_
  refine TL ?_
  refine RM rfl ?_
  refine RM rfl ?_
  refine RS (OpOk.tlO (k := 1000201) [] (ok_loadA (s := 1000003) (by decide) Try.underlying34 rfl (size34.of (rfl)) rfl rfl) rfl hv'1 (by decide) rfl) ?_
  refine RM rfl ?_
  refine RS (ok_call (rLast_fn S (by omega) (by omega) i hi) (Args.cons rfl (Le.old _ _) (Args.cons rfl LA Args.nil))) ?_
  refine RS (ok_call (content_fn w₀.heap.size (lastC (hisC S i))) (Args.cons rfl LA (Args.cons rfl LA (Args.cons rfl LA Args.nil)))) ?_
  refine RBS rfl rfl rfl (.bool false) (rfl) ?_
  refine RN ?_
  refine A.no rfl ?_
  refine A.skip ?_
  refine EN ?_
  refine A.seq ?_
  refine GS ?_
  refine TL ?_
  refine RS (OpOk.tlO (k := 1000201) [] (ok_loadA (s := 1000003) (by decide) Try.underlying34 rfl (size34.of (rfl)) rfl rfl) rfl hv'1 (by decide) rfl) ?_
  refine RM rfl ?_
  refine RS (ok_call (rLast_fn S (by omega) (by omega) i hi) (Args.cons rfl (Le.old _ _) (Args.cons rfl LA Args.nil))) ?_
  refine RS (ok_fieldV (off := 0) (by kernel_rfl) rfl rfl) ?_
  refine RN ?_
  refine A.cond rfl (fun hc44 => ?_) (fun hc44 => ?_)
  ·have hp : (lastC (hisC S i)).isSome = true := by simpa using hc44
   have hpl := presV_lt hi hp
   refine A.seq ?_
   refine GS ?_
   refine TL ?_
   refine RM rfl ?_
   refine RM rfl ?_
   refine RS (ok_lenU (presV S).length Try.underlying67 rfl (le_vlst _ _) rfl) ?_
   refine RBS rfl rfl rfl (.bool false) (congrArg Value.bool (decide_eq_false (by omega))) ?_
   refine RM rfl ?_
   refine RQ (ok_move rfl) ?_
   refine RQ (ok_move rfl) ?_
   refine RQ (ok_indexU (presU S i).length Try.underlying67 info3 rfl (le_vlst _ _) rfl (presV_at hi hp)) ?_
   refine RQ (ok_load Try.underlying3 rfl rfl) ?_
   refine RQ (ok_move rfl) ?_
   refine RQ (ok_bin rfl rfl rfl) ?_; refine RZ (.bool false) (by simp) ?_
   refine RP rfl rfl ?_
   refine RN ?_
   refine A.sub (KC 2 rfl (KC 3 rfl (KC 5 rfl (KC 6 rfl (KC 7 rfl (KC 8 rfl (KC 56 rfl (KC 1000002 rfl (KC 1000003 rfl (KC 1000200 rfl (KC 1000201 rfl KN))))))))))) ?_
   refine A.no rfl ?_
   refine A.skip ?_
   refine EN ?_
   refine GE ?_
   refine TL ?_
   refine RM rfl ?_
   refine RBS rfl rfl rfl (nI ((presU S (i + 1)).length)) (wrap_eq (by rw [← presU_y hp, List.length_append]; simp) (by have := presU_len S (i + 1); omega)) ?_
   refine RA rfl ?_
   refine RN ?_
   refine EN ?_
   refine GS ?_
   refine TL ?_
   refine RS (OpOk.tlO (k := 1000200) [nI S.length, nI (totC S)] (ok_loadA (s := 1000002) (by decide) Try.underlying27 rfl (size27.of (rfl)) rfl rfl) rfl hv1 (by decide) rfl) ?_
   refine RM rfl ?_
   refine RS (ok_call (dVersions_fn X S i hi hn) (Args.cons rfl (Le.old _ _) (Args.cons rfl LA Args.nil))) ?_
   refine RM rfl ?_
   refine RS (ok_extractV rfl rfl) ?_
   refine RS (ok_extractV rfl rfl) ?_
   refine RA rfl ?_
   refine RA rfl ?_
   refine RN ?_
   refine A.seq ?_
   refine GS ?_
   refine TL ?_
   refine RM rfl ?_
   refine RBS rfl rfl rfl (.bool false) (rfl) ?_
   refine RM rfl ?_
   refine RQ (ok_move rfl) ?_
   refine RQ (ok_field field34_0 (by decide) rfl) ?_
   refine RQ (OpOk.valO (k := 1000201) (ok_loadV (s := 1000003) (by decide) Try.underlying32 rfl rfl rfl (rfl)) (by decide) rfl) ?_
   refine RQ (ok_move rfl) ?_
   refine RQ (ok_index (j := ((i : Nat) : Int)) Try.underlying32 info61 rfl ((Le.old _ _).trans lstT_lst) rfl (by omega) (row_getI hi)) ?_
   refine RQ (ok_load Try.underlying61 rfl rfl) ?_
   refine RQ (ok_lenRD Try.underlying61 rfl rowT_row) ?_
   refine RQ (ok_bin rfl rfl rfl) ?_; refine RZ (nI ((hisC S i).length)) (wrap_eq (by omega) (by omega)) ?_
   refine RQ (ok_bin rfl rfl rfl) ?_; refine RZ (.bool false) (by simp) ?_
   refine RP rfl rfl ?_
   refine RN ?_
   refine A.no rfl ?_
   refine A.skip ?_
   refine EN ?_
   refine GS ?_
   refine TL ?_
   refine RM rfl ?_
   refine RM rfl ?_
   refine RBS rfl rfl rfl (nI (totC (S.take (i + 1)))) (wrap_eq (by rw [totC_take hi]; omega) (by have := totC_take_le S (i + 1); omega)) ?_
   refine RA rfl ?_
   refine RN ?_
   refine A.sub (KC 2 rfl (KC 3 rfl (KC 5 rfl (KC 6 rfl (KC 7 rfl (KC 8 rfl (KC 11 rfl (KC 1000002 rfl (KC 1000003 rfl (KC 1000200 rfl (KC 1000201 rfl KN))))))))))) ?_
   refine GS ?_
   refine TL ?_
   refine RA rfl ?_
   refine RN ?_
   refine A.block ?_
   refine A.loop (ι := Nat) (fun j => j ≤ (hisC S i).length + 1) (fun j => [(2, .v (ptr b2)), (3, .v (ptr b3)), (5, .v (nI (totC (S.take (i + 1))))), (6, vlist (presV S) (presV S).length), (7, .v (nI ((presU S (i + 1)).length))), (8, .v (nI (i))), (11, .v (nI ((hisC S i).length))), (12, .v (nI (j))), (1000002, blk b2 27 [nI S.length, nI (totC S), v]), (1000003, blk b3 34 [v']), (1000200, old w₀.heap.size (valM v (partsD' dT X S))), (1000201, old w₀.heap.size (valM v' (lstT 61 (S.map (rowT 51)))))]) (fun j => (hisC S i).length + 1 - j) 0 ?_ ?_ ?_
   ·exact Nat.zero_le _
   ·exact (KC 2 rfl (KC 3 rfl (KC 5 rfl (KC 6 rfl (KE 7 rfl (by first | rfl | rw [presU_n hp]) (KC 8 rfl (KC 11 rfl (KE 12 rfl (by rfl) (KC 1000002 rfl (KC 1000003 rfl (KC 1000200 rfl (KC 1000201 rfl KN))))))))))))
   intro j hJ
   replace hJ : j ≤ (hisC S i).length + 1 := hJ
   refine A.seq ?_
   refine GS ?_
   refine TL ?_
   refine RM rfl ?_
   refine RM rfl ?_
   refine RB rfl rfl rfl ?_
   refine RN ?_
   refine A.cond rfl (fun hc83 => ?_) (fun hc83 => ?_)
   ·have hj : j ≤ (hisC S i).length := by simp at hc83; omega
    refine A.skip ?_
    refine EN ?_
    refine A.seq ?_
    refine A.block ?_
    refine GS ?_
    refine TL ?_
    refine RS (OpOk.tlO (k := 1000200) [nI S.length, nI (totC S)] (ok_loadA (s := 1000002) (by decide) Try.underlying27 rfl (size27.of (rfl)) rfl rfl) rfl hv1 (by decide) rfl) ?_
    refine RM rfl ?_
    refine RM rfl ?_
    refine RS (ok_callB (dVersion_fn X S i hi hn j hj ht) con_tup_mono (Args.cons rfl (Le.old _ _) (Args.cons rfl LA (Args.cons rfl LA Args.nil)))) ?_
    refine RM rfl ?_
    refine RS (ok_extract rfl rfl) ?_
    refine RS (ok_extract rfl rfl) ?_
    refine RA rfl ?_
    refine RA rfl ?_
    refine RN ?_
    refine GS ?_
    refine TL ?_
    refine RM rfl ?_
    refine RM rfl ?_
    refine RS (ok_field field34_0 (by decide) rfl) ?_
    refine RS (OpOk.valO (k := 1000201) (ok_loadV (s := 1000003) (by decide) Try.underlying32 rfl rfl rfl (rfl)) (by decide) rfl) ?_
    refine RM rfl ?_
    refine RS (ok_index (j := ((i : Nat) : Int)) Try.underlying32 info61 rfl ((Le.old _ _).trans lstT_lst) rfl (by omega) (row_getI hi)) ?_
    refine RS (ok_load Try.underlying61 rfl rfl) ?_
    refine RM rfl ?_
    refine RS (ok_indexRD j Try.underlying61 infoPW rfl rowT_row rfl (by omega) (by rw [rowC_length]; omega)) ?_
    refine RS (ok_loadC Try.underlying51 rfl size51 hj rfl) ?_
    refine RS (ok_call (content_fn w₀.heap.size (atC (hisC S i) j)) (Args.cons rfl LA (Args.cons rfl LA (Args.cons rfl LA Args.nil)))) ?_
    refine RBS rfl rfl rfl (.bool false) (rfl) ?_
    refine RN ?_
    refine A.no rfl ?_
    refine A.skip ?_
    refine End.normal_block ?_
    refine EN ?_
    refine GE ?_
    refine TL ?_
    refine RM rfl ?_
    refine RBS rfl rfl rfl (nI (j + 1)) (wrap_eq (by omega) (by omega)) ?_
    refine RA rfl ?_
    refine RN ?_
    refine End.sub (KC 2 rfl (KC 3 rfl (KC 5 rfl (KC 6 rfl (KC 7 rfl (KC 8 rfl (KC 11 rfl (KC 12 rfl (KC 1000002 rfl (KC 1000003 rfl (KC 1000200 rfl (KC 1000201 rfl KN)))))))))))) ?_
    refine End.normal_then ?_
    refine End.again (j + 1) ?_ ?_ ?_
    ·show _ ≤ _; omega
    ·show _ - _ < _ - _; omega
    ·exact (KC 2 rfl (KC 3 rfl (KC 5 rfl (KC 6 rfl (KC 7 rfl (KC 8 rfl (KC 11 rfl (KC 12 rfl (KC 1000002 rfl (KC 1000003 rfl (KC 1000200 rfl (KC 1000201 rfl KN))))))))))))
   ·have hj2 : j = (hisC S i).length + 1 := by have := hJ; simp at hc83; omega
    refine A.exit ?_
    refine End.exit_then ?_
    refine End.exit_then ?_
    refine End.exit_here ?_
    refine End.normal_block ?_
    refine EN ?_
    refine GE ?_
    refine TL ?_
    refine RM rfl ?_
    refine RBS rfl rfl rfl (nI (i + 1)) (wrap_eq (by omega) (by omega)) ?_
    refine RA rfl ?_
    refine RN ?_
    refine End.normal_then ?_
    refine End.again (i + 1) ?_ ?_ ?_
    ·show _ ≤ _; omega
    ·show _ - _ < _ - _; omega
    ·exact (KC 2 rfl (KC 3 rfl (KC 5 rfl (KC 6 rfl (KE 7 rfl (by first | rfl | rw [presU_n hp]) (KC 8 rfl (KC 1000002 rfl (KC 1000003 rfl (KC 1000200 rfl (KC 1000201 rfl KN))))))))))
  ·have hp : (lastC (hisC S i)).isSome = false := by simpa using hc44
   refine A.skip ?_
   refine EN ?_
   refine GS ?_
   refine TL ?_
   refine RS (OpOk.tlO (k := 1000200) [nI S.length, nI (totC S)] (ok_loadA (s := 1000002) (by decide) Try.underlying27 rfl (size27.of (rfl)) rfl rfl) rfl hv1 (by decide) rfl) ?_
   refine RM rfl ?_
   refine RS (ok_call (dVersions_fn X S i hi hn) (Args.cons rfl (Le.old _ _) (Args.cons rfl LA Args.nil))) ?_
   refine RM rfl ?_
   refine RS (ok_extractV rfl rfl) ?_
   refine RS (ok_extractV rfl rfl) ?_
   refine RA rfl ?_
   refine RA rfl ?_
   refine RN ?_
   refine A.sub (KC 2 rfl (KC 3 rfl (KC 5 rfl (KC 6 rfl (KC 7 rfl (KC 8 rfl (KC 10 rfl (KC 11 rfl (KC 1000002 rfl (KC 1000003 rfl (KC 1000200 rfl (KC 1000201 rfl KN)))))))))))) ?_
   refine A.seq ?_
   refine GS ?_
   refine TL ?_
   refine RM rfl ?_
   refine RBS rfl rfl rfl (.bool false) (rfl) ?_
   refine RM rfl ?_
   refine RQ (ok_move rfl) ?_
   refine RQ (ok_field field34_0 (by decide) rfl) ?_
   refine RQ (OpOk.valO (k := 1000201) (ok_loadV (s := 1000003) (by decide) Try.underlying32 rfl rfl rfl (rfl)) (by decide) rfl) ?_
   refine RQ (ok_move rfl) ?_
   refine RQ (ok_index (j := ((i : Nat) : Int)) Try.underlying32 info61 rfl ((Le.old _ _).trans lstT_lst) rfl (by omega) (row_getI hi)) ?_
   refine RQ (ok_load Try.underlying61 rfl rfl) ?_
   refine RQ (ok_lenRD Try.underlying61 rfl rowT_row) ?_
   refine RQ (ok_bin rfl rfl rfl) ?_; refine RZ (nI ((hisC S i).length)) (wrap_eq (by omega) (by omega)) ?_
   refine RQ (ok_bin rfl rfl rfl) ?_; refine RZ (.bool false) (by simp) ?_
   refine RP rfl rfl ?_
   refine RN ?_
   refine A.no rfl ?_
   refine A.skip ?_
   refine EN ?_
   refine GS ?_
   refine TL ?_
   refine RM rfl ?_
   refine RM rfl ?_
   refine RBS rfl rfl rfl (nI (totC (S.take (i + 1)))) (wrap_eq (by rw [totC_take hi]; omega) (by have := totC_take_le S (i + 1); omega)) ?_
   refine RA rfl ?_
   refine RN ?_
   refine GS ?_
   refine TL ?_
   refine RA rfl ?_
   refine RN ?_
   refine A.block ?_
   refine A.loop (ι := Nat) (fun j => j ≤ (hisC S i).length + 1) (fun j => [(2, .v (ptr b2)), (3, .v (ptr b3)), (5, .v (nI (totC (S.take (i + 1))))), (6, vlist (presV S) (presV S).length), (7, .v (nI ((presU S (i + 1)).length))), (8, .v (nI (i))), (11, .v (nI ((hisC S i).length))), (12, .v (nI (j))), (1000002, blk b2 27 [nI S.length, nI (totC S), v]), (1000003, blk b3 34 [v']), (1000200, old w₀.heap.size (valM v (partsD' dT X S))), (1000201, old w₀.heap.size (valM v' (lstT 61 (S.map (rowT 51)))))]) (fun j => (hisC S i).length + 1 - j) 0 ?_ ?_ ?_
   ·exact Nat.zero_le _
   ·exact (KC 2 rfl (KC 3 rfl (KC 5 rfl (KC 6 rfl (KE 7 rfl (by first | rfl | rw [presU_n hp]) (KC 8 rfl (KC 11 rfl (KE 12 rfl (by rfl) (KC 1000002 rfl (KC 1000003 rfl (KC 1000200 rfl (KC 1000201 rfl KN))))))))))))
   intro j hJ
   replace hJ : j ≤ (hisC S i).length + 1 := hJ
   refine A.seq ?_
   refine GS ?_
   refine TL ?_
   refine RM rfl ?_
   refine RM rfl ?_
   refine RB rfl rfl rfl ?_
   refine RN ?_
   refine A.cond rfl (fun hc83 => ?_) (fun hc83 => ?_)
   ·have hj : j ≤ (hisC S i).length := by simp at hc83; omega
    refine A.skip ?_
    refine EN ?_
    refine A.seq ?_
    refine A.block ?_
    refine GS ?_
    refine TL ?_
    refine RS (OpOk.tlO (k := 1000200) [nI S.length, nI (totC S)] (ok_loadA (s := 1000002) (by decide) Try.underlying27 rfl (size27.of (rfl)) rfl rfl) rfl hv1 (by decide) rfl) ?_
    refine RM rfl ?_
    refine RM rfl ?_
    refine RS (ok_callB (dVersion_fn X S i hi hn j hj ht) con_tup_mono (Args.cons rfl (Le.old _ _) (Args.cons rfl LA (Args.cons rfl LA Args.nil)))) ?_
    refine RM rfl ?_
    refine RS (ok_extract rfl rfl) ?_
    refine RS (ok_extract rfl rfl) ?_
    refine RA rfl ?_
    refine RA rfl ?_
    refine RN ?_
    refine GS ?_
    refine TL ?_
    refine RM rfl ?_
    refine RM rfl ?_
    refine RS (ok_field field34_0 (by decide) rfl) ?_
    refine RS (OpOk.valO (k := 1000201) (ok_loadV (s := 1000003) (by decide) Try.underlying32 rfl rfl rfl (rfl)) (by decide) rfl) ?_
    refine RM rfl ?_
    refine RS (ok_index (j := ((i : Nat) : Int)) Try.underlying32 info61 rfl ((Le.old _ _).trans lstT_lst) rfl (by omega) (row_getI hi)) ?_
    refine RS (ok_load Try.underlying61 rfl rfl) ?_
    refine RM rfl ?_
    refine RS (ok_indexRD j Try.underlying61 infoPW rfl rowT_row rfl (by omega) (by rw [rowC_length]; omega)) ?_
    refine RS (ok_loadC Try.underlying51 rfl size51 hj rfl) ?_
    refine RS (ok_call (content_fn w₀.heap.size (atC (hisC S i) j)) (Args.cons rfl LA (Args.cons rfl LA (Args.cons rfl LA Args.nil)))) ?_
    refine RBS rfl rfl rfl (.bool false) (rfl) ?_
    refine RN ?_
    refine A.no rfl ?_
    refine A.skip ?_
    refine End.normal_block ?_
    refine EN ?_
    refine GE ?_
    refine TL ?_
    refine RM rfl ?_
    refine RBS rfl rfl rfl (nI (j + 1)) (wrap_eq (by omega) (by omega)) ?_
    refine RA rfl ?_
    refine RN ?_
    refine End.sub (KC 2 rfl (KC 3 rfl (KC 5 rfl (KC 6 rfl (KC 7 rfl (KC 8 rfl (KC 11 rfl (KC 12 rfl (KC 1000002 rfl (KC 1000003 rfl (KC 1000200 rfl (KC 1000201 rfl KN)))))))))))) ?_
    refine End.normal_then ?_
    refine End.again (j + 1) ?_ ?_ ?_
    ·show _ ≤ _; omega
    ·show _ - _ < _ - _; omega
    ·exact (KC 2 rfl (KC 3 rfl (KC 5 rfl (KC 6 rfl (KC 7 rfl (KC 8 rfl (KC 11 rfl (KC 12 rfl (KC 1000002 rfl (KC 1000003 rfl (KC 1000200 rfl (KC 1000201 rfl KN))))))))))))
   ·have hj2 : j = (hisC S i).length + 1 := by have := hJ; simp at hc83; omega
    refine A.exit ?_
    refine End.exit_then ?_
    refine End.exit_then ?_
    refine End.exit_here ?_
    refine End.normal_block ?_
    refine EN ?_
    refine GE ?_
    refine TL ?_
    refine RM rfl ?_
    refine RBS rfl rfl rfl (nI (i + 1)) (wrap_eq (by omega) (by omega)) ?_
    refine RA rfl ?_
    refine RN ?_
    refine End.normal_then ?_
    refine End.again (i + 1) ?_ ?_ ?_
    ·show _ ≤ _; omega
    ·show _ - _ < _ - _; omega
    ·exact (KC 2 rfl (KC 3 rfl (KC 5 rfl (KC 6 rfl (KE 7 rfl (by first | rfl | rw [presU_n hp]) (KC 8 rfl (KC 1000002 rfl (KC 1000003 rfl (KC 1000200 rfl (KC 1000201 rfl KN))))))))))
 ·have hi2 : i = S.length := by simp at hc25; omega
  refine A.exit ?_
  refine End.exit_then ?_
  refine End.exit_then ?_
  refine End.exit_here ?_
  refine EN ?_
  refine A.seq ?_
  refine GS ?_
  refine TL ?_
  refine RM rfl ?_
  refine RM rfl ?_
  refine RS (ok_lenU (presV S).length Try.underlying67 rfl (le_vlst _ _) rfl) ?_
  refine RBS rfl rfl rfl (.bool false) (by simp [presV_U, hi2]) ?_
  refine RM rfl ?_
  refine RQ (ok_move rfl) ?_
  refine RQ (ok_capU Try.underlying67 rfl (Le.refl _)) ?_
  refine RQ (ok_move rfl) ?_
  refine RQ (ok_lenU (presV S).length Try.underlying67 rfl (le_vlst _ _) rfl) ?_
  refine RQ (ok_bin rfl rfl rfl) ?_; refine RZ (.bool false) (by simp) ?_
  refine RP rfl rfl ?_
  refine RM rfl ?_
  refine RQ (OpOk.tlO (k := 1000200) [nI S.length, nI (totC S)] (ok_loadA (s := 1000002) (by decide) Try.underlying27 rfl (size27.of (rfl)) rfl rfl) rfl hv1 (by decide) rfl) ?_
  refine RQ (ok_call (dChanges_fn X S) (Args.cons rfl (Le.old _ _) Args.nil)) ?_
  refine RQ (ok_move rfl) ?_
  refine RQ (ok_bin rfl rfl rfl) ?_; refine RZ (.bool false) (by simp [hi2]) ?_
  refine RP rfl rfl ?_
  refine RN ?_
  refine A.no rfl ?_
  refine A.skip ?_
  refine EN ?_
  refine GS ?_
  refine TL ?_
  refine RA rfl ?_
  refine RN ?_
  refine A.ret ?_
  exact End.ret1 rfl rfl (by first | exact Le.refl _ | exact Le.old _ _)
end Go.Proofs.Ytdhbhcbkhkopbaa
namespace Go.Proofs.Ytdhbhcbkhkopbaa
open Go Go.RowKit
set_option linter.unusedVariables false
set_option maxRecDepth 20000
set_option linter.unusedSimpArgs false

theorem dWrite_at (X : Nat → Prop) (S : Dk) (i : Nat) (hi : i < S.length) (hn : S.length ≤ 10922) (l : List UInt8) (S' : Dk) (hl : l.length ≤ 256) (ht : totC S ≤ 1000000) (h : S' = putC S i (some l)) : Fn Try.prog 23 [diskD dT X S, .v (nI (i)), byt l] (tup [diskD dT X S', .v (.int .i64 0)]) := by
 subst h
 exact dWrite_fn X S i hi hn l hl ht
theorem dErase_at (X : Nat → Prop) (S : Dk) (i : Nat) (hi : i < S.length) (hn : S.length ≤ 10922) (S' : Dk) (ht : totC S ≤ 1000000) (h : S' = putC S i none) : Fn Try.prog 22 [diskD dT X S, .v (nI (i))] (tup [diskD dT X S', .v (.int .i64 0)]) := by
 subst h
 exact dErase_fn X S i hi hn ht
theorem dReplay_at (X : Nat → Prop) (S : Dk) (i : Nat) (hi : i < S.length) (hn : S.length ≤ 10922) (m : Nat) (S' : Dk) (hm : m ≤ (hisC S i).length) (ht : totC S ≤ 1000000) (h : S' = putC S i (lastC ((hisC S i).drop m))) : Fn Try.prog 26 [diskD dT X S, .v (nI (i)), .v (nI (m))] (tup [diskD dT X S', .v (.int .i64 0)]) := by
 subst h
 exact dReplay_fn X S i hi hn m hm ht
theorem dRead_at (X : Nat → Prop) (S : Dk) (i : Nat) (hi : i < S.length) (hn : S.length ≤ 10922) (c : Con) (e : Int) (hc : c = lastC (hisC S i)) (he : e = errC c) : FnB Try.prog 18 [diskD dT X S, .v (nI (i))] (fun B => tup [conD B 5 c, .v (.int .i64 e)]) := by
 subst he hc
 exact dRead_fn X S i hi hn
theorem dVersion_at (X : Nat → Prop) (S : Dk) (i : Nat) (hi : i < S.length) (hn : S.length ≤ 10922) (j : Nat) (c : Con) (e : Int) (hj : j ≤ (hisC S i).length) (ht : totC S ≤ 1000000) (hc : c = atC (hisC S i) j) (he : e = errC c) : FnB Try.prog 25 [diskD dT X S, .v (nI (i)), .v (nI (j))] (fun B => tup [conD B 5 c, .v (.int .i64 e)]) := by
 subst he hc
 exact dVersion_fn X S i hi hn j hj ht
theorem dVersions_at (X : Nat → Prop) (S : Dk) (i : Nat) (hi : i < S.length) (hn : S.length ≤ 10922) (m : Nat) (hm : m = (hisC S i).length) : Fn Try.prog 24 [diskD dT X S, .v (nI (i))] (.v (.tuple #[nI m, .int .i64 0])) := by
 subst hm
 exact dVersions_fn X S i hi hn
set_option maxHeartbeats 4000000 in
theorem lives14_fn  : Fn Try.prog 15 [] (.v (.bool true)) := by
 refine Fn.of Try.func15 rfl (by kernel_rfl) Try.ntmps15 (by simp) (fun w => []) (fun w => Start.nil) fun w₀ => ?_
 refine GS ?_
 refine TL ?_
 refine RA rfl ?_
 refine RN ?_
 refine GS ?_
 refine TN 4 ?_
 refine RS (ok_call (dNew_ok 4 (by decide) (by decide)) (A1 rfl)) ?_
 refine RM rfl ?_
 refine RS (OpOk.le (d' := diskD dT X0 ([[], [], [], []] : Dk)) (ok_extract rfl rfl) (Le.eq rfl)) ?_
 refine RS (ok_extract rfl rfl) ?_
 refine RN ?_
 refine ⟨_, _, eff_alloc (n := 228) (d := 1) (k := 1000001) zero27 (by decide), fun b1 hb1 => ?_⟩
 have hBb1 := hb1.1
 refine TF 5 ?_
 refine RN ?_
 refine ⟨_, eff_storeK (n := 228) (s := 1000001) size27 rfl rfl (Le.refl _) (Agg.disk) hBb1 rfl (rfl) (Surv.disk (.inl (by decide))) (LV 1 rfl (LV 22 rfl LN)), ?_⟩
 refine TL ?_
 refine RA rfl ?_
 refine RN ?_
 refine GS ?_
 refine TF 6 ?_
 refine RS (ok_loadVK (s := 1000001) (by decide) Try.underlying27 rfl size27 rfl rfl) ?_
 refine RS (ok_build [_] Try.underlying37 info5 rfl (by decide) (by decide) rfl ⟨rfl, rfl, trivial⟩ (fun d hd w x h => by rw [List.mem_singleton.1 hd] at h; exact v_one rfl h)) ?_
 refine RS (ok_call (dWrite_at X0 ([[], [], [], []] : Dk) 2 (by decide) (by decide) [1] [[], [], [some [1]], []] (by decide) (by decide) rfl) (Args.cons rfl LA (Args.cons rfl LA (Args.cons rfl (list_lst1 (Le.v rfl)) Args.nil)))) ?_
 refine RM rfl ?_
 refine RS (ok_extract rfl rfl) ?_
 refine RS (ok_extract rfl rfl) ?_
 refine RN ?_
 refine ⟨_, eff_storeKK (n := 228) (s := 1000001) size27 rfl rfl (Le.refl _) (Agg.disk) hBb1 rfl (Surv.disk (.inl (by decide))) (LV 1 rfl (LV 2 rfl (LV 28 rfl LN))), ?_⟩
 refine TL ?_
 refine RA rfl ?_
 refine RN ?_
 refine GS ?_
 refine TF 6 ?_
 refine RS (ok_loadVK (s := 1000001) (by decide) Try.underlying27 rfl size27 rfl rfl) ?_
 refine RS (ok_build [_] Try.underlying37 info5 rfl (by decide) (by decide) rfl ⟨rfl, rfl, trivial⟩ (fun d hd w x h => by rw [List.mem_singleton.1 hd] at h; exact v_one rfl h)) ?_
 refine RS (ok_call (dWrite_at X0 ([[], [], [some [1]], []] : Dk) 2 (by decide) (by decide) [2] [[], [], [some [2], some [1]], []] (by decide) (by decide) rfl) (Args.cons rfl LA (Args.cons rfl LA (Args.cons rfl (list_lst1 (Le.v rfl)) Args.nil)))) ?_
 refine RM rfl ?_
 refine RS (ok_extract rfl rfl) ?_
 refine RS (ok_extract rfl rfl) ?_
 refine RN ?_
 refine ⟨_, eff_storeKK (n := 228) (s := 1000001) size27 rfl rfl (Le.refl _) (Agg.disk) hBb1 rfl (Surv.disk (.inl (by decide))) (LV 1 rfl (LV 2 rfl (LV 3 rfl (LV 34 rfl LN)))), ?_⟩
 refine TL ?_
 refine RA rfl ?_
 refine RN ?_
 refine GS ?_
 refine TL ?_
 refine RS (ok_loadVK (s := 1000001) (by decide) Try.underlying27 rfl size27 rfl rfl) ?_
 refine RS (ok_callB (dRead_at X0 ([[], [], [some [2], some [1]], []] : Dk) 2 (by decide) (by decide) (some [2]) 0 rfl rfl) con_tup_mono (A2 rfl rfl)) ?_
 refine RM rfl ?_
 refine RS (ok_extract rfl rfl) ?_
 refine RS (ok_extract rfl rfl) ?_
 refine RA rfl ?_
 refine RA rfl ?_
 refine RN ?_
 refine A.sub (KC 1 rfl (KC 2 rfl (KC 3 rfl (KC 4 rfl (KC 5 rfl (KC 6 rfl (KC 1000001 rfl KN))))))) ?_
 refine GS ?_
 refine TL ?_
 refine RS (ok_loadVK (s := 1000001) (by decide) Try.underlying27 rfl size27 rfl rfl) ?_
 refine RS (ok_callB (dRead_at X0 ([[], [], [some [2], some [1]], []] : Dk) 0 (by decide) (by decide) (none) 11 rfl rfl) con_tup_mono (A2 rfl rfl)) ?_
 refine RM rfl ?_
 refine RS (ok_extract rfl rfl) ?_
 refine RS (ok_extract rfl rfl) ?_
 refine RA rfl ?_
 refine RA rfl ?_
 refine RN ?_
 refine GS ?_
 refine TL ?_
 refine RS (ok_loadVK (s := 1000001) (by decide) Try.underlying27 rfl size27 rfl rfl) ?_
 refine RS (ok_call (dRead_bad 4 4 (by decide)) (Args.cons rfl (disk_sz) (Args.cons rfl LA Args.nil))) ?_
 refine RM rfl ?_
 refine RS (ok_extractV rfl rfl) ?_
 refine RS (ok_extractV rfl rfl) ?_
 refine RA rfl ?_
 refine RA rfl ?_
 refine RN ?_
 refine GS ?_
 refine TL ?_
 refine RS (ok_loadVK (s := 1000001) (by decide) Try.underlying27 rfl size27 rfl rfl) ?_
 refine RS (ok_call (dVersions_at X0 ([[], [], [some [2], some [1]], []] : Dk) 2 (by decide) (by decide) 2 rfl) (A2 rfl rfl)) ?_
 refine RM rfl ?_
 refine RS (ok_extractV rfl rfl) ?_
 refine RS (ok_extractV rfl rfl) ?_
 refine RA rfl ?_
 refine RA rfl ?_
 refine RN ?_
 refine A.seq ?_
 refine GS ?_
 refine TL ?_
 refine RM rfl ?_
 refine RM rfl ?_
 refine RB rfl rfl rfl ?_
 refine RM rfl ?_
 refine RB rfl rfl rfl ?_
 refine RM rfl ?_
 refine RB rfl rfl rfl ?_
 refine RM rfl ?_
 refine RB rfl rfl rfl ?_
 refine RBS rfl rfl rfl (.bool false) (rfl) ?_
 refine RM rfl ?_
 refine RQ (ok_move rfl) ?_
 refine RQ (ok_bin rfl rfl rfl) ?_; refine RZ (.bool false) (rfl) ?_
 refine RP rfl rfl ?_
 refine RM rfl ?_
 refine RQ (ok_move rfl) ?_
 refine RQ (ok_bin rfl rfl rfl) ?_; refine RZ (.bool false) (rfl) ?_
 refine RP rfl rfl ?_
 refine RM rfl ?_
 refine RQ (ok_loadVK (s := 1000001) (by decide) Try.underlying27 rfl size27 rfl rfl) ?_
 refine RQ (ok_call (dSize_fn 4) (Args.cons rfl (disk_sz) Args.nil)) ?_
 refine RQ (ok_bin rfl rfl rfl) ?_; refine RZ (.bool false) (rfl) ?_
 refine RP rfl rfl ?_
 refine RM rfl ?_
 refine RQ (ok_move rfl) ?_
 refine RQ (ok_str (l := [2]) Try.underlying37 Try.underlying5 Try.underlying9 rfl conD_byt) ?_
 refine RQ (ok_sne (a := [2]) (b := [2]) rfl rfl) ?_; refine RZ (.bool false) (by simp) ?_
 refine RP rfl rfl ?_
 refine RM rfl ?_
 refine RQ (ok_move rfl) ?_
 refine RQ (ok_bin rfl rfl rfl) ?_; refine RZ (.bool false) (rfl) ?_
 refine RP rfl rfl ?_
 refine RM rfl ?_
 refine RQ (ok_loadVK (s := 1000001) (by decide) Try.underlying27 rfl size27 rfl rfl) ?_
 refine RQ (ok_call (dPresent_fn X0 ([[], [], [some [2], some [1]], []] : Dk) (by decide)) (Args.cons rfl LA Args.nil)) ?_
 refine RQ (ok_lenU 1 Try.underlying67 rfl (le_vlst _ _) (by rfl)) ?_
 refine RQ (ok_bin rfl rfl rfl) ?_; refine RZ (.bool false) (rfl) ?_
 refine RP rfl rfl ?_
 refine RM rfl ?_
 refine RQ (ok_loadVK (s := 1000001) (by decide) Try.underlying27 rfl size27 rfl rfl) ?_
 refine RQ (ok_call (dChanges_fn X0 ([[], [], [some [2], some [1]], []] : Dk)) (Args.cons rfl LA Args.nil)) ?_
 refine RQ (ok_bin rfl rfl rfl) ?_; refine RZ (.bool false) (rfl) ?_
 refine RP rfl rfl ?_
 refine RN ?_
 refine A.sub (KC 1 rfl (KC 97 rfl (KC 1000001 rfl KN))) ?_
 refine A.no rfl ?_
 refine A.skip ?_
 refine EN ?_
 refine GS ?_
 refine TN 5 ?_
 refine RS (ok_loadVK (s := 1000001) (by decide) Try.underlying27 rfl size27 rfl rfl) ?_
 refine RS (ok_call (dReplay_at X0 ([[], [], [some [2], some [1]], []] : Dk) 2 (by decide) (by decide) 1 [[], [], [some [1], some [2], some [1]], []] (by decide) (by decide) rfl) (A3 rfl rfl rfl)) ?_
 refine RM rfl ?_
 refine RS (ok_extract rfl rfl) ?_
 refine RS (ok_extract rfl rfl) ?_
 refine RN ?_
 refine ⟨_, _, eff_allocV (n := 228) (d := 13) (k := 1000013) zero27 (by decide), fun b13 hb13 => ?_⟩
 have hBb13 := hb13.1
 have hlt_b1_b13 : b1 < b13 := hb13.2.2 1000001 _ _ _ _ rfl
 refine TF 6 ?_
 refine RN ?_
 refine ⟨_, eff_storeK (n := 228) (s := 1000013) size27 rfl rfl (Le.refl _) (Agg.disk) hBb13 rfl (rfl) (Surv.disk (.inl (by decide))) (LV 1 rfl (LV 13 rfl (LV 102 rfl (LeftS.cons (t := 1000001) rfl (Surv.varK (by omega) (Surv.disk (.inl (by decide)))) LN)))), ?_⟩
 refine TL ?_
 refine RA rfl ?_
 refine RN ?_
 refine GS ?_
 refine TN 5 ?_
 refine RS (ok_loadVK (s := 1000001) (by decide) Try.underlying27 rfl size27 rfl rfl) ?_
 refine RS (ok_call (dReplay_at X0 ([[], [], [some [2], some [1]], []] : Dk) 2 (by decide) (by decide) 2 [[], [], [none, some [2], some [1]], []] (by decide) (by decide) rfl) (A3 rfl rfl rfl)) ?_
 refine RM rfl ?_
 refine RS (ok_extract rfl rfl) ?_
 refine RS (ok_extract rfl rfl) ?_
 refine RN ?_
 refine ⟨_, _, eff_allocV (n := 228) (d := 14) (k := 1000014) zero27 (by decide), fun b14 hb14 => ?_⟩
 have hBb14 := hb14.1
 have hlt_b1_b14 : b1 < b14 := hb14.2.2 1000001 _ _ _ _ rfl
 have hlt_b13_b14 : b13 < b14 := hb14.2.2 1000013 _ _ _ _ rfl
 refine TF 6 ?_
 refine RN ?_
 refine ⟨_, eff_storeK (n := 228) (s := 1000014) size27 rfl rfl (Le.refl _) (Agg.disk) hBb14 rfl (rfl) (Surv.disk (.inl (by decide))) (LV 1 rfl (LV 2 rfl (LV 13 rfl (LV 14 rfl (LV 107 rfl (LeftS.cons (t := 1000001) rfl (Surv.varK (by omega) (Surv.disk (.inl (by decide)))) (LeftS.cons (t := 1000013) rfl (Surv.varK (by omega) (Surv.disk (.inl (by decide)))) LN))))))), ?_⟩
 refine TL ?_
 refine RA rfl ?_
 refine RN ?_
 refine GS ?_
 refine TL ?_
 refine RS (ok_loadVK (s := 1000001) (by decide) Try.underlying27 rfl size27 rfl rfl) ?_
 refine RS (ok_call (dReplay_big X0 ([[], [], [some [2], some [1]], []] : Dk) 2 (by decide) (by decide) 3 (by decide)) (Args.cons rfl LA (Args.cons rfl LA (Args.cons rfl LA Args.nil)))) ?_
 refine RM rfl ?_
 refine RS (ok_extractV rfl rfl) ?_
 refine RS (ok_extractV rfl rfl) ?_
 refine RA rfl ?_
 refine RN ?_
 refine GS ?_
 refine TL ?_
 refine RS (ok_loadVK (s := 1000013) (by decide) Try.underlying27 rfl size27 rfl rfl) ?_
 refine RS (ok_callB (dRead_at X0 ([[], [], [some [1], some [2], some [1]], []] : Dk) 2 (by decide) (by decide) (some [1]) 0 rfl rfl) con_tup_mono (A2 rfl rfl)) ?_
 refine RM rfl ?_
 refine RS (ok_extract rfl rfl) ?_
 refine RS (ok_extract rfl rfl) ?_
 refine RA rfl ?_
 refine RA rfl ?_
 refine RN ?_
 refine A.sub (KC 1 rfl (KC 2 rfl (KC 3 rfl (KC 4 rfl (KC 6 rfl (KC 13 rfl (KC 14 rfl (KC 15 rfl (KC 1000001 rfl (KC 1000013 rfl (KC 1000014 rfl KN))))))))))) ?_
 refine GS ?_
 refine TL ?_
 refine RS (ok_loadVK (s := 1000014) (by decide) Try.underlying27 rfl size27 rfl rfl) ?_
 refine RS (ok_callB (dRead_at X0 ([[], [], [none, some [2], some [1]], []] : Dk) 2 (by decide) (by decide) (none) 11 rfl rfl) con_tup_mono (A2 rfl rfl)) ?_
 refine RM rfl ?_
 refine RS (ok_extract rfl rfl) ?_
 refine RS (ok_extract rfl rfl) ?_
 refine RA rfl ?_
 refine RN ?_
 refine GS ?_
 refine TN 5 ?_
 refine RS (ok_loadVK (s := 1000013) (by decide) Try.underlying27 rfl size27 rfl rfl) ?_
 refine RS (ok_call (dReplay_at X0 ([[], [], [some [1], some [2], some [1]], []] : Dk) 2 (by decide) (by decide) 1 [[], [], [some [2], some [1], some [2], some [1]], []] (by decide) (by decide) rfl) (A3 rfl rfl rfl)) ?_
 refine RM rfl ?_
 refine RS (ok_extract rfl rfl) ?_
 refine RS (ok_extract rfl rfl) ?_
 refine RN ?_
 refine ⟨_, _, eff_allocV (n := 228) (d := 16) (k := 1000016) zero27 (by decide), fun b16 hb16 => ?_⟩
 have hBb16 := hb16.1
 have hlt_b1_b16 : b1 < b16 := hb16.2.2 1000001 _ _ _ _ rfl
 have hlt_b13_b16 : b13 < b16 := hb16.2.2 1000013 _ _ _ _ rfl
 have hlt_b14_b16 : b14 < b16 := hb16.2.2 1000014 _ _ _ _ rfl
 refine TF 6 ?_
 refine RN ?_
 refine ⟨_, eff_storeK (n := 228) (s := 1000016) size27 rfl rfl (Le.refl _) (Agg.disk) hBb16 rfl (rfl) (Surv.disk (.inl (by decide))) (LV 1 rfl (LV 2 rfl (LV 3 rfl (LV 4 rfl (LV 6 rfl (LV 8 rfl (LeftS.cons (t := 15) rfl (Surv.con (by decide)) (LV 16 rfl (LV 127 rfl (LeftS.cons (t := 1000001) rfl (Surv.varK (by omega) (Surv.disk (.inl (by decide)))) (LeftS.cons (t := 1000013) rfl (Surv.varK (by omega) (Surv.disk (.inl (by decide)))) (LeftS.cons (t := 1000014) rfl (Surv.varK (by omega) (Surv.disk (.inl (by decide)))) LN)))))))))))), ?_⟩
 refine TL ?_
 refine RA rfl ?_
 refine RN ?_
 refine GS ?_
 refine TL ?_
 refine RS (ok_loadVK (s := 1000016) (by decide) Try.underlying27 rfl size27 rfl rfl) ?_
 refine RS (ok_callB (dRead_at X0 ([[], [], [some [2], some [1], some [2], some [1]], []] : Dk) 2 (by decide) (by decide) (some [2]) 0 rfl rfl) con_tup_mono (A2 rfl rfl)) ?_
 refine RM rfl ?_
 refine RS (ok_extract rfl rfl) ?_
 refine RS (ok_extract rfl rfl) ?_
 refine RA rfl ?_
 refine RA rfl ?_
 refine RN ?_
 refine GS ?_
 refine TL ?_
 refine RS (ok_loadVK (s := 1000016) (by decide) Try.underlying27 rfl size27 rfl rfl) ?_
 refine RS (ok_call (dVersions_at X0 ([[], [], [some [2], some [1], some [2], some [1]], []] : Dk) 2 (by decide) (by decide) 4 rfl) (A2 rfl rfl)) ?_
 refine RM rfl ?_
 refine RS (ok_extractV rfl rfl) ?_
 refine RS (ok_extractV rfl rfl) ?_
 refine RA rfl ?_
 refine RA rfl ?_
 refine RN ?_
 refine A.sub (KC 1 rfl (KC 2 rfl (KC 3 rfl (KC 4 rfl (KC 6 rfl (KC 8 rfl (KC 10 rfl (KC 11 rfl (KC 12 rfl (KC 15 rfl (KC 17 rfl (KC 18 rfl (KC 1000001 rfl (KC 1000013 rfl (KC 1000014 rfl (KC 1000016 rfl KN)))))))))))))))) ?_
 refine A.seq ?_
 refine GS ?_
 refine TL ?_
 refine RM rfl ?_
 refine RM rfl ?_
 refine RB rfl rfl rfl ?_
 refine RM rfl ?_
 refine RB rfl rfl rfl ?_
 refine RM rfl ?_
 refine RB rfl rfl rfl ?_
 refine RM rfl ?_
 refine RB rfl rfl rfl ?_
 refine RM rfl ?_
 refine RB rfl rfl rfl ?_
 refine RBS rfl rfl rfl (.bool false) (rfl) ?_
 refine RM rfl ?_
 refine RQ (ok_move rfl) ?_
 refine RQ (ok_bin rfl rfl rfl) ?_; refine RZ (.bool false) (rfl) ?_
 refine RP rfl rfl ?_
 refine RM rfl ?_
 refine RQ (ok_move rfl) ?_
 refine RQ (ok_bin rfl rfl rfl) ?_; refine RZ (.bool false) (rfl) ?_
 refine RP rfl rfl ?_
 refine RM rfl ?_
 refine RQ (ok_move rfl) ?_
 refine RQ (ok_str (l := [1]) Try.underlying37 Try.underlying5 Try.underlying9 rfl conD_byt) ?_
 refine RQ (ok_sne (a := [1]) (b := [1]) rfl rfl) ?_; refine RZ (.bool false) (by simp) ?_
 refine RP rfl rfl ?_
 refine RM rfl ?_
 refine RQ (ok_move rfl) ?_
 refine RQ (ok_str (l := [2]) Try.underlying37 Try.underlying5 Try.underlying9 rfl conD_byt) ?_
 refine RQ (ok_sne (a := [2]) (b := [2]) rfl rfl) ?_; refine RZ (.bool false) (by simp) ?_
 refine RP rfl rfl ?_
 refine RM rfl ?_
 refine RQ (ok_move rfl) ?_
 refine RQ (ok_bin rfl rfl rfl) ?_; refine RZ (.bool false) (rfl) ?_
 refine RP rfl rfl ?_
 refine RN ?_
 refine A.sub (KC 1 rfl (KC 171 rfl (KC 1000001 rfl (KC 1000013 rfl (KC 1000014 rfl (KC 1000016 rfl KN)))))) ?_
 refine A.no rfl ?_
 refine A.skip ?_
 refine EN ?_
 refine GS ?_
 refine TL ?_
 refine RS (ok_loadVK (s := 1000001) (by decide) Try.underlying27 rfl size27 rfl rfl) ?_
 refine RS (ok_callB (dVersion_at X0 ([[], [], [some [2], some [1]], []] : Dk) 2 (by decide) (by decide) 0 (none) 11 (by decide) (by decide) rfl rfl) con_tup_mono (A3 rfl rfl rfl)) ?_
 refine RM rfl ?_
 refine RS (ok_extract rfl rfl) ?_
 refine RS (ok_extract rfl rfl) ?_
 refine RA rfl ?_
 refine RN ?_
 refine GS ?_
 refine TL ?_
 refine RS (ok_loadVK (s := 1000001) (by decide) Try.underlying27 rfl size27 rfl rfl) ?_
 refine RS (ok_callB (dVersion_at X0 ([[], [], [some [2], some [1]], []] : Dk) 2 (by decide) (by decide) 1 (some [1]) 0 (by decide) (by decide) rfl rfl) con_tup_mono (A3 rfl rfl rfl)) ?_
 refine RM rfl ?_
 refine RS (ok_extract rfl rfl) ?_
 refine RS (ok_extract rfl rfl) ?_
 refine RA rfl ?_
 refine RA rfl ?_
 refine RN ?_
 refine GS ?_
 refine TL ?_
 refine RS (ok_loadVK (s := 1000001) (by decide) Try.underlying27 rfl size27 rfl rfl) ?_
 refine RS (ok_call (dVersion_big X0 ([[], [], [some [2], some [1]], []] : Dk) 2 (by decide) (by decide) 3 (by decide)) (Args.cons rfl LA (Args.cons rfl LA (Args.cons rfl LA Args.nil)))) ?_
 refine RM rfl ?_
 refine RS (ok_extractV rfl rfl) ?_
 refine RS (ok_extractV rfl rfl) ?_
 refine RA rfl ?_
 refine RN ?_
 refine GD ?_
 refine TL ?_
 refine RS (ok_loadVK (s := 1000001) (by decide) Try.underlying27 rfl size27 rfl rfl) ?_
 refine RS (ok_make 257 Try.underlying37 info5 (by decide) rfl rfl rfl rfl rfl (by decide)) ?_
 refine RS (ok_call (dWrite_big 4 0 (by decide) (List.replicate 257 0) (by rw [List.length_replicate]; omega)) (Args.cons rfl (disk_sz) (Args.cons rfl LA (Args.cons rfl (fresh_zeros (by decide)) Args.nil)))) ?_
 refine RM rfl ?_
 refine RS (ok_extractV rfl rfl) ?_
 refine RS (ok_extractV rfl rfl) ?_
 refine RA rfl ?_
 refine RN ?_
 refine A.sub (KC 2 rfl (KC 3 rfl (KC 4 rfl (KC 6 rfl (KC 15 rfl (KC 1000001 rfl (KC 1000013 rfl (KC 1000014 rfl (KC 1000016 rfl KN))))))))) ?_
 refine GS ?_
 refine TL ?_
 refine RS (ok_call (dNew_lo 0 (by decide)) (Args.cons rfl LA Args.nil)) ?_
 refine RM rfl ?_
 refine RS (ok_extractV rfl rfl) ?_
 refine RS (ok_extractV rfl rfl) ?_
 refine RA rfl ?_
 refine RN ?_
 refine GS ?_
 refine TL ?_
 refine RS (ok_call (dNew_hi 10923 (by decide)) (Args.cons rfl LA Args.nil)) ?_
 refine RM rfl ?_
 refine RS (ok_extractV rfl rfl) ?_
 refine RS (ok_extractV rfl rfl) ?_
 refine RA rfl ?_
 refine RN ?_
 refine GS ?_
 refine TL ?_
 refine RM rfl ?_
 refine RBS rfl rfl rfl (.bool true) (rfl) ?_
 refine RM rfl ?_
 refine RQ (ok_move rfl) ?_
 refine RQ (ok_bin rfl rfl rfl) ?_; refine RZ (.bool true) (rfl) ?_
 refine RP rfl rfl ?_
 refine RM rfl ?_
 refine RQ (ok_move rfl) ?_
 refine RQ (ok_str (l := [1]) Try.underlying37 Try.underlying5 Try.underlying9 rfl conD_byt) ?_
 refine RQ (ok_seq (a := [1]) (b := [1]) rfl rfl) ?_; refine RZ (.bool true) (by simp) ?_
 refine RP rfl rfl ?_
 refine RM rfl ?_
 refine RQ (ok_move rfl) ?_
 refine RQ (ok_bin rfl rfl rfl) ?_; refine RZ (.bool true) (rfl) ?_
 refine RP rfl rfl ?_
 refine RM rfl ?_
 refine RQ (ok_move rfl) ?_
 refine RQ (ok_bin rfl rfl rfl) ?_; refine RZ (.bool true) (rfl) ?_
 refine RP rfl rfl ?_
 refine RM rfl ?_
 refine RQ (ok_move rfl) ?_
 refine RQ (ok_bin rfl rfl rfl) ?_; refine RZ (.bool true) (rfl) ?_
 refine RP rfl rfl ?_
 refine RM rfl ?_
 refine RQ (ok_move rfl) ?_
 refine RQ (ok_bin rfl rfl rfl) ?_; refine RZ (.bool true) (rfl) ?_
 refine RP rfl rfl ?_
 refine RA rfl ?_
 refine RN ?_
 refine A.sub (KC 0 rfl (KC 1000001 rfl (KC 1000013 rfl (KC 1000014 rfl (KC 1000016 rfl KN))))) ?_
 refine A.ret ?_
 exact End.ret1 rfl rfl (by first | exact Le.refl _ | exact Le.old _ _)
end Go.Proofs.Ytdhbhcbkhkopbaa
namespace Go.Proofs.Ytdhbhcbkhkopbaa
open Go Go.RowKit
/-- The operation yields v (or stores what is there) and changes nothing. -/
def NopOk (P : Program) (B : Nat) (o : Oper) (E : Env) (v : Value) : Prop := (∀ c, o.op ≠ .defer c) ∧
  ∀ (ρ : Operand → Value) (w : World), B ≤ w.heap.size → (∀ t e, vbase ≤ t → E.look t = some e → e.Of w undef) → (∀ x, x ∈ o.op.operands → ∀ e, E.at x = some e → e.Of w (ρ x)) → ((execOp ρ o).run P w = .ok (.value v) w ∧ o.dst ≠ none) ∨ ((execOp ρ o).run P w = .ok .skip w ∧ o.dst = none)
/-- An environment out of what was known and of what operations have yielded that stand before operation o. -/
inductive FromN (ops : Array Oper) (vals : List Value) (E0 : Env) (o : Oper) : Env → Prop
  | nil : FromN ops vals E0 o []
  | all : FromN ops vals E0 o E0
  | base {t : Nat} {d : D} {E : Env} (h : E0.look t = some d) (hr : FromN ops vals E0 o E) : FromN ops vals E0 o ((t, d) :: E)
  | op {t : Nat} {v : Value} {E : Env} (j : Nat) (he : (o.after.any fun e => Region.binds .any e && e.on == j) = true) (hd : (ops[j]?).bind (·.dst) = some t) (hv : vals[j]? = some v) (hr : FromN ops vals E0 o E) : FromN ops vals E0 o ((t, .v v) :: E)
inductive Nops (P : Program) (B : Nat) (ops : Array Oper) (vals : List Value) (E0 : Env) : Nat → List Oper → Prop
  | nil {i : Nat} : Nops P B ops vals E0 i []
  | cons {i : Nat} {o : Oper} {rest : List Oper} {v : Value} (E : Env) (hv : vals[i]? = some v) (hd : o.dst = none ∨ ∃ t, o.dst = some t ∧ (E0.look t = none ∨ E0.look t = some (.v v))) (hf : FromN ops vals E0 o E) (hok : NopOk P B o E v) (hr : Nops P B ops vals E0 (i + 1) rest) : Nops P B ops vals E0 i (o :: rest)
def downsN (ops : Array Oper) : Bool := (List.range ops.size).all fun i => match ops[i]? with
  | none => false
  | some o => o.guard.isNone && o.after.all (fun e => !Region.binds .any e || decide (e.on < i)) && (List.range ops.size).all fun j => match ops[j]? with
    | none => false
    | some q => j == i || o.dst == none || o.dst != q.dst
section
variable {P : Program} {n B : Nat} {ops : Array Oper} {κ : Cx} {Q : Exit → Act → World → Prop} {vals : List Value} {E0 : Env}
theorem Nops.nth {k : Nat} {l : List Oper} (h : Nops P B ops vals E0 k l) : ∀ {i : Nat} {o : Oper}, l[i]? = some o → ∃ E v, vals[k + i]? = some v ∧ (o.dst = none ∨ ∃ t, o.dst = some t ∧ (E0.look t = none ∨ E0.look t = some (.v v))) ∧ FromN ops vals E0 o E ∧ NopOk P B o E v := by
  induction h with
  | nil => intro i o hi; simp at hi
  | @cons k o0 rest v E hv hd hf hok _ ih =>
    intro i o hi
    cases i with
    | zero => simp at hi; subst hi; exact ⟨E, v, hv, hd, hf, hok⟩
    | succ i =>
      obtain ⟨E, v, h1, h2⟩ := ih (i := i) (by simpa using hi)
      exact ⟨E, v, by rw [show k + (i + 1) = k + 1 + i from by omega]; exact h1, h2⟩
theorem downs_get (h : downsN ops = true) {i : Nat} {o : Oper} (hi : ops[i]? = some o) : o.guard = none ∧ (∀ e ∈ o.after, Region.binds .any e = true → e.on < i) ∧ ∀ j q, ops[j]? = some q → j ≠ i → o.dst ≠ none → o.dst ≠ q.dst := by
  have hlt : i < ops.size := (Array.getElem?_eq_some_iff.1 hi).1
  have h1 := List.all_eq_true.1 h i (List.mem_range.2 hlt)
  simp only [hi, Bool.and_eq_true] at h1
  refine ⟨by simpa using h1.1.1, fun e he hb => ?_, fun j q hj hne hnn => ?_⟩
  · have h2 := Array.all_eq_true_iff_forall_mem.1 h1.1.2 e he
    simpa [hb] using h2
  · have h3 := List.all_eq_true.1 h1.2 j (List.mem_range.2 (Array.getElem?_eq_some_iff.1 hj).1)
    simp only [hj, Bool.or_eq_true, beq_iff_eq, bne_iff_ne, ne_eq] at h3
    rcases h3 with (h3 | h3) | h3
    · exact absurd h3 hne
    · exact absurd h3 hnn
    · exact h3
end
/-! ### Such operations -/
section
variable {P : Program} {B : Nat} {E : Env} {d : Tmp} {ty : TypeId} {pos : String} {after : Array Edge} {guard : Option (Nat × Bool)}
end
end Go.Proofs.Ytdhbhcbkhkopbaa
namespace Go.Proofs.Ytdhbhcbkhkopbaa
open Go Go.RowKit
/-- A variable that the region makes: the operation that makes it, its slot, its type, its zero value, the operation that gives it its value. -/
structure VarN where
  a : Nat
  t : Nat
  T : TypeId
  zs : List Value
  s : Nat
  ys : List Value
inductive FromV (ops : Array Oper) (vals : List (Option Value)) (E0 : Env) (o : Oper) : Env → Prop
  | nil : FromV ops vals E0 o []
  | all : FromV ops vals E0 o E0
  | op {t : Nat} {v : Value} {E : Env} (j : Nat) (he : (o.after.any fun e => Region.binds .any e && e.on == j) = true) (hd : (ops[j]?).bind (·.dst) = some t) (hv : vals[j]? = some (some v)) (hr : FromV ops vals E0 o E) : FromV ops vals E0 o ((t, .v v) :: E)
inductive KopOk (P : Program) (ops : Array Oper) (vals : List (Option Value)) (vs : List VarN) (E0 : Env) (i : Nat) : Oper → Prop
  | pure {o : Oper} {t : Nat} {v : Value} (E : Env) (hv : vals[i]? = some (some v)) (hd : o.dst = some t) (h0 : E0.look t = none ∨ E0.look t = some (.v v)) (hf : FromV ops vals E0 o E) (hok : ∀ B', OpOk P B' o E (.v v)) : KopOk P ops vals vs E0 i o
  | alloc {t : Tmp} {T ty : TypeId} {pos : String} {after : Array Edge} {V : VarN} (j : Nat) (hV : vs[j]? = some V) (ha : V.a = i) (hT : V.T = T) (ht : V.t = t) (hz : ZeroIs P T V.zs) (h0 : E0.look t = none) : KopOk P ops vals vs E0 i ⟨some t, .alloc T, ty, pos, after, none⟩
  | store {t T ty : TypeId} {x : Operand} {pos : String} {after : Array Edge} {V : VarN} (j : Nat) (E : Env) (hV : vs[j]? = some V) (hs : V.s = i) (hT : V.T = T) (ht : V.t = t) (he : (after.any fun e => Region.binds .any e && e.on == V.a) = true) (hf : FromV ops vals E0 ⟨none, .store T (.tmp t) x, ty, pos, after, none⟩ E) (hx : E.at x = some (.v (aggV V.ys)))
      (hsz : SizeIs P T V.ys.length) (hl : V.zs.length = V.ys.length) (h1 : V.ys.all (·.oneCell') = true) : KopOk P ops vals vs E0 i ⟨none, .store T (.tmp t) x, ty, pos, after, none⟩
inductive Kops (P : Program) (ops : Array Oper) (vals : List (Option Value)) (vs : List VarN) (E0 : Env) : Nat → List Oper → Prop
  | nil {i : Nat} : Kops P ops vals vs E0 i []
  | cons {i : Nat} {o : Oper} {rest : List Oper} (h : KopOk P ops vals vs E0 i o) (hr : Kops P ops vals vs E0 (i + 1) rest) : Kops P ops vals vs E0 i (o :: rest)
section
variable {P : Program} {n B : Nat} {ops : Array Oper} {κ : Cx} {Q : Exit → Act → World → Prop} {vals : List (Option Value)} {vs : List VarN} {E0 : Env}
theorem Kops.nth {k : Nat} {l : List Oper} (h : Kops P ops vals vs E0 k l) : ∀ {i : Nat} {o : Oper}, l[i]? = some o → KopOk P ops vals vs E0 (k + i) o := by
  induction h with
  | nil => intro i o hi; simp at hi
  | @cons k o0 rest h _ ih =>
    intro i o hi
    cases i with
    | zero => simp at hi; subst hi; exact h
    | succ i =>
      have := ih (i := i) (by simpa using hi)
      rwa [show k + (i + 1) = k + 1 + i from by omega]
structure InvV (κ : Cx) (n B : Nat) (ops : Array Oper) (vals : List (Option Value)) (vs : List VarN) (E0 : Env) (w1 : World) (listed : Array Bool) (a : Act) (w : World) : Prop where
  base : B ≤ w1.heap.size
  bel : Below w1.heap.size w1 w
  defers : a.defers = κ.df
  size : a.tmps.size = n
  facts : ∀ t d, E0.look t = some d → d.OfB w1.heap.size w (a.tmps.getD t undef)
  lsize : listed.size = ops.size
  got : ∀ (i : Nat) (o : Oper) (t : Nat) (v : Value), ops[i]? = some o → listed.getD i false = true → o.dst = some t → vals[i]? = some (some v) → a.tmps.getD t undef = v
  cl : ∀ (j : Nat) (V : VarN), vs[j]? = some V → listed.getD V.s false = true → listed.getD V.a false = true
  var : ∃ bs : Nat → Nat, (∀ (j : Nat) (V : VarN), vs[j]? = some V → listed.getD V.a false = true → w1.heap.size ≤ bs j ∧ bs j < w.heap.size ∧ a.tmps.getD V.t undef = .pointer (some ⟨bs j, 0, none⟩) ∧ w.heap[bs j]? = some (.cells (if listed.getD V.s false = true then V.ys else V.zs).toArray V.T (0, 0))) ∧
    ∀ (j j' : Nat) (V V' : VarN), vs[j]? = some V → vs[j']? = some V' → listed.getD V.a false = true → listed.getD V'.a false = true → j ≠ j' → bs j ≠ bs j'
theorem InvV.st {w1 : World} {listed : Array Bool} {a : Act} {w : World} (I : InvV κ n B ops vals vs E0 w1 listed a w) : St κ n B E0 a w :=
  ⟨Nat.le_trans I.base I.bel.size, I.defers, I.size, fun t d hl => D.OfB.up (I.facts t d hl) I.bel.size⟩
/-! ### The same, operation by operation -/
theorem FromV.more {vals : List (Option Value)} {o : Oper} {E : Env} {pre : List (Option Value)} (hp : ∀ (j : Nat) (v : Option Value), pre[j]? = some v → vals[j]? = some v) (h : FromV ops pre E0 o E) : FromV ops vals E0 o E := by
  induction h with
  | nil => exact .nil
  | all => exact .all
  | op j he hd hv _ ih => exact .op j he hd (hp _ _ hv) ih
/-- From here on; pre is what the operations before have yielded. -/
def KopsK (P : Program) (ops : Array Oper) (vs : List VarN) (E0 : Env) (rest : List Oper) (pre : List (Option Value)) (C : List (Option Value) → Prop) : Prop :=
  ∃ vals : List (Option Value), (∀ (j : Nat) (v : Option Value), pre[j]? = some v → vals[j]? = some v) ∧ Kops P ops vals vs E0 pre.length rest ∧ C vals
theorem pre_snoc {α : Type} {pre vals : List α} {v : α} (h : ∀ (j : Nat) (u : α), (pre ++ [v])[j]? = some u → vals[j]? = some u) : (∀ (j : Nat) (u : α), pre[j]? = some u → vals[j]? = some u) ∧ vals[pre.length]? = some v :=
  ⟨fun j u hu => h j u (by rw [List.getElem?_append_left (List.getElem?_eq_some_iff.1 hu).1]; exact hu), h _ _ (by simp)⟩
theorem KopsK.nil {pre : List (Option Value)} {C : List (Option Value) → Prop} (h : C pre) : KopsK P ops vs E0 [] pre C := ⟨pre, fun _ _ h => h, .nil, h⟩
theorem KopsK.pure {o : Oper} {rest : List Oper} {pre : List (Option Value)} {C : List (Option Value) → Prop} {t : Nat} {v : Value} (E : Env) (hd : o.dst = some t) (h0 : E0.look t = none ∨ E0.look t = some (.v v)) (hf : FromV ops pre E0 o E) (hok : ∀ B', OpOk P B' o E (.v v))
    (hr : KopsK P ops vs E0 rest (pre ++ [some v]) C) : KopsK P ops vs E0 (o :: rest) pre C := by
  obtain ⟨vals, h1, h2, h3⟩ := hr
  obtain ⟨h4, h5⟩ := pre_snoc h1
  exact ⟨vals, h4, .cons (.pure E h5 hd h0 (hf.more h4) hok) (by simpa using h2), h3⟩
theorem KopsK.alloc {rest : List Oper} {pre : List (Option Value)} {C : List (Option Value) → Prop} {t : Tmp} {T ty : TypeId} {pos : String} {after : Array Edge} {V : VarN} (j : Nat) (hV : vs[j]? = some V) (ha : V.a = pre.length) (hT : V.T = T) (ht : V.t = t) (hz : ZeroIs P T V.zs) (h0 : E0.look t = none)
    (hr : KopsK P ops vs E0 rest (pre ++ [none]) C) : KopsK P ops vs E0 (⟨some t, .alloc T, ty, pos, after, none⟩ :: rest) pre C := by
  obtain ⟨vals, h1, h2, h3⟩ := hr
  obtain ⟨h4, _⟩ := pre_snoc h1
  exact ⟨vals, h4, .cons (.alloc j hV ha hT ht hz h0) (by simpa using h2), h3⟩
theorem KopsK.store {rest : List Oper} {pre : List (Option Value)} {C : List (Option Value) → Prop} {t T ty : TypeId} {x : Operand} {pos : String} {after : Array Edge} {V : VarN} (j : Nat) (E : Env) (hV : vs[j]? = some V) (hs : V.s = pre.length) (hT : V.T = T) (ht : V.t = t) (he : (after.any fun e => Region.binds .any e && e.on == V.a) = true)
    (hf : FromV ops pre E0 ⟨none, .store T (.tmp t) x, ty, pos, after, none⟩ E) (hx : E.at x = some (.v (aggV V.ys))) (hsz : SizeIs P T V.ys.length) (hl : V.zs.length = V.ys.length) (h1 : V.ys.all (·.oneCell') = true)
    (hr : KopsK P ops vs E0 rest (pre ++ [none]) C) : KopsK P ops vs E0 (⟨none, .store T (.tmp t) x, ty, pos, after, none⟩ :: rest) pre C := by
  obtain ⟨vals, g1, g2, g3⟩ := hr
  obtain ⟨g4, _⟩ := pre_snoc g1
  exact ⟨vals, g4, .cons (.store j E hV hs hT ht he (hf.more g4) hx hsz hl h1) (by simpa using g2), g3⟩
end
end Go.Proofs.Ytdhbhcbkhkopbaa
namespace Go.Proofs.Ytdhbhcbkhkopbaa
open Go Go.RowKit
/-- A variable that the region makes: the operation that makes it, its slot, its type, its zero value, the operation that gives it its value. -/
structure VarF where
  a : Nat
  t : Nat
  T : TypeId
  zs : List Value
  s : Nat
  m : Nat
  f : D
inductive FromF (ops : Array Oper) (vals : List (Option D)) (E0 : Env) (o : Oper) : Env → Prop
  | nil : FromF ops vals E0 o []
  | all : FromF ops vals E0 o E0
  | op {t : Nat} {v : D} {E : Env} (j : Nat) (he : (o.after.any fun e => Region.binds .any e && e.on == j) = true) (hd : (ops[j]?).bind (·.dst) = some t) (hv : vals[j]? = some (some v)) (hr : FromF ops vals E0 o E) : FromF ops vals E0 o ((t, v) :: E)
inductive FromFW (ops : Array Oper) (vals : List (Option D)) (E0 : Env) : Env → Prop
  | all : FromFW ops vals E0 E0
  | op {t : Nat} {v : D} {E : Env} (j : Nat) (hd : (ops[j]?).bind (·.dst) = some t) (hv : vals[j]? = some (some v)) (hr : FromFW ops vals E0 E) : FromFW ops vals E0 ((t, v) :: E)
/-- Stays true whatever variable of the region is given its value. -/
def SurvF (vs : List VarF) (B : Nat) (d : D) : Prop := ∀ V ∈ vs, ∀ B' g, B ≤ g → Surv B' V.T g d
inductive KofOk (P : Program) (B : Nat) (ops : Array Oper) (vals : List (Option D)) (vs : List VarF) (E0 : Env) (i : Nat) : Oper → Prop
  | pure {o : Oper} {t : Nat} {v : D} (E : Env) (hv : vals[i]? = some (some v)) (hd : o.dst = some t) (h0 : E0.look t = none) (hf : FromF ops vals E0 o E) (hs : SurvF vs B v) (hok : OpOk P B o E v) : KofOk P B ops vals vs E0 i o
  | alloc {t : Tmp} {T ty : TypeId} {pos : String} {after : Array Edge} {V : VarF} (j : Nat) (hV : vs[j]? = some V) (ha : V.a = i) (hT : V.T = T) (ht : V.t = t) (hz : ZeroIs P T V.zs) (h0 : E0.look t = none) : KofOk P B ops vals vs E0 i ⟨some t, .alloc T, ty, pos, after, none⟩
  | store {t T ty : TypeId} {x : Operand} {pos : String} {after : Array Edge} {V : VarF} {dx : D} (j : Nat) (E : Env) (hV : vs[j]? = some V) (hs : V.s = i) (hT : V.T = T) (ht : V.t = t) (he : (after.any fun e => Region.binds .any e && e.on == V.a) = true) (hf : FromF ops vals E0 ⟨none, .store T (.tmp t) x, ty, pos, after, none⟩ E) (hx : E.at x = some dx) (hle : Le dx V.f)
      (hsz : SizeIs P T V.m) (hl : V.zs.length = V.m) (h1 : Agg V.m V.f) : KofOk P B ops vals vs E0 i ⟨none, .store T (.tmp t) x, ty, pos, after, none⟩
inductive Kofs (P : Program) (B : Nat) (ops : Array Oper) (vals : List (Option D)) (vs : List VarF) (E0 : Env) : Nat → List Oper → Prop
  | nil {i : Nat} : Kofs P B ops vals vs E0 i []
  | cons {i : Nat} {o : Oper} {rest : List Oper} (h : KofOk P B ops vals vs E0 i o) (hr : Kofs P B ops vals vs E0 (i + 1) rest) : Kofs P B ops vals vs E0 i (o :: rest)
def varsOkF (ops : Array Oper) (vals : List (Option D)) (vs : List VarF) : Bool := (List.range vs.length).all fun j => match vs[j]? with
  | none => false
  | some V => ((ops[V.a]?).bind (·.dst) == some V.t) && (match vals[V.a]? with | some none => true | _ => false) && (match vals[V.s]? with | some none => true | _ => false) && decide (V.a < ops.size) && decide (V.s < ops.size) && V.a != V.s && (List.range vs.length).all fun j' => match vs[j']? with
    | none => false
    | some V' => j == j' || (V.a != V'.a && V.s != V'.s && V.a != V'.s && V.s != V'.a)
section
variable {P : Program} {n B : Nat} {ops : Array Oper} {κ : Cx} {Q : Exit → Act → World → Prop} {vals : List (Option D)} {vs : List VarF} {E0 : Env}
theorem Kofs.nth {k : Nat} {l : List Oper} (h : Kofs P B ops vals vs E0 k l) : ∀ {i : Nat} {o : Oper}, l[i]? = some o → KofOk P B ops vals vs E0 (k + i) o := by
  induction h with
  | nil => intro i o hi; simp at hi
  | @cons k o0 rest h _ ih =>
    intro i o hi
    cases i with
    | zero => simp at hi; subst hi; exact h
    | succ i =>
      have := ih (i := i) (by simpa using hi)
      rwa [show k + (i + 1) = k + 1 + i from by omega]
theorem varsOkF_get (h : varsOkF ops vals vs = true) {j : Nat} {V : VarF} (hj : vs[j]? = some V) : (ops[V.a]?).bind (·.dst) = some V.t ∧ vals[V.a]? = some none ∧ vals[V.s]? = some none ∧ V.a < ops.size ∧ V.s < ops.size ∧ V.a ≠ V.s ∧ ∀ j' V', vs[j']? = some V' → j ≠ j' → V.a ≠ V'.a ∧ V.s ≠ V'.s ∧ V.a ≠ V'.s ∧ V.s ≠ V'.a := by
  have hlt : j < vs.length := (List.getElem?_eq_some_iff.1 hj).1
  have h1 := List.all_eq_true.1 h j (List.mem_range.2 hlt)
  simp only [hj, Bool.and_eq_true] at h1
  obtain ⟨⟨⟨⟨⟨⟨h2, h3⟩, h4⟩, h5⟩, h6⟩, h7⟩, h8⟩ := h1
  refine ⟨by simpa using h2, ?_, ?_, by simpa using h5, by simpa using h6, by simpa using h7, fun j' V' hj' hne => ?_⟩
  · cases hx : vals[V.a]? with
    | none => rw [hx] at h3; cases h3
    | some x => rw [hx] at h3; cases x with
      | none => rfl
      | some _ => cases h3
  · cases hx : vals[V.s]? with
    | none => rw [hx] at h4; cases h4
    | some x => rw [hx] at h4; cases x with
      | none => rfl
      | some _ => cases h4
  · have h9 := List.all_eq_true.1 h8 j' (List.mem_range.2 (List.getElem?_eq_some_iff.1 hj').1)
    simp only [hj', Bool.or_eq_true, beq_iff_eq, Bool.and_eq_true, bne_iff_ne, ne_eq] at h9
    rcases h9 with h9 | h9
    · exact absurd h9 hne
    · exact ⟨h9.1.1.1, h9.1.1.2, h9.1.2, h9.2⟩
/-- What the variable's block holds: before it was given its value, and behind. -/
def VarF.At (V : VarF) (b : Nat) (w : World) : Bool → Prop
  | true => ∃ cs : List Value, cs.length = V.m ∧ cs.all (·.oneCell') = true ∧ w.heap[b]? = some (.cells cs.toArray V.T (0, 0)) ∧ V.f.Of w (aggV cs)
  | false => w.heap[b]? = some (.cells V.zs.toArray V.T (0, 0))
theorem VarF.At.grow {V : VarF} {b : Nat} {w w' : World} {done : Bool} (h : V.At b w done) (hb : b < w.heap.size) (g : Grow w w') : V.At b w' done := by
  cases done with
  | true => obtain ⟨cs, h1, h2, h3, h4⟩ := h; exact ⟨cs, h1, h2, by rw [g.block _ hb]; exact h3, h4.grow g⟩
  | false => exact (g.block _ hb).trans h
theorem VarF.At.wrote {V : VarF} {b B' T g : Nat} {w w' : World} {done : Bool} (h : V.At b w done) (hne : b ≠ g) (hb : b < w.heap.size) (k : Wrote B' T g w w') (hs : Surv B' T g V.f) : V.At b w' done := by
  cases done with
  | true => obtain ⟨cs, h1, h2, h3, h4⟩ := h; exact ⟨cs, h1, h2, (k.other b hb hne).trans h3, hs _ _ _ k h4⟩
  | false => exact (k.other b hb hne).trans h
structure InvF (κ : Cx) (n B : Nat) (ops : Array Oper) (vals : List (Option D)) (vs : List VarF) (E0 : Env) (w1 : World) (listed : Array Bool) (a : Act) (w : World) : Prop where
  base : B ≤ w1.heap.size
  bel : Below w1.heap.size w1 w
  defers : a.defers = κ.df
  size : a.tmps.size = n
  facts : ∀ t d, E0.look t = some d → d.OfB w1.heap.size w (a.tmps.getD t undef)
  lsize : listed.size = ops.size
  got : ∀ (i : Nat) (o : Oper) (t : Nat) (v : D), ops[i]? = some o → listed.getD i false = true → o.dst = some t → vals[i]? = some (some v) → v.Of w (a.tmps.getD t undef) ∧ SurvF vs B v
  cl : ∀ (j : Nat) (V : VarF), vs[j]? = some V → listed.getD V.s false = true → listed.getD V.a false = true
  var : ∃ bs : Nat → Nat, (∀ (j : Nat) (V : VarF), vs[j]? = some V → listed.getD V.a false = true → w1.heap.size ≤ bs j ∧ bs j < w.heap.size ∧ a.tmps.getD V.t undef = .pointer (some ⟨bs j, 0, none⟩) ∧ V.At (bs j) w (listed.getD V.s false)) ∧
    ∀ (j j' : Nat) (V V' : VarF), vs[j]? = some V → vs[j']? = some V' → listed.getD V.a false = true → listed.getD V'.a false = true → j ≠ j' → bs j ≠ bs j'
theorem InvF.st {w1 : World} {listed : Array Bool} {a : Act} {w : World} (I : InvF κ n B ops vals vs E0 w1 listed a w) : St κ n B E0 a w :=
  ⟨Nat.le_trans I.base I.bel.size, I.defers, I.size, fun t d hl => D.OfB.up (I.facts t d hl) I.bel.size⟩
theorem setF_self {listed : Array Bool} {i : Nat} (h : i < listed.size) : (listed.setIfInBounds i true).getD i false = true := by simp [h]
theorem wp_varsF (hn0 : n ≤ vbase) (hfit : fits n ops = true) (hd : downsN ops = true) (hv : varsOkF ops vals vs = true) (hn : Kofs P B ops vals vs E0 0 ops.toList) (hsv : ∀ V ∈ vs, SurvF vs B V.f) {w1 : World}
    (hQ : ∀ l a' w', InvF κ n B ops vals vs E0 w1 l a' w' → (∀ i, i < ops.size → l.getD i false = true) → Q .normal a' w') :
    ∀ (fuel : Nat) (listed : Array Bool) (a : Act) (w : World), unlisted ops listed ≤ fuel → InvF κ n B ops vals vs E0 w1 listed a w → wpAnyIn (FR κ.rd) 0 P .any ops Q fuel listed a w := by
  have hmin : ∀ (listed : Array Bool), listed.size = ops.size → Region.ready .any ops listed = [] → ∀ i, i < ops.size → listed.getD i false = true := by
    intro listed hl hr i
    induction i using Nat.strongRecOn with
    | _ i ih =>
      intro hi
      rcases hb : listed.getD i false with _ | _
      · exfalso
        have hdi := (downs_get hd (Array.getElem?_eq_getElem hi)).2.1
        have : i ∈ Region.ready .any ops listed := by
          rw [mem_ready]
          refine ⟨?_, ops[i], Array.getElem?_eq_getElem hi, fun e he hbd => ih e.on (hdi e he hbd) (Nat.lt_trans (hdi e he hbd) hi)⟩
          have : i < listed.size := by rw [hl]; exact hi
          simp [this] at hb ⊢
          exact hb
        rw [hr] at this
        cases this
      · rfl
  intro fuel
  induction fuel with
  | zero =>
    intro listed a w hc I
    have hr : Region.ready .any ops listed = [] := by
      rcases hr : Region.ready .any ops listed with _ | ⟨i, l⟩
      · rfl
      · exfalso
        have hi : i ∈ Region.ready .any ops listed := by rw [hr]; exact List.mem_cons_self
        obtain ⟨hu, o, ho, _⟩ := mem_ready.1 hi
        have hpos : 0 < unlisted ops listed := List.countP_pos_iff.2 ⟨i, List.mem_range.2 (Array.getElem?_eq_some_iff.1 ho).1, by simp only [hu]; rfl⟩
        omega
    exact ⟨hr, hQ listed a w I (hmin listed I.lsize hr)⟩
  | succ fuel ih =>
    intro listed a w hc I
    refine ⟨fun hr => hQ listed a w I (hmin listed I.lsize hr), fun i hi => ?_⟩
    obtain ⟨hu, o, ho, hall⟩ := mem_ready.1 hi
    have hlt : i < ops.size := (Array.getElem?_eq_some_iff.1 ho).1
    have hli : i < listed.size := by rw [I.lsize]; exact hlt
    have huf : listed.getD i false = false := by
      have h1 : listed.getD i true = false := hu
      simp [hli] at h1 ⊢
      exact h1
    have hk := hn.nth (i := i) (o := o) (by simpa using ho)
    rw [Nat.zero_add] at hk
    obtain ⟨hg, _, hdis⟩ := downs_get hd ho
    have hst : ∀ {E : Env}, FromF ops vals E0 o E → ∀ t d, E.look t = some d → d.Of w (a.tmps.getD t undef) := fun {E} h => by
      induction h with
      | nil => intro t d hl; cases hl
      | all => exact fun t d hl => D.OfB.up (I.facts t d hl) I.bel.size
      | @op s v E j he hdj hvj _ ih =>
        intro t d hl
        by_cases hts : s = t
        · subst hts; rw [look_here] at hl; injection hl with hl; subst hl
          obtain ⟨e, he1, he2⟩ := Array.any_eq_true'.1 he
          simp only [Bool.and_eq_true, beq_iff_eq] at he2
          have hl := hall e he1 he2.1
          rw [he2.2] at hl
          cases hq : ops[j]? with
          | none => rw [hq] at hdj; cases hdj
          | some q =>
            rw [hq] at hdj
            exact (I.got j q _ _ hq hl hdj hvj).1
        · rw [look_past _ _ hts] at hl; exact ih t d hl
    have hE : ∀ {E : Env}, FromF ops vals E0 o E → St κ n B E a w := fun h => ⟨Nat.le_trans I.base I.bel.size, I.defers, I.size, fun t d hl => hst h t d hl⟩
    refine wpOpR_step ho fun K hK => ?_
    rw [if_pos (by simp [Region.wanted, hg])]
    have hcl : unlisted ops (listed.setIfInBounds i true) ≤ fuel := by
      have : unlisted ops (listed.setIfInBounds i true) < unlisted ops listed := by
        refine countP_lt (x := i) (fun y hy => ?_) (List.mem_range.2 hlt) (by simp only [hu]; rfl) ?_
        · by_cases hyi : i = y
          · subst hyi
            simp [hli] at hy
          · rw [getD_set_ne true hyi] at hy; exact hy
        · simp [hli]
      omega
    have hset : ∀ j, (listed.setIfInBounds i true).getD j false = true → j = i ∨ listed.getD j false = true := fun j hj => by
      by_cases hji : i = j
      · exact .inl hji.symm
      · rw [getD_set_ne false hji] at hj; exact .inr hj
    have hfar : ∀ j, j ≠ i → (listed.setIfInBounds i true).getD j false = listed.getD j false := fun j hj => getD_set_ne false (fun h => hj h.symm)
    obtain ⟨bs, hb1, hb2⟩ := I.var
    cases hk with
    | @pure _ t v E hvi hdt h0 hf hsd hok =>
      have htn : t < n := (fits_mem hfit (o := o) (by simpa using Array.mem_of_getElem? ho)).2 t hdt
      have hnot : ∀ (j : Nat) (V : VarF), vs[j]? = some V → V.a ≠ i ∧ V.s ≠ i ∧ V.t ≠ t := fun j V hj => by
        obtain ⟨h1, h2, h3, _⟩ := varsOkF_get hv hj
        have hai : V.a ≠ i := fun e => by rw [e, hvi] at h2; cases h2
        refine ⟨hai, fun e => (by rw [e, hvi] at h3; cases h3), fun e => ?_⟩
        cases hq : ops[V.a]? with
        | none => rw [hq] at h1; cases h1
        | some q =>
          rw [hq] at h1
          exact hdis V.a q hq hai (by rw [hdt]; simp) (by rw [hdt, show q.dst = some V.t from h1, e])
      have hs := hE hf
      refine wp_of_out hdt ((hok a.eval w hs.base (hs.virt hn0) fun x _ u hu => hs.at_ x _ hu).mono ?_)
      rintro x w' ⟨hgr, hx⟩
      refine hK _ _ (ih _ _ _ hcl ⟨I.base, I.bel.trans (Below.mono hgr I.bel.size), I.defers, by simp [Act.put, I.size], fun s d hs' => ?_, by simp [I.lsize], fun j q s u hj hl hds hvs => ?_, fun j V hj hl => ?_, bs, fun j V hj hl => ?_, fun j j' V V' hj hj' hl hl' => ?_⟩)
      · have hts : t ≠ s := fun e => by subst e; rw [h0] at hs'; cases hs'
        rw [getD_put_past _ _ hts]; exact (I.facts s d hs').keep (Below.mono hgr I.bel.size)
      · by_cases hji : j = i
        · subst hji
          rw [ho] at hj; injection hj with hj; subst hj
          rw [hdt] at hds; injection hds with hds; subst hds
          rw [hvi] at hvs; injection hvs with hvs; injection hvs with hvs; subst hvs
          rw [getD_put_here _ _ (by rw [I.size]; exact htn)]
          exact ⟨hx, hsd⟩
        · rw [hfar _ hji] at hl
          have hne : t ≠ s := fun he => hdis j q hj hji (by rw [hdt]; simp) (by rw [hdt, hds, he])
          rw [getD_put_past _ _ hne]
          obtain ⟨g1, g2⟩ := I.got j q s u hj hl hds hvs
          exact ⟨g1.grow hgr, g2⟩
      · obtain ⟨h1, h2, _⟩ := hnot j V hj
        rw [hfar _ h2] at hl
        rw [hfar _ h1]; exact I.cl j V hj hl
      · obtain ⟨h1, h2, h3⟩ := hnot j V hj
        rw [hfar _ h1] at hl
        obtain ⟨g1, g2, g3, g4⟩ := hb1 j V hj hl
        rw [hfar _ h2]
        exact ⟨g1, Nat.lt_of_lt_of_le g2 hgr.size, by rw [getD_put_past _ _ (fun e => h3 e.symm)]; exact g3, g4.grow g2 hgr⟩
      · rw [hfar _ (hnot j V hj).1] at hl
        rw [hfar _ (hnot j' V' hj').1] at hl'
        exact hb2 j j' V V' hj hj' hl hl'
    | @alloc t T ty pos after V j0 hV ha hT ht hz h0 =>
      subst ha hT ht
      have hds := (varsOkF_get hv hV).2.2.2.2.2.2
      have hns : V.s ≠ V.a := fun e => (varsOkF_get hv hV).2.2.2.2.2.1 e.symm
      have htn : V.t < n := (fits_mem hfit (o := ⟨some V.t, .alloc V.T, ty, pos, after, none⟩) (by simpa using Array.mem_of_getElem? ho)).2 V.t rfl
      have hrun : (execOp a.eval ⟨some V.t, .alloc V.T, ty, pos, after, none⟩).run P w = .ok (.value (.pointer (some ⟨w.heap.size, 0, none⟩))) (w.alloc (.cells V.zs.toArray V.T)) := by
        obtain ⟨i, z, hi, hz, hc⟩ := hz.get
        simp [execOp, Instr.alloc, zeroValue, typeInfo, hi, hz, newVar, newRow, hc]
      refine opR (not_defer hrun) ?_
      unfold Oper.wp
      rw [hrun, Oper.upon_value]
      have hgr : Grow w (w.alloc (.cells V.zs.toArray V.T)) := Grow.alloc w _
      have hlt1 : w.heap.size < (w.alloc (.cells V.zs.toArray V.T)).heap.size := by simp
      have hother : ∀ (j : Nat) (V' : VarF), vs[j]? = some V' → j ≠ j0 → V'.a ≠ V.a ∧ V'.s ≠ V.a ∧ V'.t ≠ V.t := fun j V' hj hne => by
        obtain ⟨h1, h2, h3, h4⟩ := hds j V' hj (fun e => hne e.symm)
        refine ⟨fun e => h1 e.symm, fun e => h3 e.symm, fun e => ?_⟩
        obtain ⟨g1, _⟩ := varsOkF_get hv hj
        cases hq : ops[V'.a]? with
        | none => rw [hq] at g1; cases g1
        | some q =>
          rw [hq] at g1
          exact hdis V'.a q hq (fun e => h1 e.symm) (by simp) (by rw [show q.dst = some V'.t from g1, e])
      have hsu : listed.getD V.s false = false := by
        rcases hb : listed.getD V.s false with _ | _
        · rfl
        · rw [I.cl j0 V hV hb] at huf; cases huf
      refine hK _ _ (ih _ _ _ hcl ⟨I.base, I.bel.trans (Below.mono hgr I.bel.size), I.defers, by simp [Act.put, I.size], fun s d hs' => ?_, by simp [I.lsize], fun j q s u hj hl hds hvs => ?_, fun j V' hj hl => ?_, fun j => if j = j0 then w.heap.size else bs j, fun j V' hj hl => ?_, fun j j' V' V'' hj hj' hl hl' hne => ?_⟩)
      · have hts : V.t ≠ s := fun e => by subst e; rw [h0] at hs'; cases hs'
        rw [getD_put_past _ _ hts]; exact (I.facts s d hs').keep (Below.mono hgr I.bel.size)
      · have hji : j ≠ V.a := fun e => by
          subst e
          rw [(varsOkF_get hv hV).2.1] at hvs; cases hvs
        rw [hfar _ hji] at hl
        have hne : V.t ≠ s := fun he => hdis j q hj hji (by simp) (by rw [hds, he])
        rw [getD_put_past _ _ hne]
        obtain ⟨g1, g2⟩ := I.got j q s u hj hl hds hvs
        exact ⟨g1.grow hgr, g2⟩
      · by_cases hj0 : j = j0
        · subst hj0; rw [hV] at hj; injection hj with hj; subst hj
          exact setF_self hli
        · obtain ⟨h1, h2, _⟩ := hother j V' hj hj0
          rw [hfar _ h2] at hl
          rw [hfar _ h1]; exact I.cl j V' hj hl
      · by_cases hj0 : j = j0
        · subst hj0; rw [hV] at hj; injection hj with hj; subst hj
          dsimp only
          rw [if_pos rfl, hfar _ hns, hsu]
          exact ⟨I.bel.size, hlt1, by rw [getD_put_here _ _ (by rw [I.size]; exact htn)], by simpa [VarF.At] using heap_alloc_new w _⟩
        · obtain ⟨h1, h2, h3⟩ := hother j V' hj hj0
          rw [hfar _ h1] at hl
          obtain ⟨g1, g2, g3, g4⟩ := hb1 j V' hj hl
          dsimp only
          rw [if_neg hj0, hfar _ h2]
          exact ⟨g1, Nat.lt_of_lt_of_le g2 hgr.size, by rw [getD_put_past _ _ (fun e => h3 e.symm)]; exact g3, g4.grow g2 hgr⟩
      · show (if j = j0 then w.heap.size else bs j) ≠ if j' = j0 then w.heap.size else bs j'
        by_cases hj0 : j = j0
        · rw [if_pos hj0, if_neg (fun e => hne (by rw [hj0, e]))]
          rw [hfar _ (hother j' V'' hj' (fun e => hne (by rw [hj0, e]))).1] at hl'
          have := (hb1 j' V'' hj' hl').2.1
          omega
        · rw [if_neg hj0]
          rw [hfar _ (hother j V' hj hj0).1] at hl
          by_cases hj0' : j' = j0
          · rw [if_pos hj0']
            have := (hb1 j V' hj hl).2.1
            omega
          · rw [if_neg hj0']
            rw [hfar _ (hother j' V'' hj' hj0').1] at hl'
            exact hb2 j j' V' V'' hj hj' hl hl' hne
    | @store t T ty x pos after V dx j0 E hV hs hT ht he hf hx hle hsz hl0 hag =>
      subst hs hT ht
      have hds := (varsOkF_get hv hV).2.2.2.2.2.2
      have hna : V.a ≠ V.s := (varsOkF_get hv hV).2.2.2.2.2.1
      have hla : listed.getD V.a false = true := by
        obtain ⟨e, he1, he2⟩ := Array.any_eq_true'.1 he
        simp only [Bool.and_eq_true, beq_iff_eq] at he2
        have hl := hall e he1 he2.1
        rwa [he2.2] at hl
      obtain ⟨g1, g2, g3, g4⟩ := hb1 j0 V hV hla
      rw [huf] at g4
      have g4 : w.heap[bs j0]? = some (.cells V.zs.toArray V.T (0, 0)) := g4
      have hp' : a.eval (.tmp V.t) = .pointer (some ⟨bs j0, 0, none⟩) := g3
      have hfx := hle.of ((hE hf).at_ x _ hx)
      obtain ⟨cs, hx', hcm, h1⟩ := hag _ _ _ hfx
      have hVm : V ∈ vs := List.mem_of_getElem? hV
      have hrun : (execOp a.eval ⟨none, .store V.T (.tmp V.t) x, ty, pos, after, none⟩).run P w = .ok .skip (w.setRow (bs j0) cs.toArray) := by
        have := run_storeVar_row (P := P) w (bs j0) V.T V.T V.zs.toArray cs.toArray g4 (by simpa [SizeIs, hcm] using hsz) (by simpa [hcm] using hl0) (by simpa using h1)
        simp [execOp, hp', hx', Instr.storeAt, Instr.sureAddr, aggV, this]
      refine opR (by nofun) ?_
      unfold Oper.wp
      rw [hrun, Oper.upon_skip]
      have hput : a.put (none : Option Tmp) undef = a := rfl
      try rw [hput]
      have hwr := Wrote.setRow (B := w1.heap.size) g1 g4 cs.toArray
      have hbw : Below w1.heap.size w (w.setRow (bs j0) cs.toArray) := hwr.below I.bel.size
      have hsame : ∀ k, k ≠ bs j0 → (w.setRow (bs j0) cs.toArray).heap[k]? = w.heap[k]? := fun k hk => setRow_other w (bs j0) k cs.toArray hk
      have hhere : (w.setRow (bs j0) cs.toArray).heap[bs j0]? = some (.cells cs.toArray V.T (0, 0)) := by simp [World.setRow, Array.getElem?_modify, g4]
      have hsz' : (w.setRow (bs j0) cs.toArray).heap.size = w.heap.size := by simp [World.setRow]
      have hother : ∀ (j : Nat) (V' : VarF), vs[j]? = some V' → j ≠ j0 → V'.a ≠ V.s ∧ V'.s ≠ V.s := fun j V' hj hne => by
        obtain ⟨h1, h2, h3, h4⟩ := hds j V' hj (fun e => hne e.symm)
        exact ⟨fun e => h4 e.symm, fun e => h2 e.symm⟩
      refine hK _ _ (ih _ _ _ hcl ⟨I.base, I.bel.trans hbw, I.defers, I.size, fun s d hs' => (I.facts s d hs').keep hbw, by simp [I.lsize], fun j q s u hj hl hds hvs => ?_, fun j V' hj hl => ?_, bs, fun j V' hj hl => ?_, fun j j' V' V'' hj hj' hl hl' hne => ?_⟩)
      · have hji : j ≠ V.s := fun e => by
          subst e
          rw [(varsOkF_get hv hV).2.2.1] at hvs; cases hvs
        rw [hfar _ hji] at hl
        obtain ⟨k1, k2⟩ := I.got j q s u hj hl hds hvs
        exact ⟨k2 V hVm w1.heap.size (bs j0) (Nat.le_trans I.base g1) _ _ _ hwr k1, k2⟩
      · by_cases hj0 : j = j0
        · subst hj0; rw [hV] at hj; injection hj with hj; subst hj
          rw [hfar _ hna]; exact hla
        · obtain ⟨h1, h2⟩ := hother j V' hj hj0
          rw [hfar _ h2] at hl
          rw [hfar _ h1]; exact I.cl j V' hj hl
      · by_cases hj0 : j = j0
        · subst hj0; rw [hV] at hj; injection hj with hj; subst hj
          rw [setF_self hli]
          rw [hx'] at hfx
          exact ⟨g1, by rw [hsz']; exact g2, g3, cs, hcm, h1, hhere, hsv V hVm V hVm w1.heap.size _ (Nat.le_trans I.base g1) _ _ _ hwr hfx⟩
        · obtain ⟨h1, h2⟩ := hother j V' hj hj0
          rw [hfar _ h1] at hl
          obtain ⟨k1, k2, k3, k4⟩ := hb1 j V' hj hl
          rw [hfar _ h2]
          exact ⟨k1, by rw [hsz']; exact k2, k3, k4.wrote (hb2 j j0 V' V hj hV hl hla hj0) k2 hwr (hsv V' (List.mem_of_getElem? hj) V hVm w1.heap.size (bs j0) (Nat.le_trans I.base g1))⟩
      · have e1 : ∀ {j : Nat} {V' : VarF}, vs[j]? = some V' → (listed.setIfInBounds V.s true).getD V'.a false = true → listed.getD V'.a false = true := fun {j V'} hj hl => by
          by_cases hj0 : j = j0
          · subst hj0; rw [hV] at hj; injection hj with hj; subst hj; exact hla
          · rwa [hfar _ (hother j V' hj hj0).1] at hl
        exact hb2 j j' V' V'' hj hj' (e1 hj hl) (e1 hj' hl') hne
/-- The environment that the new variables give. -/
def varEnvF (bs : Nat → Nat) : Nat → List VarF → Env → Env
  | _, [], E => E
  | j, V :: r, E => (V.t, .v (.pointer (some ⟨bs j, 0, none⟩))) :: (1000000 + V.t, varK (bs j) V.T V.m V.f) :: varEnvF bs (j + 1) r E
theorem varEnvF_look {bs : Nat → Nat} {E : Env} {t : Nat} {d : D} : ∀ {l : List VarF} {j : Nat}, (varEnvF bs j l E).look t = some d → (∃ k V, l[k]? = some V ∧ ((t = V.t ∧ d = .v (.pointer (some ⟨bs (j + k), 0, none⟩))) ∨ (t = 1000000 + V.t ∧ d = varK (bs (j + k)) V.T V.m V.f))) ∨ E.look t = some d
  | [], _, h => .inr h
  | V :: r, j, h => by
    unfold varEnvF at h
    by_cases h1 : V.t = t
    · subst h1; rw [look_here] at h; injection h with h
      exact .inl ⟨0, V, rfl, .inl ⟨rfl, h.symm⟩⟩
    · rw [look_past _ _ h1] at h
      by_cases h2 : 1000000 + V.t = t
      · subst h2; rw [look_here] at h; injection h with h
        exact .inl ⟨0, V, rfl, .inr ⟨rfl, h.symm⟩⟩
      · rw [look_past _ _ h2] at h
        rcases varEnvF_look h with ⟨k, V', h3, h4⟩ | h3
        · exact .inl ⟨k + 1, V', by simpa using h3, by rw [show j + (k + 1) = j + 1 + k from by omega]; exact h4⟩
        · exact .inr h3
theorem A.regsVF {w₀ : World} {y : Code} {E1 : Env} {id : Nat} (vals : List (Option D)) (vs : List VarF) (hm : P.follows .mixedOrders = true) (hfit : fits n ops = true) (hd : downsN ops = true) (hv : varsOkF ops vals vs = true) (hn : Kofs P w₀.heap.size ops vals vs E0 0 ops.toList) (hsv : ∀ V ∈ vs, SurvF vs w₀.heap.size V.f) (hf : FromFW ops vals E0 E1)
    (h : ∀ bs : Nat → Nat, (∀ j, j < vs.length → NewK w₀.heap.size E0 (bs j)) → (∀ j j', j < vs.length → j' < vs.length → j ≠ j' → bs j ≠ bs j') → A κ P w₀ n y (varEnvF bs 0 vs E1) Q) : A κ P w₀ n (.seq (.region id ops true) y) E0 Q := A.seq fun a w hg hst => by
  have hdr : Below w₀.heap.size w w.drew := (Below.refl _ w).drew
  have hn0 := fits_base hfit
  have hst' := hst.grow (Grow.refl w).drew
  have hfin : ∀ l a' w', InvF κ n w₀.heap.size ops vals vs E0 w.drew l a' w' → (∀ i, i < ops.size → l.getD i false = true) → Exit.then (y.wpIn (FR κ.rd) 0 P Q) Q .normal a' w' := fun l a' w' I hall => by
    have key : ∀ t d, E1.look t = some d → d.Of w' (a'.tmps.getD t undef) := by
      clear h
      induction hf with
      | all => exact I.st.of
      | @op s v E j hdj hvj _ ih =>
        intro t d hl
        by_cases hts : s = t
        · subst hts; rw [look_here] at hl; injection hl with hl; subst hl
          cases hq : ops[j]? with
          | none => rw [hq] at hdj; cases hdj
          | some q =>
            rw [hq] at hdj
            exact (I.got j q _ _ hq (hall j (Array.getElem?_eq_some_iff.1 hq).1) hdj hvj).1
        · rw [look_past _ _ hts] at hl; exact ih t d hl
    obtain ⟨bs, hb1, hb2⟩ := I.var
    have hla : ∀ (j : Nat) (V : VarF), vs[j]? = some V → l.getD V.a false = true := fun j V hj => hall _ (varsOkF_get hv hj).2.2.2.1
    have hls : ∀ (j : Nat) (V : VarF), vs[j]? = some V → l.getD V.s false = true := fun j V hj => hall _ (varsOkF_get hv hj).2.2.2.2.1
    refine h bs (fun j hj => ?_) (fun j j' hj hj' hne => hb2 j j' _ _ (List.getElem?_eq_getElem hj) (List.getElem?_eq_getElem hj') (hla _ _ (List.getElem?_eq_getElem hj)) (hla _ _ (List.getElem?_eq_getElem hj')) hne) a' w' (hg.trans (hdr.trans (Below.mono I.bel I.base))) ⟨Nat.le_trans I.base I.bel.size, I.defers, I.size, fun t d hl => ?_⟩
    · have hk := (hb1 j _ (List.getElem?_eq_getElem hj) (hla _ _ (List.getElem?_eq_getElem hj))).1
      exact ⟨Nat.le_trans I.base hk, fun s b' e xs hs => Nat.lt_of_lt_of_le (hst'.of s _ hs).1 hk, fun s b' e m d hs => Nat.lt_of_lt_of_le (hst'.of s _ hs).1 hk⟩
    · rcases varEnvF_look hl with ⟨k, V, hk, hd'⟩ | hl
      · rw [Nat.zero_add] at hd'
        obtain ⟨g1, g2, g3, g4⟩ := hb1 k V hk (hla k V hk)
        rw [hls k V hk] at g4
        rcases hd' with ⟨rfl, rfl⟩ | ⟨rfl, rfl⟩
        · exact g3
        · exact ⟨g2, g4⟩
      · exact key t d hl
  refine wpIn_region_any hm (wp_varsF hn0 hfit hd hv hn hsv hfin _ _ _ _ ?_ ⟨hst'.base, Below.refl _ _, hst'.defers, hst'.size, fun t d hl => hst'.of t d hl, by simp, fun i o t v hi hl => ?_, fun j V hj hl => ?_, fun _ => 0, fun j V hj hl => ?_, fun j j' V V' hj _ hl => ?_⟩)
  · refine Nat.le_trans List.countP_le_length ?_
    simp
  · simp [(Array.getElem?_eq_some_iff.1 hi).1] at hl
  · simp [(varsOkF_get hv hj).2.2.2.2.1] at hl
  · simp [(varsOkF_get hv hj).2.2.2.1] at hl
  · simp [(varsOkF_get hv hj).2.2.2.1] at hl
/-! ### The same, operation by operation -/
theorem FromF.more {vals : List (Option D)} {o : Oper} {E : Env} {pre : List (Option D)} (hp : ∀ (j : Nat) (v : Option D), pre[j]? = some v → vals[j]? = some v) (h : FromF ops pre E0 o E) : FromF ops vals E0 o E := by
  induction h with
  | nil => exact .nil
  | all => exact .all
  | op j he hd hv _ ih => exact .op j he hd (hp _ _ hv) ih
/-- From here on; pre is what is known of what the operations before have yielded. -/
def KofsK (P : Program) (B : Nat) (ops : Array Oper) (vs : List VarF) (E0 : Env) (rest : List Oper) (pre : List (Option D)) (C : List (Option D) → Prop) : Prop :=
  ∃ vals : List (Option D), (∀ (j : Nat) (v : Option D), pre[j]? = some v → vals[j]? = some v) ∧ Kofs P B ops vals vs E0 pre.length rest ∧ C vals
theorem KofsK.nil {pre : List (Option D)} {C : List (Option D) → Prop} (h : C pre) : KofsK P B ops vs E0 [] pre C := ⟨pre, fun _ _ h => h, .nil, h⟩
theorem KofsK.pure {o : Oper} {rest : List Oper} {pre : List (Option D)} {C : List (Option D) → Prop} {t : Nat} {v : D} (E : Env) (hd : o.dst = some t) (h0 : E0.look t = none) (hf : FromF ops pre E0 o E) (hok : OpOk P B o E v) (hs : SurvF vs B v)
    (hr : KofsK P B ops vs E0 rest (pre ++ [some v]) C) : KofsK P B ops vs E0 (o :: rest) pre C := by
  obtain ⟨vals, h1, h2, h3⟩ := hr
  obtain ⟨h4, h5⟩ := pre_snoc h1
  exact ⟨vals, h4, .cons (.pure E h5 hd h0 (hf.more h4) hs hok) (by simpa using h2), h3⟩
theorem KofsK.alloc {rest : List Oper} {pre : List (Option D)} {C : List (Option D) → Prop} {t : Tmp} {T ty : TypeId} {pos : String} {after : Array Edge} {V : VarF} (j : Nat) (hV : vs[j]? = some V) (ha : V.a = pre.length) (hT : V.T = T) (ht : V.t = t) (hz : ZeroIs P T V.zs) (h0 : E0.look t = none)
    (hr : KofsK P B ops vs E0 rest (pre ++ [none]) C) : KofsK P B ops vs E0 (⟨some t, .alloc T, ty, pos, after, none⟩ :: rest) pre C := by
  obtain ⟨vals, h1, h2, h3⟩ := hr
  obtain ⟨h4, _⟩ := pre_snoc h1
  exact ⟨vals, h4, .cons (.alloc j hV ha hT ht hz h0) (by simpa using h2), h3⟩
theorem KofsK.store {rest : List Oper} {pre : List (Option D)} {C : List (Option D) → Prop} {t T ty : TypeId} {x : Operand} {pos : String} {after : Array Edge} {V : VarF} {dx : D} (j : Nat) (E : Env) (hV : vs[j]? = some V) (hs : V.s = pre.length) (hT : V.T = T) (ht : V.t = t) (he : (after.any fun e => Region.binds .any e && e.on == V.a) = true)
    (hf : FromF ops pre E0 ⟨none, .store T (.tmp t) x, ty, pos, after, none⟩ E) (hx : E.at x = some dx) (hle : Le dx V.f) (hsz : SizeIs P T V.m) (hl : V.zs.length = V.m) (h1 : Agg V.m V.f)
    (hr : KofsK P B ops vs E0 rest (pre ++ [none]) C) : KofsK P B ops vs E0 (⟨none, .store T (.tmp t) x, ty, pos, after, none⟩ :: rest) pre C := by
  obtain ⟨vals, g1, g2, g3⟩ := hr
  obtain ⟨g4, _⟩ := pre_snoc g1
  exact ⟨vals, g4, .cons (.store j E hV hs hT ht he (hf.more g4) hx hle hsz hl h1) (by simpa using g2), g3⟩
theorem SurvF.nil {vs : List VarF} {P : VarF → Prop} (h : vs = []) : ∀ V ∈ vs, P V := fun V hV => by subst h; cases hV
theorem SurvF.cons {V : VarF} {vs : List VarF} {Q : VarF → Prop} (h : Q V) (hr : ∀ W ∈ vs, Q W) : ∀ W ∈ V :: vs, Q W := fun W hW => by
  rcases List.mem_cons.1 hW with rfl | hW
  · exact h
  · exact hr W hW
theorem A.regsF {w₀ : World} {y : Code} {id : Nat} (vs : List VarF) (hm : P.follows .mixedOrders = true) (hfit : fits n ops = true) (hd : downsN ops = true) (hsv : ∀ V ∈ vs, SurvF vs w₀.heap.size V.f)
    (h : KofsK P w₀.heap.size ops vs E0 ops.toList [] fun vals => varsOkF ops vals vs = true ∧ ∃ E1, FromFW ops vals E0 E1 ∧ ∀ bs : Nat → Nat, (∀ j, j < vs.length → NewK w₀.heap.size E0 (bs j)) → (∀ j j', j < vs.length → j' < vs.length → j ≠ j' → bs j ≠ bs j') → A κ P w₀ n y (varEnvF bs 0 vs E1) Q) : A κ P w₀ n (.seq (.region id ops true) y) E0 Q := by
  obtain ⟨vals, _, h2, h3, E1, h4, h5⟩ := h
  exact A.regsVF vals vs hm hfit hd h3 h2 hsv h4 h5
end
end Go.Proofs.Ytdhbhcbkhkopbaa
namespace Go.Proofs.Ytdhbhcbkhkopbaa
open Go Go.RowKit
set_option linter.unusedVariables false
set_option maxRecDepth 20000
set_option linter.unusedSimpArgs false

theorem opStep_ne {o : OpT} {S : Dk} {i : Nat} (h : i ≠ opAt o S.length) : hisC (opStep o S).1 i = hisC S i := by
 unfold opStep
 repeat' split
 all_goals first | rfl | exact his_put_ne _ (fun e => h e.symm)
theorem opStep_err {o : OpT} {S : Dk} (h : (opStep o S).2 ≠ 0) : (opStep o S).1 = S := by
 revert h
 unfold opStep
 repeat' split
 all_goals first | (intro h; rfl) | (intro h; exact absurd rfl h)
theorem opStep_ok {o : OpT} {S : Dk} (h : (opStep o S).2 = 0) : ∃ c, (opStep o S).1 = putC S (opAt o S.length) c := by
 revert h
 unfold opStep
 repeat' split
 all_goals first | (intro h; exact ⟨_, rfl⟩) | (intro h; simp at h)

set_option maxHeartbeats 1000000 in
theorem DisksSame_fn (z : UInt8) (L : List OpT) (z' : UInt8) (L' : List OpT) : Fn Try.prog 6 [xD z L, xD z' L'] (.v (.bool true)) := by
 have hn : (xS z L).length ≤ 10922 := by rw [xS_len]; have := nOf_le z; omega
 have ht : totC (xS z L) ≤ 1000000 := Nat.le_trans (xS_tot z L) (by decide)
 have hS : 0 < (xS z L).length := by rw [xS_len]; exact nOf_pos z
 have hn' : (xS z' L').length ≤ 10922 := by rw [xS_len]; have := nOf_le z'; omega
 have ht' : totC (xS z' L') ≤ 1000000 := Nat.le_trans (xS_tot z' L') (by decide)
 have hS' : 0 < (xS z' L').length := by rw [xS_len]; exact nOf_pos z'
 refine Fn.of Try.func6 rfl (by kernel_rfl) Try.ntmps6 (by simp) (fun w => [(0, old w.heap.size (xD z L)), (1, old w.heap.size (xD z' L'))]) (fun w => (Start.old rfl (Start.old rfl Start.nil))) fun w₀ => ?_
 refine A.nameTl (t := 0) (k := 1000200) rfl fun v hv1 => ?_
 refine A.nameTl (t := 1) (k := 1000201) rfl fun v' hv'1 => ?_
 refine GS ?_
 refine TN 0 ?_
 refine RN ?_
 refine ⟨_, _, eff_box (n := 37) (d := 2) (k := 1000002) rfl (by decide), fun b2 hb2 => ?_⟩
 have hBb2 := hb2.1
 refine TN 1 ?_
 refine RN ?_
 refine ⟨_, _, eff_box (n := 37) (d := 3) (k := 1000003) rfl (by decide), fun b3 hb3 => ?_⟩
 have hBb3 := hb3.1
 have hlt_b2_b3 : b2 < b3 := hb3.2 1000002 _ _ _ rfl
 refine TL ?_
 refine RA rfl ?_
 refine RN ?_
 refine A.regsF [⟨4, 5, 27, [.int .i64 0] ++ [.int .i64 0] ++ [.slice none 0 0], 6, 3, diskD dT X0 (xS z L)⟩, ⟨5, 6, 27, [.int .i64 0] ++ [.int .i64 0] ++ [.slice none 0 0], 7, 3, diskD dT X0 (xS z' L')⟩] (by kernel_rfl) (by kernel_rfl) (by kernel_rfl) (SurvF.cons (SurvF.cons (fun B' g hg => (show Surv B' 27 g _ from Surv.disk (.inl (by decide)))) (SurvF.cons (fun B' g hg => (show Surv B' 27 g _ from Surv.disk (.inl (by decide)))) (SurvF.nil rfl))) (SurvF.cons (SurvF.cons (fun B' g hg => (show Surv B' 27 g _ from Surv.disk (.inl (by decide)))) (SurvF.cons (fun B' g hg => (show Surv B' 27 g _ from Surv.disk (.inl (by decide)))) (SurvF.nil rfl))) (SurvF.nil rfl))) ?_
 refine KofsK.pure (_) rfl rfl FromF.all (OpOk.tlO (k := 1000200) [byteV z] (ok_loadA (s := 1000002) (by decide) Try.underlying24 rfl (size24.of (rfl)) rfl rfl) rfl hv1 (by decide) rfl) (SurvF.cons (fun B' g hg => (show Surv B' 27 g _ from Surv.old hg)) (SurvF.cons (fun B' g hg => (show Surv B' 27 g _ from Surv.old hg)) (SurvF.nil rfl))) ?_
 refine KofsK.pure ((8, _) :: _) rfl rfl (FromF.op 0 (by kernel_rfl) rfl rfl FromF.all) (ok_call (xOf_fn z L) (Args.cons rfl (Le.old _ _) Args.nil)) (SurvF.cons (fun B' g hg => (show Surv B' 27 g _ from Surv.disk (.inl (by decide)))) (SurvF.cons (fun B' g hg => (show Surv B' 27 g _ from Surv.disk (.inl (by decide)))) (SurvF.nil rfl))) ?_
 refine KofsK.pure (_) rfl rfl FromF.all (OpOk.tlO (k := 1000201) [byteV z'] (ok_loadA (s := 1000003) (by decide) Try.underlying24 rfl (size24.of (rfl)) rfl rfl) rfl hv'1 (by decide) rfl) (SurvF.cons (fun B' g hg => (show Surv B' 27 g _ from Surv.old hg)) (SurvF.cons (fun B' g hg => (show Surv B' 27 g _ from Surv.old hg)) (SurvF.nil rfl))) ?_
 refine KofsK.pure ((10, _) :: _) rfl rfl (FromF.op 2 (by kernel_rfl) rfl rfl FromF.all) (ok_call (xOf_fn z' L') (Args.cons rfl (Le.old _ _) Args.nil)) (SurvF.cons (fun B' g hg => (show Surv B' 27 g _ from Surv.disk (.inl (by decide)))) (SurvF.cons (fun B' g hg => (show Surv B' 27 g _ from Surv.disk (.inl (by decide)))) (SurvF.nil rfl))) ?_
 refine KofsK.alloc 0 rfl rfl rfl rfl zero27 rfl ?_
 refine KofsK.alloc 1 rfl rfl rfl rfl zero27 rfl ?_
 refine KofsK.store 0 ((9, _) :: _) rfl rfl rfl rfl (by kernel_rfl) (FromF.op 1 (by kernel_rfl) rfl rfl FromF.all) rfl (Le.refl _) size27 rfl (Agg.disk) ?_
 refine KofsK.store 1 ((11, _) :: _) rfl rfl rfl rfl (by kernel_rfl) (FromF.op 3 (by kernel_rfl) rfl rfl FromF.all) rfl (Le.refl _) size27 rfl (Agg.disk) ?_
 refine KofsK.nil ⟨by kernel_rfl, _, FromFW.all, fun bs hbs hds => ?_⟩
 have hb5 := hbs 0 (by simp)
 have hb6 := hbs 1 (by simp)
 have hne_b5_b6 := hds 0 1 (by simp) (by simp) (by decide)
 dsimp only [varEnvF]
 generalize bs 0 = b5 at *
 generalize bs (0 + 1) = b6 at *
 have hBb5 := hb5.1
 have hlt_b2_b5 : b2 < b5 := hb5.2.1 1000002 _ _ _ rfl
 have hlt_b3_b5 : b3 < b5 := hb5.2.1 1000003 _ _ _ rfl
 have hBb6 := hb6.1
 have hlt_b2_b6 : b2 < b6 := hb6.2.1 1000002 _ _ _ rfl
 have hlt_b3_b6 : b3 < b6 := hb6.2.1 1000003 _ _ _ rfl
 refine A.sub (KC 2 rfl (KC 3 rfl (KC 5 rfl (KC 6 rfl (KC 1000002 rfl (KC 1000003 rfl (KC 1000005 rfl (KC 1000006 rfl (KC 1000200 rfl (KC 1000201 rfl KN)))))))))) ?_
 refine GD ?_
 refine TL ?_
 refine RS (OpOk.tlO (k := 1000200) [byteV z] (ok_loadA (s := 1000002) (by decide) Try.underlying24 rfl (size24.of (rfl)) rfl rfl) rfl hv1 (by decide) rfl) ?_
 refine RS (ok_call (xRef_fn z L) (Args.cons rfl (Le.old _ _) Args.nil)) ?_
 refine RS (OpOk.tlO (k := 1000201) [byteV z'] (ok_loadA (s := 1000003) (by decide) Try.underlying24 rfl (size24.of (rfl)) rfl rfl) rfl hv'1 (by decide) rfl) ?_
 refine RS (ok_call (xRef_fn z' L') (Args.cons rfl (Le.old _ _) Args.nil)) ?_
 refine RS (ok_call (rSame_fn (xS z L) (xS z' L') hn hn' ht ht') (Args.cons rfl LA (Args.cons rfl LA Args.nil))) ?_
 refine RA rfl ?_
 refine RN ?_
 refine GS ?_
 refine TL ?_
 refine RS (ok_loadVK (s := 1000005) (by decide) Try.underlying27 rfl size27 rfl rfl) ?_
 refine RS (ok_loadVK (s := 1000006) (by decide) Try.underlying27 rfl size27 rfl rfl) ?_
 refine RS (ok_call (dSame_fn X0 X0 (xS z L) (xS z' L') hn hn') (Args.cons rfl LA (Args.cons rfl LA Args.nil))) ?_
 refine RM rfl ?_
 refine RS (ok_beq Try.underlying4 rfl rfl) ?_; refine RZ (.bool true) (by simp) ?_
 refine RM rfl ?_
 refine RQ (ok_loadVK (s := 1000006) (by decide) Try.underlying27 rfl size27 rfl rfl) ?_
 refine RQ (ok_loadVK (s := 1000005) (by decide) Try.underlying27 rfl size27 rfl rfl) ?_
 refine RQ (ok_call (dSame_fn X0 X0 (xS z' L') (xS z L) hn' hn) (Args.cons rfl LA (Args.cons rfl LA Args.nil))) ?_; refine RZ (.bool (sameB (xS z L) (xS z' L'))) (congrArg Value.bool (sameB_comm _ _)) ?_
 refine RQ (ok_move rfl) ?_
 refine RQ (ok_beq Try.underlying4 rfl rfl) ?_; refine RZ (.bool true) (by simp) ?_
 refine RP rfl rfl ?_
 refine RM rfl ?_
 refine RQ (ok_loadVK (s := 1000005) (by decide) Try.underlying27 rfl size27 rfl rfl) ?_
 refine RQ (ok_loadVK (s := 1000005) (by decide) Try.underlying27 rfl size27 rfl rfl) ?_
 refine RQ (ok_call (dSame_fn X0 X0 (xS z L) (xS z L) hn hn) (Args.cons rfl LA (Args.cons rfl LA Args.nil))) ?_; refine RZ (.bool true) (congrArg Value.bool (sameB_t ⟨rfl, fun _ _ => rfl⟩)) ?_
 refine RP rfl rfl ?_
 refine RM rfl ?_
 refine RQ (ok_call (lives14_fn) Args.nil) ?_
 refine RP rfl rfl ?_
 refine RA rfl ?_
 refine RN ?_
 refine A.sub (KC 4 rfl (KC 1000002 rfl (KC 1000003 rfl (KC 1000005 rfl (KC 1000006 rfl (KC 1000200 rfl (KC 1000201 rfl KN))))))) ?_
 refine A.ret ?_
 exact End.ret1 rfl rfl (by first | exact Le.refl _ | exact Le.old _ _)
set_option maxHeartbeats 2000000 in
theorem DisksScript_fn (z : UInt8) (L : List OpT)  : Fn Try.prog 3 [xD z L] (.v (.bool true)) := by
 have hnz : (List.replicate (nOf z) ([] : List Con)).length ≤ 10922 := by rw [List.length_replicate]; have := nOf_le z; omega
 have htz : totC (List.replicate (nOf z) []) ≤ 1000000 := by rw [totC_rep]; decide
 refine Fn.of Try.func3 rfl (by kernel_rfl) Try.ntmps3 (by simp) (fun w => [(0, old w.heap.size (xD z L))]) (fun w => (Start.old rfl Start.nil)) fun w₀ => ?_
 refine A.nameTl (t := 0) (k := 1000200) rfl fun v hv1 => ?_
 refine GS ?_
 refine TN 0 ?_
 refine RN ?_
 refine ⟨_, _, eff_box (n := 69) (d := 1) (k := 1000001) rfl (by decide), fun b1 hb1 => ?_⟩
 have hBb1 := hb1.1
 refine TL ?_
 refine RA rfl ?_
 refine RN ?_
 refine GS ?_
 refine TN 6 ?_
 refine RS (OpOk.tlO (k := 1000200) [byteV z] (ok_loadA (s := 1000001) (by decide) Try.underlying24 rfl (size24.of (rfl)) rfl rfl) rfl hv1 (by decide) rfl) ?_
 refine RS (ok_call (xSize_fn z L) (Args.cons rfl (Le.old _ _) Args.nil)) ?_
 refine RS (ok_call (dNew_ok (nOf z) (nOf_pos z) (by have := nOf_le z; omega)) (Args.cons rfl LA Args.nil)) ?_
 refine RM rfl ?_
 refine RS (ok_extract rfl rfl) ?_
 refine RS (ok_extract rfl rfl) ?_
 refine RN ?_
 refine ⟨_, _, eff_alloc (n := 69) (d := 3) (k := 1000003) zero27 (by decide), fun b3 hb3 => ?_⟩
 have hBb3 := hb3.1
 refine TF 7 ?_
 refine RN ?_
 refine ⟨_, eff_storeK (n := 69) (s := 1000003) size27 rfl rfl (Le.refl _) (Agg.disk) hBb3 rfl (rfl) (Surv.disk (.inl (by decide))) (LV 1 rfl (LV 3 rfl (LV 14 rfl (LT 1000001 rfl (LO 1000200 rfl LN))))), ?_⟩
 refine TL ?_
 refine RA rfl ?_
 refine RN ?_
 refine GS ?_
 refine TN 3 ?_
 refine RS (OpOk.tlO (k := 1000200) [byteV z] (ok_loadA (s := 1000001) (by decide) Try.underlying24 rfl (size24.of (rfl)) rfl rfl) rfl hv1 (by decide) rfl) ?_
 refine RS (ok_call (xSize_fn z L) (Args.cons rfl (Le.old _ _) Args.nil)) ?_
 refine RS (ok_call (rNew_fn (nOf z) (by have := nOf_le z; omega)) (Args.cons rfl LA Args.nil)) ?_
 refine RN ?_
 refine ⟨_, _, eff_allocV (n := 69) (d := 5) (k := 1000005) zero34 (by decide), fun b5 hb5 => ?_⟩
 have hBb5 := hb5.1
 refine TF 4 ?_
 refine RN ?_
 refine ⟨_, eff_storeK (n := 69) (s := 1000005) size34 rfl rfl (Le.refl _) (Agg.ref) hBb5 rfl (rfl) (Surv.ref (by decide) (by decide)) (LV 1 rfl (LV 3 rfl (LV 4 rfl (LV 5 rfl (LT 1000001 rfl (LeftS.cons (t := 1000003) rfl (Surv.varKT (by decide) (Surv.disk (.inl (by decide)))) (LO 1000200 rfl LN))))))), ?_⟩
 refine TL ?_
 refine RN ?_
 refine A.seq ?_
 refine GS ?_
 refine TL ?_
 refine RM rfl ?_
 refine RBS rfl rfl rfl (.bool false) (rfl) ?_
 refine RM rfl ?_
 refine RQ (ok_loadVK (s := 1000003) (by decide) Try.underlying27 rfl size27 rfl rfl) ?_
 refine RQ (ok_loadVK (s := 1000005) (by decide) Try.underlying34 rfl size34 rfl rfl) ?_
 refine RQ (ok_call (equal_fn X0 (List.replicate (nOf z) []) hnz htz) (Args.cons rfl LA (Args.cons rfl LA Args.nil))) ?_
 refine RQ (ok_bin rfl rfl rfl) ?_; refine RZ (.bool false) (rfl) ?_
 refine RP rfl rfl ?_
 refine RN ?_
 refine A.no rfl ?_
 refine A.skip ?_
 refine EN ?_
 refine A.seq ?_
 refine GS ?_
 refine TL ?_
 refine RA rfl ?_
 refine RN ?_
 refine A.sub (KC 1 rfl (KC 3 rfl (KC 5 rfl (KC 6 rfl (KC 1000001 rfl (KC 1000003 rfl (KC 1000005 rfl (KC 1000200 rfl KN)))))))) ?_
 refine A.block ?_
 refine A.loop (ι := Nat) (fun i => i ≤ min L.length 60) (fun i => [(1, .v (ptr b1)), (3, .v (ptr b3)), (5, .v (ptr b5)), (6, .v (nI (i))), (1000001, blk b1 24 [byteV z, v]), (1000003, varK b3 27 3 (diskD dT X0 (runOps (nOf z) (L.take i)))), (1000005, varK b5 34 1 (refD 61 51 ((runOps (nOf z) (L.take i))))), (1000200, old w₀.heap.size (valM v (lstK 4 (L.map opD))))]) (fun i => min L.length 60 - i) 0 ?_ ?_ ?_
 ·exact Nat.zero_le _
 ·exact (KC 1 rfl (KC 3 rfl (KC 5 rfl (KE 6 rfl (by rfl) (KC 1000001 rfl (KE 1000003 rfl (by rw [runOps_zero]) (KE 1000005 rfl (by rw [runOps_zero]) (KC 1000200 rfl KN))))))))
 intro i hG
 replace hG : i ≤ min L.length 60 := hG
 refine A.seq ?_
 rcases Bool.eq_false_or_eq_true (decide (i < L.length)) with hsp | hsp
 ·refine GS ?_
  refine TL ?_
  refine RM rfl ?_
  refine RS (ok_field field24_1 (by decide) rfl) ?_
  refine RS (OpOk.valO (k := 1000200) (ok_loadV (s := 1000001) (by decide) Try.underlying22 rfl rfl rfl (rfl)) (by decide) rfl) ?_
  refine RS (ok_lenK Try.underlying22 rfl (Le.old _ _)) ?_; refine RZ (nI (L.length)) (by rw [List.length_map]) ?_
  refine RBS rfl rfl rfl (.bool true) (congrArg Value.bool (by simpa using hsp)) ?_
  refine RM rfl ?_
  refine RQ (ok_move rfl) ?_
  refine RQ (ok_bin rfl rfl rfl) ?_
  refine RP rfl rfl ?_
  refine RN ?_
  refine A.cond rfl (fun hc34 => ?_) (fun hc34 => ?_)
  ·have hi : i < L.length ∧ i < 60 := ⟨of_decide_eq_true hsp, by simp at hc34; omega⟩
   refine A.skip ?_
   refine EN ?_
   refine A.seq ?_
   refine A.block ?_
   refine GS ?_
   refine TL ?_
   refine RA rfl ?_
   refine RA rfl ?_
   refine RN ?_
   refine A.seq ?_
   refine A.regL0 12 [11] (by kernel_rfl) (by kernel_rfl) (by kernel_rfl) (by kernel_rfl) [(1, .v (ptr b1)), (3, .v (ptr b3)), (5, .v (ptr b5)), (6, .v (nI (i))), (7, .v (.int .i64 ((opStep L[i] (runOps (nOf z) (L.take i))).2))), (1000001, blk b1 24 [byteV z, v]), (1000003, varK b3 27 3 (diskD dT X0 ((opStep L[i] (runOps (nOf z) (L.take i))).1))), (1000005, varK b5 34 1 (refD 61 51 ((runOps (nOf z) (L.take i))))), (1000200, old w₀.heap.size (valM v (lstK 4 (L.map opD))))] ?_ ?_
   ·refine RS (ok_field field24_1 (by decide) rfl) ?_
    refine RS (OpOk.valO (k := 1000200) (ok_loadV (s := 1000001) (by decide) Try.underlying22 rfl rfl rfl (rfl)) (by decide) rfl) ?_
    refine RM rfl ?_
    refine RS (ok_indexK i Try.underlying22 size39 rfl (Le.old _ _) rfl (op_get hi.1)) ?_
    refine RS (ok_loadK Try.underlying39 rfl size39 rfl (Le.refl _)) ?_
    refine RS (ok_loadVK (s := 1000003) (by decide) Try.underlying27 rfl size27 rfl rfl) ?_
    refine RS (OpOk.tlO (k := 1000200) [byteV z] (ok_loadA (s := 1000001) (by decide) Try.underlying24 rfl (size24.of (rfl)) rfl rfl) rfl hv1 (by decide) rfl) ?_
    refine RS (ok_call (xSize_fn z L) (Args.cons rfl (Le.old _ _) Args.nil)) ?_
    refine RS (ok_call (do_fn X0 L[i] (runOps (nOf z) (L.take i)) (by rw [runOps_len]; exact nOf_pos z) (by rw [runOps_len]; have := nOf_le z; omega) (Nat.le_trans (runOps_tot _ (nOf_pos z) _) (by rw [List.length_take]; omega))) (Args.cons rfl LA (Args.cons rfl LA (Args.cons rfl (Le.v (by rw [runOps_len])) Args.nil)))) ?_
    refine RM rfl ?_
    refine RS (ok_extract rfl rfl) ?_
    refine RS (ok_extract rfl rfl) ?_
    refine RN ?_
    intro S hS
    simp only [subs, List.map_cons, List.map_nil, List.cons_append, List.nil_append, List.mem_cons, List.not_mem_nil, or_false] at hS
    rcases hS with rfl | rfl
    ·refine ⟨1, Nat.le_of_ble_eq_true (by kernel_rfl), _, (KC 1 rfl (KC 3 rfl (KC 5 rfl (KC 6 rfl (KC 37 rfl (KC 38 rfl (KC 39 rfl (KC 40 rfl (KC 41 rfl (KC 42 rfl (KC 43 rfl (KC 44 rfl (KC 45 rfl (KC 46 rfl (KC 47 rfl (KC 48 rfl (KC 1000001 rfl (KC 1000003 rfl (KC 1000005 rfl (KC 1000200 rfl KN)))))))))))))))))))), by kernel_rfl, _, rfl, _, eff_storeKK (n := 69) (s := 1000003) size27 rfl rfl (Le.refl _) (Agg.disk) hBb3 rfl (Surv.disk (.inl (by decide))) (LV 1 rfl (LV 3 rfl (LV 5 rfl (LV 6 rfl (LeftS.cons (t := 37) rfl (Surv.tup2 (Surv.disk (.inl (by decide))) (Surv.v _)) (LV 38 rfl (LO 39 rfl (LV 40 rfl (LeftS.cons (t := 43) rfl (Surv.disk (.inl (by decide))) (LO 44 rfl (LV 45 rfl (LeftS.cons (t := 46) rfl (Surv.tup2 (Surv.disk (.inl (by decide))) (Surv.v _)) (LeftS.cons (t := 47) rfl (Surv.disk (.inl (by decide))) (LV 48 rfl (LT 1000001 rfl (LeftS.cons (t := 1000005) rfl (Surv.varKT (by decide) (Surv.ref (by decide) (by decide))) (LO 1000200 rfl LN))))))))))))))))), ?_⟩
     refine AnyT.step 13 [] (by kernel_rfl) ?_
     refine NextT.pure (by kernel_rfl) rfl rfl rfl (ok_assign rfl) ?_ ?_
     ·refine AnyT.last (by kernel_rfl) ?_
      exact (SubL.cons (t := 1) rfl (Le.refl _) (SubL.cons (t := 3) rfl (Le.refl _) (SubL.cons (t := 5) rfl (Le.refl _) (SubL.cons (t := 6) rfl (Le.refl _) (SubL.cons (t := 7) rfl (Le.refl _) (SubL.cons (t := 1000001) rfl (Le.refl _) (SubL.cons (t := 1000003) rfl (Le.refl _) (SubL.cons (t := 1000005) rfl (Le.refl _) (SubL.cons (t := 1000200) rfl (Le.refl _) SubL.nil)))))))))
     exact trivial
    ·refine ⟨2, Nat.le_of_ble_eq_true (by kernel_rfl), _, (KC 1 rfl (KC 3 rfl (KC 5 rfl (KC 6 rfl (KC 37 rfl (KC 38 rfl (KC 39 rfl (KC 40 rfl (KC 41 rfl (KC 42 rfl (KC 43 rfl (KC 44 rfl (KC 45 rfl (KC 46 rfl (KC 47 rfl (KC 1000001 rfl (KC 1000003 rfl (KC 1000005 rfl (KC 1000200 rfl KN))))))))))))))))))), by kernel_rfl, _, rfl, _, eff_storeKK (n := 69) (s := 1000003) size27 rfl rfl (Le.refl _) (Agg.disk) hBb3 rfl (Surv.disk (.inl (by decide))) (LV 1 rfl (LV 3 rfl (LV 5 rfl (LV 6 rfl (LeftS.cons (t := 37) rfl (Surv.tup2 (Surv.disk (.inl (by decide))) (Surv.v _)) (LV 38 rfl (LO 39 rfl (LV 40 rfl (LeftS.cons (t := 43) rfl (Surv.disk (.inl (by decide))) (LO 44 rfl (LV 45 rfl (LeftS.cons (t := 46) rfl (Surv.tup2 (Surv.disk (.inl (by decide))) (Surv.v _)) (LeftS.cons (t := 47) rfl (Surv.disk (.inl (by decide))) (LT 1000001 rfl (LeftS.cons (t := 1000005) rfl (Surv.varKT (by decide) (Surv.ref (by decide) (by decide))) (LO 1000200 rfl LN)))))))))))))))), ?_⟩
     refine AnyT.step 11 [] (by kernel_rfl) ?_
     refine NextT.pure (by kernel_rfl) rfl rfl rfl (ok_extract rfl rfl) ?_ ?_
     ·refine AnyT.step 13 [] (by kernel_rfl) ?_
      refine NextT.pure (by kernel_rfl) rfl rfl rfl (ok_assign rfl) ?_ ?_
      ·refine AnyT.last (by kernel_rfl) ?_
       exact (SubL.cons (t := 1) rfl (Le.refl _) (SubL.cons (t := 3) rfl (Le.refl _) (SubL.cons (t := 5) rfl (Le.refl _) (SubL.cons (t := 6) rfl (Le.refl _) (SubL.cons (t := 7) rfl (Le.refl _) (SubL.cons (t := 1000001) rfl (Le.refl _) (SubL.cons (t := 1000003) rfl (Le.refl _) (SubL.cons (t := 1000005) rfl (Le.refl _) (SubL.cons (t := 1000200) rfl (Le.refl _) SubL.nil)))))))))
      exact trivial
     exact trivial
   ·refine EN ?_
    refine A.seq ?_
    refine A.regL0 10 [9] (by kernel_rfl) (by kernel_rfl) (by kernel_rfl) (by kernel_rfl) [(1, .v (ptr b1)), (3, .v (ptr b3)), (5, .v (ptr b5)), (6, .v (nI (i))), (7, .v (.int .i64 ((opStep L[i] (runOps (nOf z) (L.take i))).2))), (8, .v (.int .i64 ((opStep L[i] (runOps (nOf z) (L.take i))).2))), (1000001, blk b1 24 [byteV z, v]), (1000003, varK b3 27 3 (diskD dT X0 ((opStep L[i] (runOps (nOf z) (L.take i))).1))), (1000005, varK b5 34 1 (refD 61 51 ((opStep L[i] (runOps (nOf z) (L.take i))).1))), (1000200, old w₀.heap.size (valM v (lstK 4 (L.map opD))))] ?_ ?_
    ·refine RS (ok_field field24_1 (by decide) rfl) ?_
     refine RS (OpOk.valO (k := 1000200) (ok_loadV (s := 1000001) (by decide) Try.underlying22 rfl rfl rfl (rfl)) (by decide) rfl) ?_
     refine RM rfl ?_
     refine RS (ok_indexK i Try.underlying22 size39 rfl (Le.old _ _) rfl (op_get hi.1)) ?_
     refine RS (ok_loadK Try.underlying39 rfl size39 rfl (Le.refl _)) ?_
     refine RS (ok_loadVK (s := 1000005) (by decide) Try.underlying34 rfl size34 rfl rfl) ?_
     refine RS (ok_call (ref_fn L[i] (runOps (nOf z) (L.take i)) (by rw [runOps_len]; exact nOf_pos z) (by rw [runOps_len]; have := nOf_le z; omega) (Nat.le_trans (runOps_tot _ (nOf_pos z) _) (by rw [List.length_take]; omega))) (Args.cons rfl LA (Args.cons rfl LA Args.nil))) ?_
     refine RM rfl ?_
     refine RS (ok_extract rfl rfl) ?_
     refine RS (ok_extract rfl rfl) ?_
     refine RN ?_
     intro S hS
     simp only [subs, List.map_cons, List.map_nil, List.cons_append, List.nil_append, List.mem_cons, List.not_mem_nil, or_false] at hS
     rcases hS with rfl | rfl
     ·refine ⟨1, Nat.le_of_ble_eq_true (by kernel_rfl), _, (KC 1 rfl (KC 3 rfl (KC 5 rfl (KC 6 rfl (KC 7 rfl (KC 49 rfl (KC 50 rfl (KC 51 rfl (KC 52 rfl (KC 53 rfl (KC 54 rfl (KC 55 rfl (KC 56 rfl (KC 57 rfl (KC 58 rfl (KC 1000001 rfl (KC 1000003 rfl (KC 1000005 rfl (KC 1000200 rfl KN))))))))))))))))))), by kernel_rfl, _, rfl, _, eff_storeKK (n := 69) (s := 1000005) size34 rfl rfl (Le.refl _) (Agg.ref) hBb5 rfl (Surv.ref (by decide) (by decide)) (LV 1 rfl (LV 3 rfl (LV 5 rfl (LV 6 rfl (LV 7 rfl (LeftS.cons (t := 49) rfl (Surv.tup2 (Surv.ref (by decide) (by decide)) (Surv.v _)) (LV 50 rfl (LO 51 rfl (LV 52 rfl (LeftS.cons (t := 55) rfl (Surv.ref (by decide) (by decide)) (LeftS.cons (t := 56) rfl (Surv.tup2 (Surv.ref (by decide) (by decide)) (Surv.v _)) (LeftS.cons (t := 57) rfl (Surv.ref (by decide) (by decide)) (LV 58 rfl (LT 1000001 rfl (LeftS.cons (t := 1000003) rfl (Surv.varKT (by decide) (Surv.disk (.inl (by decide)))) (LO 1000200 rfl LN)))))))))))))))), ?_⟩
      refine AnyT.step 11 [] (by kernel_rfl) ?_
      refine NextT.pure (by kernel_rfl) rfl rfl rfl (ok_assign rfl) ?_ ?_
      ·refine AnyT.last (by kernel_rfl) ?_
       exact (SubL.cons (t := 1) rfl (Le.refl _) (SubL.cons (t := 3) rfl (Le.refl _) (SubL.cons (t := 5) rfl (Le.refl _) (SubL.cons (t := 6) rfl (Le.refl _) (SubL.cons (t := 7) rfl (Le.refl _) (SubL.cons (t := 8) rfl (Le.refl _) (SubL.cons (t := 1000001) rfl (Le.refl _) (SubL.cons (t := 1000003) rfl (Le.refl _) (SubL.cons (t := 1000005) rfl (Le.refl _) (SubL.cons (t := 1000200) rfl (Le.refl _) SubL.nil))))))))))
      exact trivial
     ·refine ⟨2, Nat.le_of_ble_eq_true (by kernel_rfl), _, (KC 1 rfl (KC 3 rfl (KC 5 rfl (KC 6 rfl (KC 7 rfl (KC 49 rfl (KC 50 rfl (KC 51 rfl (KC 52 rfl (KC 53 rfl (KC 54 rfl (KC 55 rfl (KC 56 rfl (KC 57 rfl (KC 1000001 rfl (KC 1000003 rfl (KC 1000005 rfl (KC 1000200 rfl KN)))))))))))))))))), by kernel_rfl, _, rfl, _, eff_storeKK (n := 69) (s := 1000005) size34 rfl rfl (Le.refl _) (Agg.ref) hBb5 rfl (Surv.ref (by decide) (by decide)) (LV 1 rfl (LV 3 rfl (LV 5 rfl (LV 6 rfl (LV 7 rfl (LeftS.cons (t := 49) rfl (Surv.tup2 (Surv.ref (by decide) (by decide)) (Surv.v _)) (LV 50 rfl (LO 51 rfl (LV 52 rfl (LeftS.cons (t := 55) rfl (Surv.ref (by decide) (by decide)) (LeftS.cons (t := 56) rfl (Surv.tup2 (Surv.ref (by decide) (by decide)) (Surv.v _)) (LeftS.cons (t := 57) rfl (Surv.ref (by decide) (by decide)) (LT 1000001 rfl (LeftS.cons (t := 1000003) rfl (Surv.varKT (by decide) (Surv.disk (.inl (by decide)))) (LO 1000200 rfl LN))))))))))))))), ?_⟩
      refine AnyT.step 9 [] (by kernel_rfl) ?_
      refine NextT.pure (by kernel_rfl) rfl rfl rfl (ok_extract rfl rfl) ?_ ?_
      ·refine AnyT.step 11 [] (by kernel_rfl) ?_
       refine NextT.pure (by kernel_rfl) rfl rfl rfl (ok_assign rfl) ?_ ?_
       ·refine AnyT.last (by kernel_rfl) ?_
        exact (SubL.cons (t := 1) rfl (Le.refl _) (SubL.cons (t := 3) rfl (Le.refl _) (SubL.cons (t := 5) rfl (Le.refl _) (SubL.cons (t := 6) rfl (Le.refl _) (SubL.cons (t := 7) rfl (Le.refl _) (SubL.cons (t := 8) rfl (Le.refl _) (SubL.cons (t := 1000001) rfl (Le.refl _) (SubL.cons (t := 1000003) rfl (Le.refl _) (SubL.cons (t := 1000005) rfl (Le.refl _) (SubL.cons (t := 1000200) rfl (Le.refl _) SubL.nil))))))))))
       exact trivial
      exact trivial
    ·refine EN ?_
     refine GS ?_
     refine TL ?_
     refine RM rfl ?_
     refine RM rfl ?_
     refine RBS rfl rfl rfl (.bool false) (by simp) ?_
     refine RN ?_
     refine A.no rfl ?_
     refine A.skip ?_
     refine End.normal_block ?_
     refine EN ?_
     refine GE ?_
     refine TL ?_
     refine RM rfl ?_
     refine RBS rfl rfl rfl (nI (i + 1)) (wrap_eq (by omega) (by omega)) ?_
     refine RA rfl ?_
     refine RN ?_
     refine End.normal_then ?_
     refine End.again (i + 1) ?_ ?_ ?_
     ·show _ ≤ _; omega
     ·show _ - _ < _ - _; omega
     ·exact (KC 1 rfl (KC 3 rfl (KC 5 rfl (KC 6 rfl (KC 1000001 rfl (KE 1000003 rfl (by rw [runOps_next hi.1]) (KE 1000005 rfl (by rw [runOps_next hi.1]) (KC 1000200 rfl KN))))))))
  ·have hi2 : i = min L.length 60 := by have h9 := of_decide_eq_true hsp; simp at hc34; omega
   refine A.exit ?_
   refine End.exit_then ?_
   refine End.exit_then ?_
   refine End.exit_here ?_
   refine EN ?_
   refine GS ?_
   refine TL ?_
   refine RS (ok_loadVK (s := 1000003) (by decide) Try.underlying27 rfl size27 rfl rfl) ?_
   refine RS (ok_loadVK (s := 1000005) (by decide) Try.underlying34 rfl size34 rfl rfl) ?_
   refine RS (ok_call (equal_fn X0 (runOps (nOf z) (L.take i)) (by rw [runOps_len]; have := nOf_le z; omega) (Nat.le_trans (runOps_tot _ (nOf_pos z) _) (by rw [List.length_take]; omega))) (Args.cons rfl LA (Args.cons rfl LA Args.nil))) ?_
   refine RBS rfl rfl rfl (.bool true) (rfl) ?_
   refine RM rfl ?_
   refine RQ (ok_call (lives14_fn) Args.nil) ?_
   refine RP rfl rfl ?_
   refine RA rfl ?_
   refine RN ?_
   refine A.ret ?_
   exact End.ret1 rfl rfl (by first | exact Le.refl _ | exact Le.old _ _)
 ·refine GS ?_
  refine TL ?_
  refine RM rfl ?_
  refine RS (ok_field field24_1 (by decide) rfl) ?_
  refine RS (OpOk.valO (k := 1000200) (ok_loadV (s := 1000001) (by decide) Try.underlying22 rfl rfl rfl (rfl)) (by decide) rfl) ?_
  refine RS (ok_lenK Try.underlying22 rfl (Le.old _ _)) ?_; refine RZ (nI (L.length)) (by rw [List.length_map]) ?_
  refine RBS rfl rfl rfl (.bool false) (congrArg Value.bool (by simpa using hsp)) ?_
  refine RM rfl ?_
  refine RK ?_
  refine RK ?_
  refine RP rfl rfl ?_
  refine RN ?_
  refine A.no rfl ?_
  refine A.exit ?_
  refine End.exit_then ?_
  refine End.exit_then ?_
  refine End.exit_here ?_
  refine EN ?_
  refine GS ?_
  refine TL ?_
  refine RS (ok_loadVK (s := 1000003) (by decide) Try.underlying27 rfl size27 rfl rfl) ?_
  refine RS (ok_loadVK (s := 1000005) (by decide) Try.underlying34 rfl size34 rfl rfl) ?_
  refine RS (ok_call (equal_fn X0 (runOps (nOf z) (L.take i)) (by rw [runOps_len]; have := nOf_le z; omega) (Nat.le_trans (runOps_tot _ (nOf_pos z) _) (by rw [List.length_take]; omega))) (Args.cons rfl LA (Args.cons rfl LA Args.nil))) ?_
  refine RBS rfl rfl rfl (.bool true) (rfl) ?_
  refine RM rfl ?_
  refine RQ (ok_call (lives14_fn) Args.nil) ?_
  refine RP rfl rfl ?_
  refine RA rfl ?_
  refine RN ?_
  refine A.ret ?_
  exact End.ret1 rfl rfl (by first | exact Le.refl _ | exact Le.old _ _)
set_option maxHeartbeats 2000000 in
theorem DisksOther_fn (z : UInt8) (L : List OpT) (o : OpT) (sec : UInt8) : Fn Try.prog 7 [xD z L, opD o, .v (byteV sec)] (.v (.bool true)) := by
 have hn : (xS z L).length ≤ 10922 := by rw [xS_len]; have := nOf_le z; omega
 have ht : totC (xS z L) ≤ 1000000 := Nat.le_trans (xS_tot z L) (by decide)
 have hS : 0 < (xS z L).length := by rw [xS_len]; exact nOf_pos z
 have hs8 := o.s.toNat_lt
 have hc8 := sec.toNat_lt
 have ht3 : totC (xS z L) ≤ 1000 := Nat.le_trans (xS_tot z L) (by decide)
 have hl1 : (opStep o (xS z L)).1.length = (xS z L).length := opStep_len o _
 have hn1 : (opStep o (xS z L)).1.length ≤ 10922 := by rw [hl1]; exact hn
 have ht1 : totC (opStep o (xS z L)).1 ≤ 1000000 := Nat.le_trans (opStep_tot o _ hS) (by omega)
 have hk : opAt o (xS z L).length < (xS z L).length := Nat.mod_lt _ hS
 have hi : sec.toNat % nOf z < (xS z L).length := by rw [xS_len]; exact Nat.mod_lt _ (nOf_pos z)
 have hi1 : sec.toNat % nOf z < (opStep o (xS z L)).1.length := by rw [hl1]; exact hi
 have hk1 : opAt o (xS z L).length < (opStep o (xS z L)).1.length := by rw [hl1]; exact hk
 refine Fn.of Try.func7 rfl (by kernel_rfl) Try.ntmps7 (by simp) (fun w => [(0, old w.heap.size (xD z L)), (1, old w.heap.size (opD o)), (2, .v (byteV sec))]) (fun w => (Start.old rfl (Start.old rfl (Start.v rfl Start.nil)))) fun w₀ => ?_
 refine A.nameTl (t := 0) (k := 1000200) rfl fun v hv1 => ?_
 refine A.nameTl (t := 1) (k := 1000201) rfl fun v' hv'1 => ?_
 refine GS ?_
 refine TN 0 ?_
 refine RN ?_
 refine ⟨_, _, eff_box (n := 105) (d := 3) (k := 1000003) rfl (by decide), fun b3 hb3 => ?_⟩
 have hBb3 := hb3.1
 refine TN 1 ?_
 refine RN ?_
 refine ⟨_, _, eff_box (n := 105) (d := 4) (k := 1000004) rfl (by decide), fun b4 hb4 => ?_⟩
 have hBb4 := hb4.1
 refine TL ?_
 refine RA rfl ?_
 refine RN ?_
 refine GS ?_
 refine TN 2 ?_
 refine RS (OpOk.tlO (k := 1000200) [byteV z] (ok_loadA (s := 1000003) (by decide) Try.underlying24 rfl (size24.of (rfl)) rfl rfl) rfl hv1 (by decide) rfl) ?_
 refine RS (ok_call (xOf_fn z L) (Args.cons rfl (Le.old _ _) Args.nil)) ?_
 refine RN ?_
 refine ⟨_, _, eff_alloc (n := 105) (d := 7) (k := 1000007) zero27 (by decide), fun b7 hb7 => ?_⟩
 have hBb7 := hb7.1
 refine TF 3 ?_
 refine RN ?_
 refine ⟨_, eff_storeK (n := 105) (s := 1000007) size27 rfl rfl (Le.refl _) (Agg.disk) hBb7 rfl (rfl) (Surv.disk (.inl (by decide))) (LV 2 rfl (LV 3 rfl (LV 4 rfl (LV 7 rfl (LT 1000003 rfl (LT 1000004 rfl (LO 1000200 rfl (LO 1000201 rfl LN)))))))), ?_⟩
 refine TL ?_
 refine RN ?_
 refine GS ?_
 refine TN 2 ?_
 refine RS (OpOk.tlO (k := 1000200) [byteV z] (ok_loadA (s := 1000003) (by decide) Try.underlying24 rfl (size24.of (rfl)) rfl rfl) rfl hv1 (by decide) rfl) ?_
 refine RS (ok_call (xRef_fn z L) (Args.cons rfl (Le.old _ _) Args.nil)) ?_
 refine RN ?_
 refine ⟨_, _, eff_allocV (n := 105) (d := 8) (k := 1000008) zero34 (by decide), fun b8 hb8 => ?_⟩
 have hBb8 := hb8.1
 refine TF 3 ?_
 refine RN ?_
 refine ⟨_, eff_storeK (n := 105) (s := 1000008) size34 rfl rfl (Le.refl _) (Agg.ref) hBb8 rfl (rfl) (Surv.ref (by decide) (by decide)) (LV 2 rfl (LV 3 rfl (LV 4 rfl (LV 7 rfl (LV 8 rfl (LT 1000003 rfl (LT 1000004 rfl (LeftS.cons (t := 1000007) rfl (Surv.varKT (by decide) (Surv.disk (.inl (by decide)))) (LO 1000200 rfl (LO 1000201 rfl LN)))))))))), ?_⟩
 refine TL ?_
 refine RN ?_
 refine GD ?_
 refine TL ?_
 refine RS (ok_field field39_1 (by decide) rfl) ?_
 refine RS (ok_loadV (s := 1000004) (by decide) Try.underlying5 rfl rfl rfl (rfl)) ?_
 refine RS (ok_conv Try.underlying5 Try.underlying3 rfl) ?_; refine RZ (nI (o.s.toNat)) (wrap_eq (by omega) (by omega)) ?_
 refine RS (OpOk.tlO (k := 1000200) [byteV z] (ok_loadA (s := 1000003) (by decide) Try.underlying24 rfl (size24.of (rfl)) rfl rfl) rfl hv1 (by decide) rfl) ?_
 refine RS (ok_call (xSize_fn z L) (Args.cons rfl (Le.old _ _) Args.nil)) ?_
 refine RS (ok_rem rfl rfl (by have := nOf_pos z; omega)) ?_; refine RZ (nI (opAt o (xS z L).length)) ((tmodN _ _).trans (by rw [xS_len]; rfl)) ?_
 refine RA rfl ?_
 refine RN ?_
 refine A.regsF [⟨8, 10, 27, [.int .i64 0] ++ [.int .i64 0] ++ [.slice none 0 0], 9, 3, diskD dT X0 ((opStep o (xS z L)).1)⟩] (by kernel_rfl) (by kernel_rfl) (by kernel_rfl) (SurvF.cons (SurvF.cons (fun B' g hg => (show Surv B' 27 g _ from Surv.disk (.inl (by decide)))) (SurvF.nil rfl)) (SurvF.nil rfl)) ?_
 refine KofsK.pure (_) rfl rfl FromF.all (OpOk.tlO (k := 1000201) [byteV o.k, byteV o.s, byteV o.b] (ok_loadA (s := 1000004) (by decide) Try.underlying39 rfl (size39.of (rfl)) rfl rfl) rfl hv'1 (by decide) rfl) (SurvF.cons (fun B' g hg => (show Surv B' 27 g _ from Surv.old hg)) (SurvF.nil rfl)) ?_
 refine KofsK.pure (_) rfl rfl FromF.all (ok_loadVK (s := 1000007) (by decide) Try.underlying27 rfl size27 rfl rfl) (SurvF.cons (fun B' g hg => (show Surv B' 27 g _ from Surv.disk (.inl (by decide)))) (SurvF.nil rfl)) ?_
 refine KofsK.pure (_) rfl rfl FromF.all (OpOk.tlO (k := 1000200) [byteV z] (ok_loadA (s := 1000003) (by decide) Try.underlying24 rfl (size24.of (rfl)) rfl rfl) rfl hv1 (by decide) rfl) (SurvF.cons (fun B' g hg => (show Surv B' 27 g _ from Surv.old hg)) (SurvF.nil rfl)) ?_
 refine KofsK.pure ((33, _) :: _) rfl rfl (FromF.op 2 (by kernel_rfl) rfl rfl FromF.all) (ok_call (xSize_fn z L) (Args.cons rfl (Le.old _ _) Args.nil)) (SurvF.cons (fun B' g hg => (show Surv B' 27 g _ from Surv.v _)) (SurvF.nil rfl)) ?_
 refine KofsK.pure ((31, _) :: (32, _) :: (34, _) :: _) rfl rfl (FromF.op 0 (by kernel_rfl) rfl rfl (FromF.op 1 (by kernel_rfl) rfl rfl (FromF.op 3 (by kernel_rfl) rfl rfl FromF.all))) (ok_call (do_fn X0 o (xS z L) hS hn ht3) (Args.cons rfl (Le.old _ _) (Args.cons rfl LA (Args.cons rfl (Le.v (by rw [xS_len])) Args.nil)))) (SurvF.cons (fun B' g hg => (show Surv B' 27 g _ from Surv.tup2 (Surv.disk (.inl (by decide))) (Surv.v _))) (SurvF.nil rfl)) ?_
 refine KofsK.pure ((35, _) :: _) rfl rfl (FromF.op 4 (by kernel_rfl) rfl rfl FromF.all) (ok_move rfl) (SurvF.cons (fun B' g hg => (show Surv B' 27 g _ from Surv.tup2 (Surv.disk (.inl (by decide))) (Surv.v _))) (SurvF.nil rfl)) ?_
 refine KofsK.pure ((30, _) :: _) rfl rfl (FromF.op 5 (by kernel_rfl) rfl rfl FromF.all) (ok_extract rfl rfl) (SurvF.cons (fun B' g hg => (show Surv B' 27 g _ from Surv.disk (.inl (by decide)))) (SurvF.nil rfl)) ?_
 refine KofsK.pure ((30, _) :: _) rfl rfl (FromF.op 5 (by kernel_rfl) rfl rfl FromF.all) (ok_extract rfl rfl) (SurvF.cons (fun B' g hg => (show Surv B' 27 g _ from Surv.v _)) (SurvF.nil rfl)) ?_
 refine KofsK.alloc 0 rfl rfl rfl rfl zero27 rfl ?_
 refine KofsK.store 0 ((36, _) :: _) rfl rfl rfl rfl (by kernel_rfl) (FromF.op 6 (by kernel_rfl) rfl rfl FromF.all) rfl (Le.refl _) size27 rfl (Agg.disk) ?_
 refine KofsK.pure ((37, _) :: _) rfl rfl (FromF.op 7 (by kernel_rfl) rfl rfl FromF.all) (ok_assign rfl) (SurvF.cons (fun B' g hg => (show Surv B' 27 g _ from Surv.v _)) (SurvF.nil rfl)) ?_
 refine KofsK.nil ⟨by kernel_rfl, _, (FromFW.op (t := 11) 10 rfl rfl FromFW.all), fun bs hbs hds => ?_⟩
 have hb10 := hbs 0 (by simp)
 dsimp only [varEnvF]
 generalize bs 0 = b10 at *
 have hBb10 := hb10.1
 have hlt_b3_b10 : b3 < b10 := hb10.2.1 1000003 _ _ _ rfl
 have hlt_b4_b10 : b4 < b10 := hb10.2.1 1000004 _ _ _ rfl
 have hlt_b7_b10 : b7 < b10 := hb10.2.2 1000007 _ _ _ _ rfl
 have hlt_b8_b10 : b8 < b10 := hb10.2.2 1000008 _ _ _ _ rfl
 refine A.sub (KC 2 rfl (KC 3 rfl (KC 4 rfl (KC 8 rfl (KC 9 rfl (KC 10 rfl (KC 11 rfl (KC 1000003 rfl (KC 1000004 rfl (KC 1000007 rfl (KC 1000008 rfl (KC 1000010 rfl (KC 1000200 rfl (KC 1000201 rfl KN)))))))))))))) ?_
 refine GS ?_
 refine TN 6 ?_
 refine RS (OpOk.tlO (k := 1000201) [byteV o.k, byteV o.s, byteV o.b] (ok_loadA (s := 1000004) (by decide) Try.underlying39 rfl (size39.of (rfl)) rfl rfl) rfl hv'1 (by decide) rfl) ?_
 refine RS (ok_loadVK (s := 1000008) (by decide) Try.underlying34 rfl size34 rfl rfl) ?_
 refine RS (ok_call (ref_fn o (xS z L) hS hn ht3) (Args.cons rfl (Le.old _ _) (Args.cons rfl LA Args.nil))) ?_
 refine RM rfl ?_
 refine RS (ok_extract rfl rfl) ?_
 refine RS (ok_extract rfl rfl) ?_
 refine RN ?_
 refine ⟨_, _, eff_allocV (n := 105) (d := 12) (k := 1000012) zero34 (by decide), fun b12 hb12 => ?_⟩
 have hBb12 := hb12.1
 have hlt_b8_b12 : b8 < b12 := hb12.2.2 1000008 _ _ _ _ rfl
 refine TF 7 ?_
 refine RN ?_
 refine ⟨_, eff_storeK (n := 105) (s := 1000012) size34 rfl rfl (Le.refl _) (Agg.ref) hBb12 rfl (rfl) (Surv.ref (by decide) (by decide)) (LV 2 rfl (LV 3 rfl (LV 8 rfl (LV 9 rfl (LV 10 rfl (LV 11 rfl (LV 43 rfl (LT 1000003 rfl (LT 1000004 rfl (LeftS.cons (t := 1000007) rfl (Surv.varKT (by decide) (Surv.disk (.inl (by decide)))) (LeftS.cons (t := 1000008) rfl (Surv.varK (by omega) (Surv.ref (by decide) (by decide))) (LeftS.cons (t := 1000010) rfl (Surv.varKT (by decide) (Surv.disk (.inl (by decide)))) (LO 1000200 rfl (LO 1000201 rfl LN)))))))))))))), ?_⟩
 refine TL ?_
 refine RA rfl ?_
 refine RN ?_
 refine A.seq ?_
 refine GS ?_
 refine TL ?_
 refine RM rfl ?_
 refine RM rfl ?_
 refine RBS rfl rfl rfl (.bool false) (by simp) ?_
 refine RN ?_
 refine A.no rfl ?_
 refine A.skip ?_
 refine EN ?_
 refine GS ?_
 refine TL ?_
 refine RM rfl ?_
 refine RS (ok_conv Try.underlying5 Try.underlying3 rfl) ?_; refine RZ (nI (sec.toNat)) (wrap_eq (by omega) (by omega)) ?_
 refine RS (OpOk.tlO (k := 1000200) [byteV z] (ok_loadA (s := 1000003) (by decide) Try.underlying24 rfl (size24.of (rfl)) rfl rfl) rfl hv1 (by decide) rfl) ?_
 refine RS (ok_call (xSize_fn z L) (Args.cons rfl (Le.old _ _) Args.nil)) ?_
 refine RS (ok_rem rfl rfl (by have := nOf_pos z; omega)) ?_; refine RZ (nI ((sec.toNat % nOf z))) (tmodN _ _) ?_
 refine RA rfl ?_
 refine RN ?_
 refine GS ?_
 refine TL ?_
 refine RS (ok_loadVK (s := 1000010) (by decide) Try.underlying27 rfl size27 rfl rfl) ?_
 refine RM rfl ?_
 refine RS (ok_callB (dRead_fn X0 (opStep o (xS z L)).1 (sec.toNat % nOf z) hi1 hn1) con_tup_mono (Args.cons rfl LA (Args.cons rfl LA Args.nil))) ?_
 refine RM rfl ?_
 refine RS (ok_extract rfl rfl) ?_
 refine RS (ok_extract rfl rfl) ?_
 refine RA rfl ?_
 refine RA rfl ?_
 refine RN ?_
 refine A.sub (KC 8 rfl (KC 9 rfl (KC 10 rfl (KC 11 rfl (KC 14 rfl (KC 15 rfl (KC 16 rfl (KC 1000003 rfl (KC 1000004 rfl (KC 1000007 rfl (KC 1000008 rfl (KC 1000010 rfl (KC 1000012 rfl (KC 1000200 rfl (KC 1000201 rfl KN))))))))))))))) ?_
 refine A.seq ?_
 rcases Bool.eq_false_or_eq_true (decide ((sec.toNat % nOf z) ≠ (opAt o (xS z L).length))) with hsp | hsp
 ·refine GS ?_
  refine TL ?_
  refine RM rfl ?_
  refine RM rfl ?_
  refine RBS rfl rfl rfl (.bool true) (congrArg Value.bool (by have h9 := of_decide_eq_true hsp; simp; omega)) ?_
  refine RM rfl ?_
  refine RQ (ok_move rfl) ?_
  refine RQ (ok_move rfl) ?_
  refine RQ (ok_loadVK (s := 1000008) (by decide) Try.underlying34 rfl size34 rfl rfl) ?_
  refine RQ (ok_move rfl) ?_
  refine RQ (ok_call (rLast_fn (xS z L) hn ht (sec.toNat % nOf z) hi) (Args.cons rfl LA (Args.cons rfl LA Args.nil))) ?_
  refine RQ (ok_call (content_fn w₀.heap.size (lastC (hisC (xS z L) (sec.toNat % nOf z)))) (Args.cons rfl (Le.eq (by rw [opStep_ne (of_decide_eq_true hsp)])) (Args.cons rfl (Le.v (by rw [opStep_ne (of_decide_eq_true hsp)])) (Args.cons rfl LA Args.nil)))) ?_
  refine RQ (ok_bin rfl rfl rfl) ?_; refine RZ (.bool false) (rfl) ?_
  refine RP rfl rfl ?_
  refine RN ?_
  refine A.no rfl ?_
  refine A.skip ?_
  refine EN ?_
  refine A.seq ?_
  refine GS ?_
  refine TL ?_
  refine RM rfl ?_
  refine RB rfl rfl rfl ?_
  refine RN ?_
  refine A.cond rfl (fun hc71 => ?_) (fun hc71 => ?_)
  ·have he : (opStep o (xS z L)).2 ≠ 0 := by simpa using hc71
   refine GS ?_
   refine TL ?_
   refine RS (ok_loadVK (s := 1000010) (by decide) Try.underlying27 rfl size27 rfl rfl) ?_
   refine RS (ok_loadVK (s := 1000008) (by decide) Try.underlying34 rfl size34 rfl rfl) ?_
   refine RS (ok_call (equal_fn X0 (xS z L) hn ht) (Args.cons rfl (Le.eq (by rw [opStep_err he])) (Args.cons rfl LA Args.nil))) ?_
   refine RBS rfl rfl rfl (.bool true) (rfl) ?_
   refine RM rfl ?_
   refine RQ (ok_call (lives14_fn) Args.nil) ?_
   refine RP rfl rfl ?_
   refine RA rfl ?_
   refine RN ?_
   refine A.ret ?_
   refine End.ret_then ?_
   exact End.ret1 rfl rfl (by first | exact Le.refl _ | exact Le.old _ _)
  ·have he : (opStep o (xS z L)).2 = 0 := by simpa using hc71
   obtain ⟨c, hc⟩ := opStep_ok he
   have hrd : lastC (hisC (putC (opStep o (xS z L)).1 (opAt o (xS z L).length) (lastC ((hisC (opStep o (xS z L)).1 (opAt o (xS z L).length)).drop 1))) (opAt o (xS z L).length)) = lastC (hisC (xS z L) (opAt o (xS z L).length)) := by rw [his_put _ hk1, hc, his_put _ hk]; rfl
   refine A.skip ?_
   refine EN ?_
   refine GS ?_
   refine TN 6 ?_
   refine RS (ok_loadVK (s := 1000010) (by decide) Try.underlying27 rfl size27 rfl rfl) ?_
   refine RM rfl ?_
   refine RS (ok_call (dReplay_fn X0 (opStep o (xS z L)).1 (opAt o (xS z L).length) hk1 hn1 1 (by rw [hc, his_put _ hk]; simp) ht1) (Args.cons rfl LA (Args.cons rfl LA (Args.cons rfl LA Args.nil)))) ?_
   refine RM rfl ?_
   refine RS (ok_extract rfl rfl) ?_
   refine RS (ok_extract rfl rfl) ?_
   refine RN ?_
   refine ⟨_, _, eff_allocV (n := 105) (d := 17) (k := 1000017) zero27 (by decide), fun b17 hb17 => ?_⟩
   have hBb17 := hb17.1
   have hlt_b7_b17 : b7 < b17 := hb17.2.2 1000007 _ _ _ _ rfl
   have hlt_b10_b17 : b10 < b17 := hb17.2.2 1000010 _ _ _ _ rfl
   refine TF 7 ?_
   refine RN ?_
   refine ⟨_, eff_storeK (n := 105) (s := 1000017) size27 rfl rfl (Le.refl _) (Agg.disk) hBb17 rfl (rfl) (Surv.disk (.inl (by decide))) (LV 8 rfl (LV 9 rfl (LV 17 rfl (LV 84 rfl (LT 1000003 rfl (LT 1000004 rfl (LeftS.cons (t := 1000007) rfl (Surv.varK (by omega) (Surv.disk (.inl (by decide)))) (LeftS.cons (t := 1000008) rfl (Surv.varKT (by decide) (Surv.ref (by decide) (by decide))) (LeftS.cons (t := 1000010) rfl (Surv.varK (by omega) (Surv.disk (.inl (by decide)))) (LeftS.cons (t := 1000012) rfl (Surv.varKT (by decide) (Surv.ref (by decide) (by decide))) (LO 1000200 rfl (LO 1000201 rfl LN)))))))))))), ?_⟩
   refine TL ?_
   refine RA rfl ?_
   refine RN ?_
   refine GS ?_
   refine TL ?_
   refine RS (ok_loadVK (s := 1000017) (by decide) Try.underlying27 rfl size27 rfl rfl) ?_
   refine RM rfl ?_
   refine RS (ok_callB (dRead_fn X0 (putC (opStep o (xS z L)).1 (opAt o (xS z L).length) (lastC ((hisC (opStep o (xS z L)).1 (opAt o (xS z L).length)).drop 1))) (opAt o (xS z L).length) (by rw [putC_length]; exact hk1) (by rw [putC_length]; exact hn1)) con_tup_mono (Args.cons rfl LA (Args.cons rfl LA Args.nil))) ?_
   refine RM rfl ?_
   refine RS (ok_extract rfl rfl) ?_
   refine RS (ok_extract rfl rfl) ?_
   refine RA rfl ?_
   refine RA rfl ?_
   refine RN ?_
   refine A.sub (KC 8 rfl (KC 9 rfl (KC 16 rfl (KC 18 rfl (KC 19 rfl (KC 1000003 rfl (KC 1000004 rfl (KC 1000007 rfl (KC 1000008 rfl (KC 1000010 rfl (KC 1000012 rfl (KC 1000017 rfl (KC 1000200 rfl (KC 1000201 rfl KN)))))))))))))) ?_
   refine GS ?_
   refine TL ?_
   refine RM rfl ?_
   refine RBS rfl rfl rfl (.bool true) (rfl) ?_
   refine RM rfl ?_
   refine RQ (ok_move rfl) ?_
   refine RQ (ok_move rfl) ?_
   refine RQ (ok_loadVK (s := 1000008) (by decide) Try.underlying34 rfl size34 rfl rfl) ?_
   refine RQ (ok_move rfl) ?_
   refine RQ (ok_call (rLast_fn (xS z L) hn ht (opAt o (xS z L).length) hk) (Args.cons rfl LA (Args.cons rfl LA Args.nil))) ?_
   refine RQ (ok_call (content_fn w₀.heap.size (lastC (hisC (xS z L) (opAt o (xS z L).length)))) (Args.cons rfl (Le.eq (by rw [hrd])) (Args.cons rfl (Le.v (by rw [hrd])) (Args.cons rfl LA Args.nil)))) ?_
   refine RQ (ok_bin rfl rfl rfl) ?_; refine RZ (.bool true) (rfl) ?_
   refine RP rfl rfl ?_
   refine RM rfl ?_
   refine RQ (ok_call (lives14_fn) Args.nil) ?_
   refine RP rfl rfl ?_
   refine RA rfl ?_
   refine RN ?_
   refine A.ret ?_
   exact End.ret1 rfl rfl (by first | exact Le.refl _ | exact Le.old _ _)
 ·refine GS ?_
  refine TL ?_
  refine RM rfl ?_
  refine RM rfl ?_
  refine RBS rfl rfl rfl (.bool false) (congrArg Value.bool (by have h9 := of_decide_eq_false hsp; simp; omega)) ?_
  refine RM rfl ?_
  refine RK ?_
  refine RK ?_
  refine RK ?_
  refine RK ?_
  refine RK ?_
  refine RK ?_
  refine RK ?_
  refine RP rfl rfl ?_
  refine RN ?_
  refine A.no rfl ?_
  refine A.skip ?_
  refine EN ?_
  refine A.seq ?_
  refine GS ?_
  refine TL ?_
  refine RM rfl ?_
  refine RB rfl rfl rfl ?_
  refine RN ?_
  refine A.cond rfl (fun hc71 => ?_) (fun hc71 => ?_)
  ·have he : (opStep o (xS z L)).2 ≠ 0 := by simpa using hc71
   refine GS ?_
   refine TL ?_
   refine RS (ok_loadVK (s := 1000010) (by decide) Try.underlying27 rfl size27 rfl rfl) ?_
   refine RS (ok_loadVK (s := 1000008) (by decide) Try.underlying34 rfl size34 rfl rfl) ?_
   refine RS (ok_call (equal_fn X0 (xS z L) hn ht) (Args.cons rfl (Le.eq (by rw [opStep_err he])) (Args.cons rfl LA Args.nil))) ?_
   refine RBS rfl rfl rfl (.bool true) (rfl) ?_
   refine RM rfl ?_
   refine RQ (ok_call (lives14_fn) Args.nil) ?_
   refine RP rfl rfl ?_
   refine RA rfl ?_
   refine RN ?_
   refine A.ret ?_
   refine End.ret_then ?_
   exact End.ret1 rfl rfl (by first | exact Le.refl _ | exact Le.old _ _)
  ·have he : (opStep o (xS z L)).2 = 0 := by simpa using hc71
   obtain ⟨c, hc⟩ := opStep_ok he
   have hrd : lastC (hisC (putC (opStep o (xS z L)).1 (opAt o (xS z L).length) (lastC ((hisC (opStep o (xS z L)).1 (opAt o (xS z L).length)).drop 1))) (opAt o (xS z L).length)) = lastC (hisC (xS z L) (opAt o (xS z L).length)) := by rw [his_put _ hk1, hc, his_put _ hk]; rfl
   refine A.skip ?_
   refine EN ?_
   refine GS ?_
   refine TN 6 ?_
   refine RS (ok_loadVK (s := 1000010) (by decide) Try.underlying27 rfl size27 rfl rfl) ?_
   refine RM rfl ?_
   refine RS (ok_call (dReplay_fn X0 (opStep o (xS z L)).1 (opAt o (xS z L).length) hk1 hn1 1 (by rw [hc, his_put _ hk]; simp) ht1) (Args.cons rfl LA (Args.cons rfl LA (Args.cons rfl LA Args.nil)))) ?_
   refine RM rfl ?_
   refine RS (ok_extract rfl rfl) ?_
   refine RS (ok_extract rfl rfl) ?_
   refine RN ?_
   refine ⟨_, _, eff_allocV (n := 105) (d := 17) (k := 1000017) zero27 (by decide), fun b17 hb17 => ?_⟩
   have hBb17 := hb17.1
   have hlt_b7_b17 : b7 < b17 := hb17.2.2 1000007 _ _ _ _ rfl
   have hlt_b10_b17 : b10 < b17 := hb17.2.2 1000010 _ _ _ _ rfl
   refine TF 7 ?_
   refine RN ?_
   refine ⟨_, eff_storeK (n := 105) (s := 1000017) size27 rfl rfl (Le.refl _) (Agg.disk) hBb17 rfl (rfl) (Surv.disk (.inl (by decide))) (LV 8 rfl (LV 9 rfl (LV 17 rfl (LV 84 rfl (LT 1000003 rfl (LT 1000004 rfl (LeftS.cons (t := 1000007) rfl (Surv.varK (by omega) (Surv.disk (.inl (by decide)))) (LeftS.cons (t := 1000008) rfl (Surv.varKT (by decide) (Surv.ref (by decide) (by decide))) (LeftS.cons (t := 1000010) rfl (Surv.varK (by omega) (Surv.disk (.inl (by decide)))) (LeftS.cons (t := 1000012) rfl (Surv.varKT (by decide) (Surv.ref (by decide) (by decide))) (LO 1000200 rfl (LO 1000201 rfl LN)))))))))))), ?_⟩
   refine TL ?_
   refine RA rfl ?_
   refine RN ?_
   refine GS ?_
   refine TL ?_
   refine RS (ok_loadVK (s := 1000017) (by decide) Try.underlying27 rfl size27 rfl rfl) ?_
   refine RM rfl ?_
   refine RS (ok_callB (dRead_fn X0 (putC (opStep o (xS z L)).1 (opAt o (xS z L).length) (lastC ((hisC (opStep o (xS z L)).1 (opAt o (xS z L).length)).drop 1))) (opAt o (xS z L).length) (by rw [putC_length]; exact hk1) (by rw [putC_length]; exact hn1)) con_tup_mono (Args.cons rfl LA (Args.cons rfl LA Args.nil))) ?_
   refine RM rfl ?_
   refine RS (ok_extract rfl rfl) ?_
   refine RS (ok_extract rfl rfl) ?_
   refine RA rfl ?_
   refine RA rfl ?_
   refine RN ?_
   refine A.sub (KC 8 rfl (KC 9 rfl (KC 16 rfl (KC 18 rfl (KC 19 rfl (KC 1000003 rfl (KC 1000004 rfl (KC 1000007 rfl (KC 1000008 rfl (KC 1000010 rfl (KC 1000012 rfl (KC 1000017 rfl (KC 1000200 rfl (KC 1000201 rfl KN)))))))))))))) ?_
   refine GS ?_
   refine TL ?_
   refine RM rfl ?_
   refine RBS rfl rfl rfl (.bool true) (rfl) ?_
   refine RM rfl ?_
   refine RQ (ok_move rfl) ?_
   refine RQ (ok_move rfl) ?_
   refine RQ (ok_loadVK (s := 1000008) (by decide) Try.underlying34 rfl size34 rfl rfl) ?_
   refine RQ (ok_move rfl) ?_
   refine RQ (ok_call (rLast_fn (xS z L) hn ht (opAt o (xS z L).length) hk) (Args.cons rfl LA (Args.cons rfl LA Args.nil))) ?_
   refine RQ (ok_call (content_fn w₀.heap.size (lastC (hisC (xS z L) (opAt o (xS z L).length)))) (Args.cons rfl (Le.eq (by rw [hrd])) (Args.cons rfl (Le.v (by rw [hrd])) (Args.cons rfl LA Args.nil)))) ?_
   refine RQ (ok_bin rfl rfl rfl) ?_; refine RZ (.bool true) (rfl) ?_
   refine RP rfl rfl ?_
   refine RM rfl ?_
   refine RQ (ok_call (lives14_fn) Args.nil) ?_
   refine RP rfl rfl ?_
   refine RA rfl ?_
   refine RN ?_
   refine A.ret ?_
   exact End.ret1 rfl rfl (by first | exact Le.refl _ | exact Le.old _ _)
end Go.Proofs.Ytdhbhcbkhkopbaa
namespace Go.Proofs.Ytdhbhcbkhkopbaa
open Go Go.RowKit Go.ChangeShapes Go.WideShapes
section
variable {H : Type} {enc : TypeId × Value → H} {P : Program} {w : World} {base : Nat} {held : Bool}
theorem arg_nW {t : TypeId} {v : Value} {d : DataW H} {ps : List MemPlace} (ht : P.underlying t = some (.int .u16)) {r : Reach} {b0 : Nat} (hk : Value.okWide P w r b0 t v)
    (h : DataW.Trod enc P w base (fun _ => true) held t v d ps) : ∃ n : Nat, n < 65536 ∧ v = .int .u16 ((n : Nat) : Int) := by
  obtain ⟨n, rfl, hw⟩ := arg_num ht hk h
  obtain ⟨a, rfl, ha⟩ := nat_u16 hw
  exact ⟨a, ha, rfl⟩
end
end Go.Proofs.Ytdhbhcbkhkopbaa
namespace Go.Proofs.Ytdhbhcbkhkopbaa
open Go Go.RowKit Go.ChangeShapes Go.WideShapes
set_option linter.unusedVariables false
set_option linter.unusedSimpArgs false
section
variable {H : Type} {enc : TypeId × Value → H} {P : Program} {w : World} {base : Nat} {held : Bool}
theorem trod_bytW {t e : TypeId} {fuel : Nat} {cs : List Value} {x : DataW H × List MemPlace} (ht : P.underlying t = some (.slice e)) (he : P.underlying e = some (.int .u8)) (hc : P.cellsOf e = 1)
    (h : DataW.trod enc P w base (fun _ => true) held fuel t cs = some x) : ∃ (v : Value) (l : List UInt8), cs = [v] ∧ v.oneCell' = true ∧ (byt l).Of w v ∧ (l = [] ∨ ∃ elems spare, x.1 = .slice elems spare ∧ elems.length = l.length) := by
  obtain ⟨v, l, rfl, hb⟩ := trod_byt ht he hc (fun _ => rfl) h
  obtain ⟨c, hb'⟩ := id hb
  obtain ⟨A, hv, _, _, _⟩ := bytes_open hb'
  refine ⟨v, l, rfl, by rw [hv]; rfl, hb, ?_⟩
  rcases DataW.trod_slice ht h with ⟨h1, _⟩ | ⟨a, len, cap, elems, rest, n, _, h1, h2, _, _, _, hlen, _⟩
  · left
    simp only [List.cons.injEq, and_true] at h1
    rw [hv] at h1; injection h1 with _ h1 _
    exact List.eq_nil_of_length_eq_zero h1
  · right
    simp only [List.cons.injEq, and_true] at h1
    rw [hv] at h1; injection h1 with _ h1 _
    exact ⟨_, _, by rw [h2], by rw [List.length_map, hlen, h1]⟩
/-- One change, read. -/
theorem trod_op {t e : TypeId} {f0 f1 f2 f3 : Field} {fuel : Nat} {cs : List Value} {x : DataW H × List MemPlace} (ht : P.underlying t = some (.struct #[f0, f1, f2, f3])) (o0 : f0.offset = 0) (o1 : f1.offset = 1) (o2 : f2.offset = 2) (o3 : f3.offset = 3)
    (t0 : P.underlying f0.type = some (.int .u8)) (t1 : P.underlying f1.type = some (.int .u8)) (t2 : P.underlying f2.type = some (.int .u8)) (t3 : P.underlying f3.type = some (.slice e)) (he : P.underlying e = some (.int .u8)) (hc : P.cellsOf e = 1)
    (c0 : P.cellsOf f0.type = 1) (c1 : P.cellsOf f1.type = 1) (c2 : P.cellsOf f2.type = 1) (c3 : P.cellsOf f3.type = 1) (hC : P.cellsOf t = 4) (h : DataW.trod enc P w base (fun _ => true) held fuel t cs = some x) :
    ∃ o : OpT, cs.length = 4 ∧ cs.all (·.oneCell') = true ∧ (opD o).Of w (aggV cs) ∧ (o.l = [] ∨ ∃ n ∈ DataW.weights P t x.1, o.l.length * P.bytesOf e ≤ n) := by
  obtain ⟨xs, m, _, hx, hlen, hxl, hel⟩ := DataW.trod_struct ht h
  rw [hC] at hlen
  have hxl' : xs.length = 4 := by simpa using hxl
  have e0 := hel 0 f0 rfl
  have e1 := hel 1 f1 rfl
  have e2 := hel 2 f2 rfl
  have e3 := hel 3 f3 rfl
  rw [List.getElem?_eq_getElem (by omega)] at e0 e1 e2 e3
  rw [o0, c0] at e0
  rw [o1, c1] at e1
  rw [o2, c2] at e2
  rw [o3, c3] at e3
  obtain ⟨a, a1, _, a3⟩ := DataW.trod_int t0 e0
  obtain ⟨b, b1, _, b3⟩ := DataW.trod_int t1 e1
  obtain ⟨c, g1, _, g3⟩ := DataW.trod_int t2 e2
  obtain ⟨u, l, d1, d2, d3, d4⟩ := trod_bytW t3 he hc e3
  obtain ⟨a', ha'⟩ : ∃ y, Value.int .u8 a = byteV y := ⟨_, wf_u8 a3⟩
  obtain ⟨b', hb'⟩ : ∃ y, Value.int .u8 b = byteV y := ⟨_, wf_u8 b3⟩
  obtain ⟨c', hc'⟩ : ∃ y, Value.int .u8 c = byteV y := ⟨_, wf_u8 g3⟩
  rw [ha'] at a1
  rw [hb'] at b1
  rw [hc'] at g1
  refine ⟨⟨a', b', c', l⟩, hlen, ?_, ?_, ?_⟩
  · match hcl : cs, hlen with
    | [x, y, z, q], _ =>
      simp at a1 b1 g1 d1
      rw [a1, b1, g1, d1]
      rw [List.all_cons, List.all_cons, List.all_cons, List.all_cons, d2]; rfl
  · refine ⟨u, d2, ?_, d3⟩
    match hcl : cs, hlen with
    | [x, y, z, q], _ =>
      simp at a1 b1 g1 d1
      rw [a1, b1, g1, d1]; rfl
  · rcases d4 with rfl | ⟨elems, spare, h1, h2⟩
    · exact .inl rfl
    · right
      refine ⟨(elems.length + spare.length) * P.bytesOf e, ?_, ?_⟩
      · rw [hx]
        simp only [DataW.weights, ht]
        refine DataW.weights_mem_each (j := 3) (t := f3.type) (d := .slice elems spare) rfl ?_ _ ?_
        · rw [List.getElem?_map, List.getElem?_eq_getElem (by omega), Option.map_some, h1]
        · simp [DataW.weights, t3]
      · show l.length * P.bytesOf e ≤ _
        rw [← h2]
        exact Nat.mul_le_mul_right _ (Nat.le_add_right _ _)
theorem arg_op {t e : TypeId} {f0 f1 f2 f3 : Field} {v : Value} {d : DataW H} {ps : List MemPlace} (ht : P.underlying t = some (.struct #[f0, f1, f2, f3])) (o0 : f0.offset = 0) (o1 : f1.offset = 1) (o2 : f2.offset = 2) (o3 : f3.offset = 3)
    (t0 : P.underlying f0.type = some (.int .u8)) (t1 : P.underlying f1.type = some (.int .u8)) (t2 : P.underlying f2.type = some (.int .u8)) (t3 : P.underlying f3.type = some (.slice e)) (he : P.underlying e = some (.int .u8)) (hc : P.cellsOf e = 1)
    (c0 : P.cellsOf f0.type = 1) (c1 : P.cellsOf f1.type = 1) (c2 : P.cellsOf f2.type = 1) (c3 : P.cellsOf f3.type = 1) (hC : P.cellsOf t = 4) {r : Reach} {b0 : Nat} (hk : Value.okWide P w r b0 t v) (h : DataW.Trod enc P w base (fun _ => true) held t v d ps) :
    ∃ o : OpT, (opD o).Of w v ∧ (o.l = [] ∨ ∃ n ∈ DataW.weights P t d, o.l.length * P.bytesOf e ≤ n) := by
  obtain ⟨cs, rfl, hcs⟩ := okWide_struct ht hk
  obtain ⟨fuel, hf⟩ := h
  obtain ⟨o, _, _, h3, h4⟩ := trod_op ht o0 o1 o2 o3 t0 t1 t2 t3 he hc c0 c1 c2 c3 hC hf
  exact ⟨o, h3, h4⟩
/-- A slice of changes, read. -/
theorem trod_ops {t s e : TypeId} {f0 f1 f2 f3 : Field} {fuel : Nat} {cs : List Value} {x : DataW H × List MemPlace} (hs : P.underlying s = some (.slice t)) (ht : P.underlying t = some (.struct #[f0, f1, f2, f3])) (o0 : f0.offset = 0) (o1 : f1.offset = 1) (o2 : f2.offset = 2) (o3 : f3.offset = 3)
    (t0 : P.underlying f0.type = some (.int .u8)) (t1 : P.underlying f1.type = some (.int .u8)) (t2 : P.underlying f2.type = some (.int .u8)) (t3 : P.underlying f3.type = some (.slice e)) (he : P.underlying e = some (.int .u8)) (hc : P.cellsOf e = 1)
    (c0 : P.cellsOf f0.type = 1) (c1 : P.cellsOf f1.type = 1) (c2 : P.cellsOf f2.type = 1) (c3 : P.cellsOf f3.type = 1) (hC : P.cellsOf t = 4) (h : DataW.trod enc P w base (fun _ => true) held fuel s cs = some x) :
    ∃ (v : Value) (L : List OpT), cs = [v] ∧ v.oneCell' = true ∧ (lstK 4 (L.map opD)).Of w v := by
  rcases DataW.trod_slice hs h with ⟨rfl, _⟩ | ⟨a, len, cap, elems, rest, n, _, rfl, _, hba, hlc, hm, hlen, hel, _⟩
  · exact ⟨_, [], rfl, rfl, none, 0, rfl, fun i d hd => by simp at hd⟩
  · have each : ∀ i, ∃ p : OpT × List Value, i < len → p.2.length = 4 ∧ (∀ k, k < 4 → w.cell? (a.add (i * 4 + k)) = p.2[k]?) ∧ (opD p.1).Of w (aggV p.2) := fun i => by
      by_cases hi : i < len
      · have h1 := hel i hi
        rw [List.getElem?_eq_getElem (by omega), hC, Option.bind_eq_some_iff] at h1
        obtain ⟨cs', h2, h3⟩ := h1
        obtain ⟨o, k1, _, k3, _⟩ := trod_op ht o0 o1 o2 o3 t0 t1 t2 t3 he hc c0 c1 c2 c3 hC h3
        obtain ⟨_, _, h4⟩ := World.cells?_some h2
        exact ⟨(o, cs'), fun _ => ⟨k1, fun k hk => by rw [← add_of_add]; exact h4 k hk, k3⟩⟩
      · exact ⟨(⟨0, 0, 0, []⟩, []), fun h => absurd h hi⟩
    obtain ⟨g, hg⟩ := Classical.axiomOfChoice each
    refine ⟨_, (List.range len).map fun i => (g i).1, rfl, rfl, some a, cap, by simp, fun i d hd => ?_⟩
    have hi : i < len := by have := (List.getElem?_eq_some_iff.1 hd).1; simpa using this
    obtain ⟨k1, k2, k3⟩ := hg i hi
    have hd' : d = opD (g i).1 := by simpa [hi] using hd.symm
    subst hd'
    refine ⟨a, (g i).2, rfl, ?_, k1, fun j u hu => ?_, k3⟩
    · have h0 : w.cell? (a.add (i * 4 + 0)) = some ((g i).2[0]'(by omega)) := (k2 0 (by decide)).trans (List.getElem?_eq_getElem (by omega))
      have := block_of_cell h0
      rwa [block_of_add] at this
    · have hj : j < 4 := by have := (List.getElem?_eq_some_iff.1 hu).1; omega
      rw [k2 j hj]; exact hu
theorem arg_xD {T t e : TypeId} {g0 g1 f0 f1 f2 f3 : Field} {v : Value} {d : DataW H} {ps : List MemPlace} (hT : P.underlying T = some (.struct #[g0, g1])) (p0 : g0.offset = 0) (p1 : g1.offset = 1) (u0 : P.underlying g0.type = some (.int .u8)) (q0 : P.cellsOf g0.type = 1) (hs : P.underlying g1.type = some (.slice t)) (q1 : P.cellsOf g1.type = 1) (hCT : P.cellsOf T = 2)
    (ht : P.underlying t = some (.struct #[f0, f1, f2, f3])) (o0 : f0.offset = 0) (o1 : f1.offset = 1) (o2 : f2.offset = 2) (o3 : f3.offset = 3)
    (t0 : P.underlying f0.type = some (.int .u8)) (t1 : P.underlying f1.type = some (.int .u8)) (t2 : P.underlying f2.type = some (.int .u8)) (t3 : P.underlying f3.type = some (.slice e)) (he : P.underlying e = some (.int .u8)) (hc : P.cellsOf e = 1)
    (c0 : P.cellsOf f0.type = 1) (c1 : P.cellsOf f1.type = 1) (c2 : P.cellsOf f2.type = 1) (c3 : P.cellsOf f3.type = 1) (hC : P.cellsOf t = 4) {r : Reach} {b0 : Nat} (hk : Value.okWide P w r b0 T v) (h : DataW.Trod enc P w base (fun _ => true) held T v d ps) :
    ∃ (z : UInt8) (L : List OpT), (xD z L).Of w v := by
  obtain ⟨cs, rfl, hcs⟩ := okWide_struct hT hk
  obtain ⟨fuel, hf⟩ := h
  obtain ⟨xs, m, _, _, hlen, hxl, hel⟩ := DataW.trod_struct hT hf
  have hlen' : cs.toList.length = 2 := by rw [← hCT]; exact hlen
  have hxl' : xs.length = 2 := by simpa using hxl
  have e0 := hel 0 g0 rfl
  have e1 := hel 1 g1 rfl
  rw [List.getElem?_eq_getElem (by omega)] at e0 e1
  rw [p0, q0] at e0
  rw [p1, q1] at e1
  obtain ⟨a, a1, _, a3⟩ := DataW.trod_int u0 e0
  obtain ⟨u, L, b1, b2, b3⟩ := trod_ops hs ht o0 o1 o2 o3 t0 t1 t2 t3 he hc c0 c1 c2 c3 hC e1
  obtain ⟨a', ha'⟩ : ∃ y, Value.int .u8 a = byteV y := ⟨_, wf_u8 a3⟩
  rw [ha'] at a1
  refine ⟨a', L, u, b2, ?_, b3⟩
  have a1' : (cs.toList.drop 0).take 1 = _ := a1
  have b1' : (cs.toList.drop 1).take 1 = _ := b1
  unfold aggV
  congr 1
  apply Array.ext'
  match hcl : cs.toList, hlen' with
  | [x, y], _ =>
    rw [hcl] at a1' b1'
    simp at a1' b1'
    rw [a1', b1']; rfl
theorem arg_z2 {t : TypeId} {v : Value} {d : DataW H} {ps : List MemPlace} (hf : flat P 3 t = some [.i64, .i64]) (hg : isAggT P t = true) {r : Reach} {b0 : Nat} (hk : Value.okWide P w r b0 t v)
    (h : DataW.Trod enc P w base (fun _ => true) held t v d ps) : ∃ a b : Int, v = aggV [.int .i64 a, .int .i64 b] := by
  obtain ⟨xs, rfl, hx⟩ := arg_flat 3 hf hg hk h
  obtain ⟨a, y, rfl, _, h2⟩ := hx.cons
  obtain ⟨b, rfl, _⟩ := h2.one
  exact ⟨a, b, rfl⟩
end
end Go.Proofs.Ytdhbhcbkhkopbaa
namespace Go.Proofs.Ytdhbhcbkhkopbaa
open Go Go.RowKit
set_option linter.unusedVariables false
set_option maxRecDepth 20000
set_option linter.unusedSimpArgs false

def newE (s : Int) : Int := if 1 ≤ s ∧ s ≤ 10922 then 0 else 1
def newN (s : Int) : Nat := if 1 ≤ s ∧ s ≤ 10922 then s.toNat else 0
theorem new_case (s : Int) : (s < 1 ∧ newE s = 1 ∧ newN s = 0) ∨ (1 ≤ s ∧ 10922 < s ∧ newE s = 1 ∧ newN s = 0) ∨ (1 ≤ s ∧ s ≤ 10922 ∧ newE s = 0) := by
 unfold newE newN
 by_cases h1 : s < 1
 ·exact .inl ⟨h1, if_neg (by omega), if_neg (by omega)⟩
 by_cases h2 : 10922 < s
 ·exact .inr (.inl ⟨by omega, h2, if_neg (by omega), if_neg (by omega)⟩)
 ·exact .inr (.inr ⟨by omega, by omega, if_pos ⟨by omega, by omega⟩⟩)
theorem dNew_any (s : Int) : Fn Try.prog 9 [.v (.int .i64 (s))] (tup [dszD (newN s), .v (.int .i64 (newE s))]) := by
 unfold newE newN
 by_cases h : 1 ≤ s ∧ s ≤ 10922
 ·rw [if_pos h, if_pos h]
  obtain ⟨m, rfl⟩ := Int.eq_ofNat_of_zero_le (show 0 ≤ s by omega)
  exact (dNew_ok m (by omega) (by omega)).le (tup_mono (by have := disk_sz (T := dT) (X := X0) (S := List.replicate m []); rwa [List.length_replicate] at this) (Le.refl _))
 ·rw [if_neg h, if_neg h]
  by_cases h1 : s < 1
  ·exact (dNew_lo s h1).le (tup_v zero_sz (Le.refl _))
  ·exact (dNew_hi s (by omega)).le (tup_v zero_sz (Le.refl _))
def wrE (m : Nat) : Int := if 256 < m then 3 else 0
def wrN (n m : Nat) : Nat := if 256 < m then 0 else n
theorem dWrite_any (S : Dk) (i : Nat) (hi : i < S.length) (hn : S.length ≤ 10922) (l : List UInt8) (m : Nat) (hm : l.length = m) (ht : totC S ≤ 1000000) : Fn Try.prog 23 [diskD dT X0 S, .v (nI (i)), byt l] (tup [dszD (wrN S.length m), .v (.int .i64 (wrE m))]) := by
 subst hm
 unfold wrE wrN
 by_cases h : 256 < l.length
 ·rw [if_pos h, if_pos h]; exact ((dWrite_big S.length i ⟨by omega, by omega⟩ l h).arg0 disk_sz).le (tup_v zero_sz (Le.refl _))
 ·rw [if_neg h, if_neg h]; exact (dWrite_fn X0 S i hi hn l (by omega) ht).le (tup_mono (by have := disk_sz (T := dT) (X := X0) (S := putC S i (some l)); rwa [putC_length] at this) (Le.refl _))
def verE (h : List Con) (k : Int) : Int := if 0 ≤ k ∧ k ≤ h.length then errC (atC h k.toNat) else 1
theorem dVersion_any (S : Dk) (i : Nat) (hi : i < S.length) (hn : S.length ≤ 10922) (k : Int) (ht : totC S ≤ 1000000) : Fn Try.prog 25 [diskD dT X0 S, .v (nI (i)), .v (.int .i64 (k))] (tup [anyD, .v (.int .i64 (verE (hisC S i) k))]) := by
 unfold verE
 by_cases h : 0 ≤ k ∧ k ≤ (hisC S i).length
 ·rw [if_pos h]
  obtain ⟨m, rfl⟩ := Int.eq_ofNat_of_zero_le h.1
  exact (dVersion_fn X0 S i hi hn m (by omega) ht).fn fun B => tup_mono (fun _ _ _ _ => trivial) (Le.refl _)
 ·rw [if_neg h]
  by_cases h1 : k < 0
  ·exact (dVersion_neg X0 S i hi hn k h1).le (tup_v (fun _ _ _ _ => trivial) (Le.refl _))
  ·exact (dVersion_big X0 S i hi hn k (by omega)).le (tup_v (fun _ _ _ _ => trivial) (Le.refl _))
def repE (h : List Con) (k : Int) : Int := if k < 0 then 1 else if k ≤ h.length then 0 else 11
def repN (n : Nat) (h : List Con) (k : Int) : Nat := if 0 ≤ k ∧ k ≤ h.length then n else 0
theorem dReplay_any (S : Dk) (i : Nat) (hi : i < S.length) (hn : S.length ≤ 10922) (k : Int) (ht : totC S ≤ 1000000) : Fn Try.prog 26 [diskD dT X0 S, .v (nI (i)), .v (.int .i64 (k))] (tup [dszD (repN S.length (hisC S i) k), .v (.int .i64 (repE (hisC S i) k))]) := by
 unfold repE repN
 by_cases h1 : k < 0
 ·rw [if_pos h1, if_neg (by omega)]; exact ((dReplay_neg S.length i ⟨by omega, by omega⟩ k h1).arg0 disk_sz).le (tup_v zero_sz (Le.refl _))
 ·rw [if_neg h1]
  obtain ⟨m, rfl⟩ := Int.eq_ofNat_of_zero_le (show 0 ≤ k by omega)
  by_cases h : (m : Int) ≤ (hisC S i).length
  ·rw [if_pos h, if_pos ⟨by omega, h⟩]; exact (dReplay_fn X0 S i hi hn m (by omega) ht).le (tup_mono (by have := disk_sz (T := dT) (X := X0) (S := putC S i (lastC ((hisC S i).drop m))); rwa [putC_length] at this) (Le.refl _))
  ·rw [if_neg h, if_neg (by omega)]; exact (dReplay_big X0 S i hi hn m (by omega)).le (tup_v zero_sz (Le.refl _))
theorem k_case (k : Int) (h : List Con) : (k < 0 ∧ verE h k = 1 ∧ repE h k = 1 ∧ ∀ n, repN n h k = 0) ∨ (0 ≤ k ∧ k ≤ h.length ∧ verE h k ≠ 1 ∧ repE h k = 0) ∨ (0 ≤ k ∧ (h.length : Int) < k ∧ verE h k = 1 ∧ repE h k = 11 ∧ ∀ n, repN n h k = 0) := by
 unfold verE repE repN
 by_cases h1 : k < 0
 ·exact .inl ⟨h1, if_neg (by omega), if_pos h1, fun n => if_neg (by omega)⟩
 by_cases h2 : k ≤ h.length
 ·exact .inr (.inl ⟨by omega, h2, by rw [if_pos ⟨by omega, h2⟩]; exact errC_ne1 _, by rw [if_neg h1, if_pos h2]⟩)
 ·exact .inr (.inr ⟨by omega, by omega, if_neg (by omega), by rw [if_neg h1, if_neg h2], fun n => if_neg (by omega)⟩)

set_option maxHeartbeats 2000000 in
theorem DErr_no (z : UInt8) (L : List OpT) (s k : Int) (mn : Nat) (hmn : mn < 65536) (hno : ¬ (0 ≤ s ∧ s < ((xS z L).length : Int))) : Fn Try.prog 5 [xD z L, .v (aggV [.int .i64 (s), .int .i64 k]), .v (.int .u16 (mn : Int))] (.v (.bool true)) := by
 have hn : (xS z L).length ≤ 10922 := by rw [xS_len]; have := nOf_le z; omega
 have ht : totC (xS z L) ≤ 1000000 := Nat.le_trans (xS_tot z L) (by decide)
 have hS : 0 < (xS z L).length := by rw [xS_len]; exact nOf_pos z
 have hw : mn % 300 < 300 := Nat.mod_lt _ (by decide)
 have hxl := xS_len z L
 refine Fn.of Try.func5 rfl (by kernel_rfl) Try.ntmps5 (by simp) (fun w => [(0, old w.heap.size (xD z L)), (1, .v (aggV [.int .i64 (s), .int .i64 k])), (2, .v (.int .u16 (mn : Int)))]) (fun w => (Start.old rfl (Start.v rfl (Start.v rfl Start.nil)))) fun w₀ => ?_
 refine A.nameTl (t := 0) (k := 1000200) rfl fun v hv1 => ?_
 refine GS ?_
 refine TN 0 ?_
 refine RN ?_
 refine ⟨_, _, eff_box (n := 222) (d := 3) (k := 1000003) rfl (by decide), fun b3 hb3 => ?_⟩
 have hBb3 := hb3.1
 refine TN 1 ?_
 refine RN ?_
 refine ⟨_, _, eff_box (n := 222) (d := 4) (k := 1000004) rfl (by decide), fun b4 hb4 => ?_⟩
 have hBb4 := hb4.1
 refine TL ?_
 refine RA rfl ?_
 refine RN ?_
 refine GS ?_
 refine TN 2 ?_
 refine RS (OpOk.tlO (k := 1000200) [byteV z] (ok_loadA (s := 1000003) (by decide) Try.underlying24 rfl (size24.of (rfl)) rfl rfl) rfl hv1 (by decide) rfl) ?_
 refine RS (ok_call (xOf_fn z L) (Args.cons rfl (Le.old _ _) Args.nil)) ?_
 refine RN ?_
 refine ⟨_, _, eff_alloc (n := 222) (d := 7) (k := 1000007) zero27 (by decide), fun b7 hb7 => ?_⟩
 have hBb7 := hb7.1
 refine TF 3 ?_
 refine RN ?_
 refine ⟨_, eff_storeK (n := 222) (s := 1000007) size27 rfl rfl (Le.refl _) (Agg.disk) hBb7 rfl (rfl) (Surv.disk (.inl (by decide))) (LV 2 rfl (LV 3 rfl (LV 4 rfl (LV 7 rfl (LT 1000003 rfl (LT 1000004 rfl (LO 1000200 rfl LN))))))), ?_⟩
 refine TL ?_
 refine RN ?_
 refine GS ?_
 refine TN 2 ?_
 refine RS (OpOk.tlO (k := 1000200) [byteV z] (ok_loadA (s := 1000003) (by decide) Try.underlying24 rfl (size24.of (rfl)) rfl rfl) rfl hv1 (by decide) rfl) ?_
 refine RS (ok_call (xRef_fn z L) (Args.cons rfl (Le.old _ _) Args.nil)) ?_
 refine RN ?_
 refine ⟨_, _, eff_allocV (n := 222) (d := 8) (k := 1000008) zero34 (by decide), fun b8 hb8 => ?_⟩
 have hBb8 := hb8.1
 refine TF 3 ?_
 refine RN ?_
 refine ⟨_, eff_storeK (n := 222) (s := 1000008) size34 rfl rfl (Le.refl _) (Agg.ref) hBb8 rfl (rfl) (Surv.ref (by decide) (by decide)) (LV 2 rfl (LV 3 rfl (LV 4 rfl (LV 7 rfl (LV 8 rfl (LT 1000003 rfl (LT 1000004 rfl (LeftS.cons (t := 1000007) rfl (Surv.varKT (by decide) (Surv.disk (.inl (by decide)))) (LO 1000200 rfl LN))))))))), ?_⟩
 refine TL ?_
 refine RN ?_
 refine GD ?_
 refine TL ?_
 refine RS (ok_index0 (0) Try.underlying54 info3 rfl rfl (rfl) (by decide)) ?_
 refine RS (ok_loadV (s := 1000004) (by decide) Try.underlying3 rfl rfl rfl (rfl)) ?_
 refine RS (ok_index0 (1) Try.underlying54 info3 rfl rfl (rfl) (by decide)) ?_
 refine RS (ok_loadV (s := 1000004) (by decide) Try.underlying3 rfl rfl rfl (rfl)) ?_
 refine RA rfl ?_
 refine RA rfl ?_
 refine RN ?_
 refine GS ?_
 refine TL ?_
 refine RM rfl ?_
 refine RS (ok_rem rfl rfl (by decide)) ?_; refine RZ (.int .u16 (((mn % 300) : Nat) : Int)) (remU16 _ 300) ?_
 refine RS (ok_make (mn % 300) Try.underlying37 info5 (by decide) rfl rfl rfl rfl rfl (by omega)) ?_
 refine RA rfl ?_
 refine RN ?_
 refine A.seqTo [(7, .v (ptr b7)), (8, .v (ptr b8)), (9, .v (.int .i64 (s))), (10, .v (.int .i64 (k))), (11, fresh w₀.heap.size 5 (List.replicate (mn % 300) (.int .u8 0)) (mn % 300)), (12, .v (.bool false)), (1000007, varK b7 27 3 (diskD dT X0 (xS z L)))] ?_ ?_
 ·by_cases h0 : 0 ≤ s
  ·refine GE ?_
   refine TL ?_
   refine RM rfl ?_
   refine RBS rfl rfl rfl (.bool true) (congrArg Value.bool (decide_eq_true (by omega))) ?_
   refine RM rfl ?_
   refine RQ (ok_move rfl) ?_
   refine RQ (OpOk.tlO (k := 1000200) [byteV z] (ok_loadA (s := 1000003) (by decide) Try.underlying24 rfl (size24.of (rfl)) rfl rfl) rfl hv1 (by decide) rfl) ?_
   refine RQ (ok_call (xSize_fn z L) (Args.cons rfl (Le.old _ _) Args.nil)) ?_
   refine RQ (ok_bin rfl rfl rfl) ?_; refine RZ (.bool false) (congrArg Value.bool (decide_eq_false (by omega))) ?_
   refine RP rfl rfl ?_
   refine RA rfl ?_
   refine RN ?_
   refine End.sub (KC 7 rfl (KC 8 rfl (KC 9 rfl (KC 10 rfl (KC 11 rfl (KC 12 rfl (KC 1000003 rfl (KC 1000004 rfl (KC 1000007 rfl (KC 1000008 rfl (KC 1000200 rfl KN))))))))))) ?_
   exact End.normal_then (End.toEnv (SubL.cons (t := 7) rfl (by first | exact Le.refl _ | exact Le.old _ _) (SubL.cons (t := 8) rfl (by first | exact Le.refl _ | exact Le.old _ _) (SubL.cons (t := 9) rfl (by first | exact Le.refl _ | exact Le.old _ _) (SubL.cons (t := 10) rfl (by first | exact Le.refl _ | exact Le.old _ _) (SubL.cons (t := 11) rfl (by first | exact Le.refl _ | exact Le.old _ _) (SubL.cons (t := 12) rfl (by first | exact Le.refl _ | exact Le.old _ _) (SubL.cons (t := 1000007) rfl (by first | exact Le.refl _ | exact Le.old _ _) SubL.nil))))))))
  ·refine GE ?_
   refine TL ?_
   refine RM rfl ?_
   refine RBS rfl rfl rfl (.bool false) (congrArg Value.bool (decide_eq_false (by omega))) ?_
   refine RM rfl ?_
   refine RK ?_
   refine RK ?_
   refine RK ?_
   refine RK ?_
   refine RP rfl rfl ?_
   refine RA rfl ?_
   refine RN ?_
   refine End.sub (KC 7 rfl (KC 8 rfl (KC 9 rfl (KC 10 rfl (KC 11 rfl (KC 12 rfl (KC 1000003 rfl (KC 1000004 rfl (KC 1000007 rfl (KC 1000008 rfl (KC 1000200 rfl KN))))))))))) ?_
   exact End.normal_then (End.toEnv (SubL.cons (t := 7) rfl (by first | exact Le.refl _ | exact Le.old _ _) (SubL.cons (t := 8) rfl (by first | exact Le.refl _ | exact Le.old _ _) (SubL.cons (t := 9) rfl (by first | exact Le.refl _ | exact Le.old _ _) (SubL.cons (t := 10) rfl (by first | exact Le.refl _ | exact Le.old _ _) (SubL.cons (t := 11) rfl (by first | exact Le.refl _ | exact Le.old _ _) (SubL.cons (t := 12) rfl (by first | exact Le.refl _ | exact Le.old _ _) (SubL.cons (t := 1000007) rfl (by first | exact Le.refl _ | exact Le.old _ _) SubL.nil))))))))
 ·refine GS ?_
  refine TN 5 ?_
  refine RM rfl ?_
  refine RS (ok_call (dNew_any s) (Args.cons rfl LA Args.nil)) ?_
  refine RM rfl ?_
  refine RS (ok_extract rfl rfl) ?_
  refine RS (ok_extract rfl rfl) ?_
  refine RN ?_
  refine ⟨_, _, eff_allocV (n := 222) (d := 13) (k := 1000013) zero27 (by decide), fun b13 hb13 => ?_⟩
  have hBb13 := hb13.1
  have hlt_b7_b13 : b7 < b13 := hb13.2.2 1000007 _ _ _ _ rfl
  refine TF 6 ?_
  refine RN ?_
  refine ⟨_, eff_storeK (n := 222) (s := 1000013) size27 rfl rfl (Le.refl _) (Agg.dsz) hBb13 rfl (rfl) (Surv.dsz) (LV 7 rfl (LV 8 rfl (LV 9 rfl (LV 10 rfl (LeftS.cons (t := 11) rfl (Surv.fresh (by decide)) (LV 12 rfl (LV 13 rfl (LV 49 rfl (LeftS.cons (t := 1000007) rfl (Surv.varK (by omega) (Surv.disk (.inl (by decide)))) LN))))))))), ?_⟩
  refine TL ?_
  refine RA rfl ?_
  refine RN ?_
  refine A.seq ?_
  refine A.seqTo [(7, .v (ptr b7)), (8, .v (ptr b8)), (9, .v (.int .i64 (s))), (10, .v (.int .i64 (k))), (11, fresh w₀.heap.size 5 (List.replicate (mn % 300) (.int .u8 0)) (mn % 300)), (12, .v (.bool false)), (71, .v (.bool false)), (1000007, varK b7 27 3 (diskD dT X0 (xS z L)))] ?_ ?_
  ·rcases new_case s with ⟨hs1, he, hz⟩ | ⟨hs1, hs2, he, hz⟩ | ⟨hs1, hs2, he⟩
   ·refine GE ?_
    refine TL ?_
    refine RM rfl ?_
    refine RBS rfl rfl rfl (.bool false) (congrArg Value.bool (decide_eq_false (by rw [he]; decide))) ?_
    refine RM rfl ?_
    refine RBS rfl rfl rfl (.bool false) (congrArg Value.bool (decide_eq_false (by omega))) ?_
    refine RM rfl ?_
    refine RK ?_
    refine RK ?_
    refine RP rfl rfl ?_
    refine RS (ok_neBool Try.underlying4 rfl rfl) ?_; refine RZ (.bool false) (rfl) ?_
    refine RM rfl ?_
    refine RQ (ok_move rfl) ?_
    refine RQ (ok_bin rfl rfl rfl) ?_; refine RZ (.bool true) (congrArg Value.bool (by rw [he]; rfl)) ?_
    refine RQ (ok_move rfl) ?_
    refine RQ (ok_move rfl) ?_
    refine RQ (ok_bin rfl rfl rfl) ?_; refine RZ (.bool false) (congrArg Value.bool (by rw [he]; rfl)) ?_
    refine RQ (ok_move rfl) ?_
    refine RQ (ok_loadVK (s := 1000013) (by decide) Try.underlying27 rfl size27 rfl rfl) ?_
    refine RQ (ok_call (dSize_fn (newN s)) (Args.cons rfl LA Args.nil)) ?_
    refine RQ (ok_bin rfl rfl rfl) ?_; refine RZ (.bool false) (congrArg Value.bool (by rw [hz]; rfl)) ?_
    refine RQ (ok_pick rfl rfl) ?_
    refine RQ (ok_pick rfl rfl) ?_
    refine RP rfl rfl ?_
    refine RN ?_
    refine End.sub (KC 7 rfl (KC 8 rfl (KC 9 rfl (KC 10 rfl (KC 11 rfl (KC 12 rfl (KC 71 rfl (KC 1000007 rfl (KC 1000013 rfl KN))))))))) ?_
    exact End.normal_then (End.toEnv (SubL.cons (t := 7) rfl (by first | exact Le.refl _ | exact Le.old _ _) (SubL.cons (t := 8) rfl (by first | exact Le.refl _ | exact Le.old _ _) (SubL.cons (t := 9) rfl (by first | exact Le.refl _ | exact Le.old _ _) (SubL.cons (t := 10) rfl (by first | exact Le.refl _ | exact Le.old _ _) (SubL.cons (t := 11) rfl (by first | exact Le.refl _ | exact Le.old _ _) (SubL.cons (t := 12) rfl (by first | exact Le.refl _ | exact Le.old _ _) (SubL.cons (t := 71) rfl (by first | exact Le.refl _ | exact Le.old _ _) (SubL.cons (t := 1000007) rfl (by first | exact Le.refl _ | exact Le.old _ _) SubL.nil)))))))))
   ·refine GE ?_
    refine TL ?_
    refine RM rfl ?_
    refine RBS rfl rfl rfl (.bool false) (congrArg Value.bool (decide_eq_false (by rw [he]; decide))) ?_
    refine RM rfl ?_
    refine RBS rfl rfl rfl (.bool true) (congrArg Value.bool (decide_eq_true (by omega))) ?_
    refine RM rfl ?_
    refine RQ (ok_move rfl) ?_
    refine RQ (ok_bin rfl rfl rfl) ?_; refine RZ (.bool false) (congrArg Value.bool (decide_eq_false (by omega))) ?_
    refine RP rfl rfl ?_
    refine RS (ok_neBool Try.underlying4 rfl rfl) ?_; refine RZ (.bool false) (rfl) ?_
    refine RM rfl ?_
    refine RQ (ok_move rfl) ?_
    refine RQ (ok_bin rfl rfl rfl) ?_; refine RZ (.bool true) (congrArg Value.bool (by rw [he]; rfl)) ?_
    refine RQ (ok_move rfl) ?_
    refine RQ (ok_move rfl) ?_
    refine RQ (ok_bin rfl rfl rfl) ?_; refine RZ (.bool false) (congrArg Value.bool (by rw [he]; rfl)) ?_
    refine RQ (ok_move rfl) ?_
    refine RQ (ok_loadVK (s := 1000013) (by decide) Try.underlying27 rfl size27 rfl rfl) ?_
    refine RQ (ok_call (dSize_fn (newN s)) (Args.cons rfl LA Args.nil)) ?_
    refine RQ (ok_bin rfl rfl rfl) ?_; refine RZ (.bool false) (congrArg Value.bool (by rw [hz]; rfl)) ?_
    refine RQ (ok_pick rfl rfl) ?_
    refine RQ (ok_pick rfl rfl) ?_
    refine RP rfl rfl ?_
    refine RN ?_
    refine End.sub (KC 7 rfl (KC 8 rfl (KC 9 rfl (KC 10 rfl (KC 11 rfl (KC 12 rfl (KC 71 rfl (KC 1000007 rfl (KC 1000013 rfl KN))))))))) ?_
    exact End.normal_then (End.toEnv (SubL.cons (t := 7) rfl (by first | exact Le.refl _ | exact Le.old _ _) (SubL.cons (t := 8) rfl (by first | exact Le.refl _ | exact Le.old _ _) (SubL.cons (t := 9) rfl (by first | exact Le.refl _ | exact Le.old _ _) (SubL.cons (t := 10) rfl (by first | exact Le.refl _ | exact Le.old _ _) (SubL.cons (t := 11) rfl (by first | exact Le.refl _ | exact Le.old _ _) (SubL.cons (t := 12) rfl (by first | exact Le.refl _ | exact Le.old _ _) (SubL.cons (t := 71) rfl (by first | exact Le.refl _ | exact Le.old _ _) (SubL.cons (t := 1000007) rfl (by first | exact Le.refl _ | exact Le.old _ _) SubL.nil)))))))))
   ·refine GE ?_
    refine TL ?_
    refine RM rfl ?_
    refine RBS rfl rfl rfl (.bool true) (congrArg Value.bool (decide_eq_true (he))) ?_
    refine RM rfl ?_
    refine RBS rfl rfl rfl (.bool true) (congrArg Value.bool (decide_eq_true (by omega))) ?_
    refine RM rfl ?_
    refine RQ (ok_move rfl) ?_
    refine RQ (ok_bin rfl rfl rfl) ?_; refine RZ (.bool true) (congrArg Value.bool (decide_eq_true (by omega))) ?_
    refine RP rfl rfl ?_
    refine RS (ok_neBool Try.underlying4 rfl rfl) ?_; refine RZ (.bool false) (rfl) ?_
    refine RM rfl ?_
    refine RQ (ok_move rfl) ?_
    refine RQ (ok_bin rfl rfl rfl) ?_; refine RZ (.bool false) (congrArg Value.bool (by rw [he]; rfl)) ?_
    refine RQ (ok_move rfl) ?_
    refine RK ?_
    refine RK ?_
    refine RK ?_
    refine RunK.skippedU rfl rfl rfl rfl ?_
    refine RunK.skippedU rfl rfl rfl rfl ?_
    refine RunK.skippedU rfl rfl rfl rfl ?_
    refine RK ?_
    refine RQ (ok_pick rfl rfl) ?_
    refine RP rfl rfl ?_
    refine RN ?_
    refine End.sub (KC 7 rfl (KC 8 rfl (KC 9 rfl (KC 10 rfl (KC 11 rfl (KC 12 rfl (KC 71 rfl (KC 1000007 rfl (KC 1000013 rfl KN))))))))) ?_
    exact End.normal_then (End.toEnv (SubL.cons (t := 7) rfl (by first | exact Le.refl _ | exact Le.old _ _) (SubL.cons (t := 8) rfl (by first | exact Le.refl _ | exact Le.old _ _) (SubL.cons (t := 9) rfl (by first | exact Le.refl _ | exact Le.old _ _) (SubL.cons (t := 10) rfl (by first | exact Le.refl _ | exact Le.old _ _) (SubL.cons (t := 11) rfl (by first | exact Le.refl _ | exact Le.old _ _) (SubL.cons (t := 12) rfl (by first | exact Le.refl _ | exact Le.old _ _) (SubL.cons (t := 71) rfl (by first | exact Le.refl _ | exact Le.old _ _) (SubL.cons (t := 1000007) rfl (by first | exact Le.refl _ | exact Le.old _ _) SubL.nil)))))))))
  ·refine A.no rfl ?_
   refine A.skip ?_
   refine EN ?_
   refine GS ?_
   refine TL ?_
   refine RS (ok_loadVK (s := 1000007) (by decide) Try.underlying27 rfl size27 rfl rfl) ?_
   refine RM rfl ?_
   refine RS (ok_call (dRead_bad (xS z L).length s hno) (Args.cons rfl (disk_sz) (Args.cons rfl LA Args.nil))) ?_
   refine RM rfl ?_
   refine RS (ok_extractV rfl rfl) ?_
   refine RS (ok_extractV rfl rfl) ?_
   refine RA rfl ?_
   refine RN ?_
   refine GS ?_
   refine TN 6 ?_
   refine RS (ok_loadVK (s := 1000007) (by decide) Try.underlying27 rfl size27 rfl rfl) ?_
   refine RM rfl ?_
   refine RS (ok_call (dErase_bad (xS z L).length s hno) (Args.cons rfl (disk_sz) (Args.cons rfl LA Args.nil))) ?_
   refine RM rfl ?_
   refine RS (ok_extractV rfl rfl) ?_
   refine RS (ok_extractV rfl rfl) ?_
   refine RN ?_
   refine ⟨_, _, eff_allocV (n := 222) (d := 15) (k := 1000015) zero27 (by decide), fun b15 hb15 => ?_⟩
   have hBb15 := hb15.1
   have hlt_b7_b15 : b7 < b15 := hb15.2.2 1000007 _ _ _ _ rfl
   refine TF 7 ?_
   refine RN ?_
   refine ⟨_, eff_storeA (n := 222) (s := 1000015) (size27.of (rfl)) rfl rfl (rfl) hBb15 rfl (rfl) (LV 7 rfl (LV 8 rfl (LV 9 rfl (LV 10 rfl (LeftS.cons (t := 11) rfl (Surv.fresh (by decide)) (LV 12 rfl (LV 14 rfl (LV 83 rfl (LeftS.cons (t := 1000007) rfl (Surv.varK (by omega) (Surv.disk (.inl (by decide)))) LN))))))))), ?_⟩
   refine TL ?_
   refine RA rfl ?_
   refine RN ?_
   refine GS ?_
   refine TN 7 ?_
   refine RS (ok_loadVK (s := 1000007) (by decide) Try.underlying27 rfl size27 rfl rfl) ?_
   refine RM rfl ?_
   refine RM rfl ?_
   refine RS (ok_call (dWrite_bad (xS z L).length s hno (List.replicate (mn % 300) 0)) (Args.cons rfl (disk_sz) (Args.cons rfl LA (Args.cons rfl (fresh_zeros (by simp only [maxLen]; omega)) Args.nil)))) ?_
   refine RM rfl ?_
   refine RS (ok_extractV rfl rfl) ?_
   refine RS (ok_extractV rfl rfl) ?_
   refine RN ?_
   refine ⟨_, _, eff_allocV (n := 222) (d := 17) (k := 1000017) zero27 (by decide), fun b17 hb17 => ?_⟩
   have hBb17 := hb17.1
   have hlt_b7_b17 : b7 < b17 := hb17.2.2 1000007 _ _ _ _ rfl
   have hlt_b15_b17 : b15 < b17 := hb17.2.1 1000015 _ _ _ rfl
   refine TF 8 ?_
   refine RN ?_
   refine ⟨_, eff_storeA (n := 222) (s := 1000017) (size27.of (rfl)) rfl rfl (rfl) hBb17 rfl (rfl) (LV 7 rfl (LV 8 rfl (LV 9 rfl (LV 10 rfl (LeftS.cons (t := 11) rfl (Surv.fresh (by decide)) (LV 12 rfl (LV 14 rfl (LV 16 rfl (LV 17 rfl (LV 90 rfl (LeftS.cons (t := 1000007) rfl (Surv.varK (by omega) (Surv.disk (.inl (by decide)))) (LB 1000015 rfl LN)))))))))))), ?_⟩
   refine TL ?_
   refine RA rfl ?_
   refine RN ?_
   refine A.sub (KC 7 rfl (KC 8 rfl (KC 9 rfl (KC 10 rfl (KC 11 rfl (KC 12 rfl (KC 14 rfl (KC 16 rfl (KC 17 rfl (KC 18 rfl (KC 1000007 rfl (KC 1000015 rfl (KC 1000017 rfl KN))))))))))))) ?_
   refine GS ?_
   refine TL ?_
   refine RS (ok_loadVK (s := 1000007) (by decide) Try.underlying27 rfl size27 rfl rfl) ?_
   refine RM rfl ?_
   refine RS (ok_call (dVersions_bad (xS z L).length s hno) (Args.cons rfl (disk_sz) (Args.cons rfl LA Args.nil))) ?_
   refine RM rfl ?_
   refine RS (ok_extractV rfl rfl) ?_
   refine RS (ok_extractV rfl rfl) ?_
   refine RA rfl ?_
   refine RA rfl ?_
   refine RN ?_
   refine GS ?_
   refine TL ?_
   refine RS (ok_loadVK (s := 1000007) (by decide) Try.underlying27 rfl size27 rfl rfl) ?_
   refine RM rfl ?_
   refine RM rfl ?_
   refine RS (ok_call (dVersion_bad (xS z L).length s hno k) (Args.cons rfl (disk_sz) (Args.cons rfl LA (Args.cons rfl LA Args.nil)))) ?_
   refine RM rfl ?_
   refine RS (ok_extractV rfl rfl) ?_
   refine RS (ok_extractV rfl rfl) ?_
   refine RA rfl ?_
   refine RA rfl ?_
   refine RN ?_
   refine GS ?_
   refine TN 7 ?_
   refine RS (ok_loadVK (s := 1000007) (by decide) Try.underlying27 rfl size27 rfl rfl) ?_
   refine RM rfl ?_
   refine RM rfl ?_
   refine RS (ok_call (dReplay_bad (xS z L).length s hno k) (Args.cons rfl (disk_sz) (Args.cons rfl LA (Args.cons rfl LA Args.nil)))) ?_
   refine RM rfl ?_
   refine RS (ok_extractV rfl rfl) ?_
   refine RS (ok_extractV rfl rfl) ?_
   refine RN ?_
   refine ⟨_, _, eff_allocV (n := 222) (d := 23) (k := 1000023) zero27 (by decide), fun b23 hb23 => ?_⟩
   have hBb23 := hb23.1
   have hlt_b7_b23 : b7 < b23 := hb23.2.2 1000007 _ _ _ _ rfl
   have hlt_b15_b23 : b15 < b23 := hb23.2.1 1000015 _ _ _ rfl
   have hlt_b17_b23 : b17 < b23 := hb23.2.1 1000017 _ _ _ rfl
   refine TF 8 ?_
   refine RN ?_
   refine ⟨_, eff_storeA (n := 222) (s := 1000023) (size27.of (rfl)) rfl rfl (rfl) hBb23 rfl (rfl) (LV 8 rfl (LV 9 rfl (LV 10 rfl (LeftS.cons (t := 11) rfl (Surv.fresh (by decide)) (LV 12 rfl (LV 14 rfl (LV 16 rfl (LV 17 rfl (LV 18 rfl (LV 20 rfl (LV 22 rfl (LV 23 rfl (LV 110 rfl (LeftS.cons (t := 1000007) rfl (Surv.varK (by omega) (Surv.disk (.inl (by decide)))) (LB 1000015 rfl (LB 1000017 rfl LN)))))))))))))))), ?_⟩
   refine TL ?_
   refine RA rfl ?_
   refine RN ?_
   refine A.sub (KC 8 rfl (KC 9 rfl (KC 10 rfl (KC 11 rfl (KC 12 rfl (KC 14 rfl (KC 16 rfl (KC 17 rfl (KC 18 rfl (KC 20 rfl (KC 22 rfl (KC 23 rfl (KC 24 rfl (KC 1000007 rfl (KC 1000015 rfl (KC 1000017 rfl (KC 1000023 rfl KN))))))))))))))))) ?_
   refine A.seq ?_
   refine GS ?_
   refine TL ?_
   refine RM rfl ?_
   refine RS (ok_not rfl) ?_
   refine RN ?_
   refine A.yes rfl ?_
   refine GS ?_
   refine TL ?_
   refine RM rfl ?_
   refine RBS rfl rfl rfl (.bool true) (rfl) ?_
   refine RM rfl ?_
   refine RQ (ok_move rfl) ?_
   refine RQ (ok_bin rfl rfl rfl) ?_; refine RZ (.bool true) (rfl) ?_
   refine RP rfl rfl ?_
   refine RM rfl ?_
   refine RQ (ok_move rfl) ?_
   refine RQ (ok_bin rfl rfl rfl) ?_; refine RZ (.bool true) (rfl) ?_
   refine RP rfl rfl ?_
   refine RM rfl ?_
   refine RQ (ok_move rfl) ?_
   refine RQ (ok_bin rfl rfl rfl) ?_; refine RZ (.bool true) (rfl) ?_
   refine RP rfl rfl ?_
   refine RM rfl ?_
   refine RQ (ok_move rfl) ?_
   refine RQ (ok_bin rfl rfl rfl) ?_; refine RZ (.bool true) (rfl) ?_
   refine RP rfl rfl ?_
   refine RM rfl ?_
   refine RQ (ok_move rfl) ?_
   refine RQ (ok_bin rfl rfl rfl) ?_; refine RZ (.bool true) (rfl) ?_
   refine RP rfl rfl ?_
   refine RM rfl ?_
   refine RQ (ok_loadA (s := 1000017) (by decide) Try.underlying27 rfl (size27.of (rfl)) rfl rfl) ?_
   refine RQ (ok_call (dSize_fn (0)) (Args.cons rfl (zero_sz) Args.nil)) ?_
   refine RQ (ok_bin rfl rfl rfl) ?_; refine RZ (.bool true) (rfl) ?_
   refine RP rfl rfl ?_
   refine RM rfl ?_
   refine RQ (ok_loadA (s := 1000023) (by decide) Try.underlying27 rfl (size27.of (rfl)) rfl rfl) ?_
   refine RQ (ok_call (dSize_fn (0)) (Args.cons rfl (zero_sz) Args.nil)) ?_
   refine RQ (ok_bin rfl rfl rfl) ?_; refine RZ (.bool true) (rfl) ?_
   refine RP rfl rfl ?_
   refine RM rfl ?_
   refine RQ (ok_call (lives14_fn) Args.nil) ?_
   refine RP rfl rfl ?_
   refine RA rfl ?_
   refine RN ?_
   refine A.sub (KC 6 rfl (KC 1000007 rfl (KC 1000015 rfl (KC 1000017 rfl (KC 1000023 rfl KN))))) ?_
   refine A.ret ?_
   refine End.ret_then ?_
   exact End.ret1 rfl rfl (by first | exact Le.refl _ | exact Le.old _ _)
set_option maxHeartbeats 2000000 in
theorem DErr_yes (z : UInt8) (L : List OpT) (i : Nat) (hi : i < (xS z L).length) (k : Int) (mn : Nat) (hmn : mn < 65536) : Fn Try.prog 5 [xD z L, .v (aggV [.int .i64 ((i : Int)), .int .i64 k]), .v (.int .u16 (mn : Int))] (.v (.bool true)) := by
 have hn : (xS z L).length ≤ 10922 := by rw [xS_len]; have := nOf_le z; omega
 have ht : totC (xS z L) ≤ 1000000 := Nat.le_trans (xS_tot z L) (by decide)
 have hS : 0 < (xS z L).length := by rw [xS_len]; exact nOf_pos z
 have hw : mn % 300 < 300 := Nat.mod_lt _ (by decide)
 have hxl := xS_len z L
 have hle := his_le (xS z L) i
 refine Fn.of Try.func5 rfl (by kernel_rfl) Try.ntmps5 (by simp) (fun w => [(0, old w.heap.size (xD z L)), (1, .v (aggV [.int .i64 ((i : Int)), .int .i64 k])), (2, .v (.int .u16 (mn : Int)))]) (fun w => (Start.old rfl (Start.v rfl (Start.v rfl Start.nil)))) fun w₀ => ?_
 refine A.nameTl (t := 0) (k := 1000200) rfl fun v hv1 => ?_
 refine GS ?_
 refine TN 0 ?_
 refine RN ?_
 refine ⟨_, _, eff_box (n := 222) (d := 3) (k := 1000003) rfl (by decide), fun b3 hb3 => ?_⟩
 have hBb3 := hb3.1
 refine TN 1 ?_
 refine RN ?_
 refine ⟨_, _, eff_box (n := 222) (d := 4) (k := 1000004) rfl (by decide), fun b4 hb4 => ?_⟩
 have hBb4 := hb4.1
 refine TL ?_
 refine RA rfl ?_
 refine RN ?_
 refine GS ?_
 refine TN 2 ?_
 refine RS (OpOk.tlO (k := 1000200) [byteV z] (ok_loadA (s := 1000003) (by decide) Try.underlying24 rfl (size24.of (rfl)) rfl rfl) rfl hv1 (by decide) rfl) ?_
 refine RS (ok_call (xOf_fn z L) (Args.cons rfl (Le.old _ _) Args.nil)) ?_
 refine RN ?_
 refine ⟨_, _, eff_alloc (n := 222) (d := 7) (k := 1000007) zero27 (by decide), fun b7 hb7 => ?_⟩
 have hBb7 := hb7.1
 refine TF 3 ?_
 refine RN ?_
 refine ⟨_, eff_storeK (n := 222) (s := 1000007) size27 rfl rfl (Le.refl _) (Agg.disk) hBb7 rfl (rfl) (Surv.disk (.inl (by decide))) (LV 2 rfl (LV 3 rfl (LV 4 rfl (LV 7 rfl (LT 1000003 rfl (LT 1000004 rfl (LO 1000200 rfl LN))))))), ?_⟩
 refine TL ?_
 refine RN ?_
 refine GS ?_
 refine TN 2 ?_
 refine RS (OpOk.tlO (k := 1000200) [byteV z] (ok_loadA (s := 1000003) (by decide) Try.underlying24 rfl (size24.of (rfl)) rfl rfl) rfl hv1 (by decide) rfl) ?_
 refine RS (ok_call (xRef_fn z L) (Args.cons rfl (Le.old _ _) Args.nil)) ?_
 refine RN ?_
 refine ⟨_, _, eff_allocV (n := 222) (d := 8) (k := 1000008) zero34 (by decide), fun b8 hb8 => ?_⟩
 have hBb8 := hb8.1
 refine TF 3 ?_
 refine RN ?_
 refine ⟨_, eff_storeK (n := 222) (s := 1000008) size34 rfl rfl (Le.refl _) (Agg.ref) hBb8 rfl (rfl) (Surv.ref (by decide) (by decide)) (LV 2 rfl (LV 3 rfl (LV 4 rfl (LV 7 rfl (LV 8 rfl (LT 1000003 rfl (LT 1000004 rfl (LeftS.cons (t := 1000007) rfl (Surv.varKT (by decide) (Surv.disk (.inl (by decide)))) (LO 1000200 rfl LN))))))))), ?_⟩
 refine TL ?_
 refine RN ?_
 refine GD ?_
 refine TL ?_
 refine RS (ok_index0 (0) Try.underlying54 info3 rfl rfl (rfl) (by decide)) ?_
 refine RS (ok_loadV (s := 1000004) (by decide) Try.underlying3 rfl rfl rfl (rfl)) ?_
 refine RS (ok_index0 (1) Try.underlying54 info3 rfl rfl (rfl) (by decide)) ?_
 refine RS (ok_loadV (s := 1000004) (by decide) Try.underlying3 rfl rfl rfl (rfl)) ?_
 refine RA rfl ?_
 refine RA rfl ?_
 refine RN ?_
 refine GS ?_
 refine TL ?_
 refine RM rfl ?_
 refine RS (ok_rem rfl rfl (by decide)) ?_; refine RZ (.int .u16 (((mn % 300) : Nat) : Int)) (remU16 _ 300) ?_
 refine RS (ok_make (mn % 300) Try.underlying37 info5 (by decide) rfl rfl rfl rfl rfl (by omega)) ?_
 refine RA rfl ?_
 refine RN ?_
 refine GS ?_
 refine TL ?_
 refine RM rfl ?_
 refine RBS rfl rfl rfl (.bool true) (congrArg Value.bool (decide_eq_true (by omega))) ?_
 refine RM rfl ?_
 refine RQ (ok_move rfl) ?_
 refine RQ (OpOk.tlO (k := 1000200) [byteV z] (ok_loadA (s := 1000003) (by decide) Try.underlying24 rfl (size24.of (rfl)) rfl rfl) rfl hv1 (by decide) rfl) ?_
 refine RQ (ok_call (xSize_fn z L) (Args.cons rfl (Le.old _ _) Args.nil)) ?_
 refine RQ (ok_bin rfl rfl rfl) ?_; refine RZ (.bool true) (congrArg Value.bool (decide_eq_true (by omega))) ?_
 refine RP rfl rfl ?_
 refine RA rfl ?_
 refine RN ?_
 refine A.sub (KC 7 rfl (KC 8 rfl (KC 9 rfl (KC 10 rfl (KC 11 rfl (KC 12 rfl (KC 1000003 rfl (KC 1000004 rfl (KC 1000007 rfl (KC 1000008 rfl (KC 1000200 rfl KN))))))))))) ?_
 refine GS ?_
 refine TN 5 ?_
 refine RM rfl ?_
 refine RS (ok_call (dNew_any (i : Int)) (Args.cons rfl LA Args.nil)) ?_
 refine RM rfl ?_
 refine RS (ok_extract rfl rfl) ?_
 refine RS (ok_extract rfl rfl) ?_
 refine RN ?_
 refine ⟨_, _, eff_allocV (n := 222) (d := 13) (k := 1000013) zero27 (by decide), fun b13 hb13 => ?_⟩
 have hBb13 := hb13.1
 have hlt_b7_b13 : b7 < b13 := hb13.2.2 1000007 _ _ _ _ rfl
 refine TF 6 ?_
 refine RN ?_
 refine ⟨_, eff_storeK (n := 222) (s := 1000013) size27 rfl rfl (Le.refl _) (Agg.dsz) hBb13 rfl (rfl) (Surv.dsz) (LV 7 rfl (LV 8 rfl (LV 9 rfl (LV 10 rfl (LeftS.cons (t := 11) rfl (Surv.fresh (by decide)) (LV 12 rfl (LV 13 rfl (LV 49 rfl (LT 1000003 rfl (LT 1000004 rfl (LeftS.cons (t := 1000007) rfl (Surv.varK (by omega) (Surv.disk (.inl (by decide)))) (LeftS.cons (t := 1000008) rfl (Surv.varKT (by decide) (Surv.ref (by decide) (by decide))) (LO 1000200 rfl LN))))))))))))), ?_⟩
 refine TL ?_
 refine RA rfl ?_
 refine RN ?_
 refine A.seq ?_
 refine A.seqTo [(7, .v (ptr b7)), (8, .v (ptr b8)), (9, .v (.int .i64 ((i : Int)))), (10, .v (.int .i64 (k))), (11, fresh w₀.heap.size 5 (List.replicate (mn % 300) (.int .u8 0)) (mn % 300)), (12, .v (.bool true)), (71, .v (.bool false)), (1000007, varK b7 27 3 (diskD dT X0 (xS z L))), (1000008, varK b8 34 1 (refD 61 51 (xS z L)))] ?_ ?_
 ·rcases new_case (i : Int) with ⟨hs1, he, hz⟩ | ⟨hs1, hs2, he, hz⟩ | ⟨hs1, hs2, he⟩
  ·refine GE ?_
   refine TL ?_
   refine RM rfl ?_
   refine RBS rfl rfl rfl (.bool false) (congrArg Value.bool (decide_eq_false (by rw [he]; decide))) ?_
   refine RM rfl ?_
   refine RBS rfl rfl rfl (.bool false) (congrArg Value.bool (decide_eq_false (by omega))) ?_
   refine RM rfl ?_
   refine RK ?_
   refine RK ?_
   refine RP rfl rfl ?_
   refine RS (ok_neBool Try.underlying4 rfl rfl) ?_; refine RZ (.bool false) (rfl) ?_
   refine RM rfl ?_
   refine RQ (ok_move rfl) ?_
   refine RQ (ok_bin rfl rfl rfl) ?_; refine RZ (.bool true) (congrArg Value.bool (by rw [he]; rfl)) ?_
   refine RQ (ok_move rfl) ?_
   refine RQ (ok_move rfl) ?_
   refine RQ (ok_bin rfl rfl rfl) ?_; refine RZ (.bool false) (congrArg Value.bool (by rw [he]; rfl)) ?_
   refine RQ (ok_move rfl) ?_
   refine RQ (ok_loadVK (s := 1000013) (by decide) Try.underlying27 rfl size27 rfl rfl) ?_
   refine RQ (ok_call (dSize_fn (newN (i : Int))) (Args.cons rfl LA Args.nil)) ?_
   refine RQ (ok_bin rfl rfl rfl) ?_; refine RZ (.bool false) (congrArg Value.bool (by rw [hz]; rfl)) ?_
   refine RQ (ok_pick rfl rfl) ?_
   refine RQ (ok_pick rfl rfl) ?_
   refine RP rfl rfl ?_
   refine RN ?_
   refine End.sub (KC 7 rfl (KC 8 rfl (KC 9 rfl (KC 10 rfl (KC 11 rfl (KC 12 rfl (KC 71 rfl (KC 1000003 rfl (KC 1000004 rfl (KC 1000007 rfl (KC 1000008 rfl (KC 1000013 rfl (KC 1000200 rfl KN))))))))))))) ?_
   exact End.normal_then (End.toEnv (SubL.cons (t := 7) rfl (by first | exact Le.refl _ | exact Le.old _ _) (SubL.cons (t := 8) rfl (by first | exact Le.refl _ | exact Le.old _ _) (SubL.cons (t := 9) rfl (by first | exact Le.refl _ | exact Le.old _ _) (SubL.cons (t := 10) rfl (by first | exact Le.refl _ | exact Le.old _ _) (SubL.cons (t := 11) rfl (by first | exact Le.refl _ | exact Le.old _ _) (SubL.cons (t := 12) rfl (by first | exact Le.refl _ | exact Le.old _ _) (SubL.cons (t := 71) rfl (by first | exact Le.refl _ | exact Le.old _ _) (SubL.cons (t := 1000007) rfl (by first | exact Le.refl _ | exact Le.old _ _) (SubL.cons (t := 1000008) rfl (by first | exact Le.refl _ | exact Le.old _ _) SubL.nil))))))))))
  ·refine GE ?_
   refine TL ?_
   refine RM rfl ?_
   refine RBS rfl rfl rfl (.bool false) (congrArg Value.bool (decide_eq_false (by rw [he]; decide))) ?_
   refine RM rfl ?_
   refine RBS rfl rfl rfl (.bool true) (congrArg Value.bool (decide_eq_true (by omega))) ?_
   refine RM rfl ?_
   refine RQ (ok_move rfl) ?_
   refine RQ (ok_bin rfl rfl rfl) ?_; refine RZ (.bool false) (congrArg Value.bool (decide_eq_false (by omega))) ?_
   refine RP rfl rfl ?_
   refine RS (ok_neBool Try.underlying4 rfl rfl) ?_; refine RZ (.bool false) (rfl) ?_
   refine RM rfl ?_
   refine RQ (ok_move rfl) ?_
   refine RQ (ok_bin rfl rfl rfl) ?_; refine RZ (.bool true) (congrArg Value.bool (by rw [he]; rfl)) ?_
   refine RQ (ok_move rfl) ?_
   refine RQ (ok_move rfl) ?_
   refine RQ (ok_bin rfl rfl rfl) ?_; refine RZ (.bool false) (congrArg Value.bool (by rw [he]; rfl)) ?_
   refine RQ (ok_move rfl) ?_
   refine RQ (ok_loadVK (s := 1000013) (by decide) Try.underlying27 rfl size27 rfl rfl) ?_
   refine RQ (ok_call (dSize_fn (newN (i : Int))) (Args.cons rfl LA Args.nil)) ?_
   refine RQ (ok_bin rfl rfl rfl) ?_; refine RZ (.bool false) (congrArg Value.bool (by rw [hz]; rfl)) ?_
   refine RQ (ok_pick rfl rfl) ?_
   refine RQ (ok_pick rfl rfl) ?_
   refine RP rfl rfl ?_
   refine RN ?_
   refine End.sub (KC 7 rfl (KC 8 rfl (KC 9 rfl (KC 10 rfl (KC 11 rfl (KC 12 rfl (KC 71 rfl (KC 1000003 rfl (KC 1000004 rfl (KC 1000007 rfl (KC 1000008 rfl (KC 1000013 rfl (KC 1000200 rfl KN))))))))))))) ?_
   exact End.normal_then (End.toEnv (SubL.cons (t := 7) rfl (by first | exact Le.refl _ | exact Le.old _ _) (SubL.cons (t := 8) rfl (by first | exact Le.refl _ | exact Le.old _ _) (SubL.cons (t := 9) rfl (by first | exact Le.refl _ | exact Le.old _ _) (SubL.cons (t := 10) rfl (by first | exact Le.refl _ | exact Le.old _ _) (SubL.cons (t := 11) rfl (by first | exact Le.refl _ | exact Le.old _ _) (SubL.cons (t := 12) rfl (by first | exact Le.refl _ | exact Le.old _ _) (SubL.cons (t := 71) rfl (by first | exact Le.refl _ | exact Le.old _ _) (SubL.cons (t := 1000007) rfl (by first | exact Le.refl _ | exact Le.old _ _) (SubL.cons (t := 1000008) rfl (by first | exact Le.refl _ | exact Le.old _ _) SubL.nil))))))))))
  ·refine GE ?_
   refine TL ?_
   refine RM rfl ?_
   refine RBS rfl rfl rfl (.bool true) (congrArg Value.bool (decide_eq_true (he))) ?_
   refine RM rfl ?_
   refine RBS rfl rfl rfl (.bool true) (congrArg Value.bool (decide_eq_true (by omega))) ?_
   refine RM rfl ?_
   refine RQ (ok_move rfl) ?_
   refine RQ (ok_bin rfl rfl rfl) ?_; refine RZ (.bool true) (congrArg Value.bool (decide_eq_true (by omega))) ?_
   refine RP rfl rfl ?_
   refine RS (ok_neBool Try.underlying4 rfl rfl) ?_; refine RZ (.bool false) (rfl) ?_
   refine RM rfl ?_
   refine RQ (ok_move rfl) ?_
   refine RQ (ok_bin rfl rfl rfl) ?_; refine RZ (.bool false) (congrArg Value.bool (by rw [he]; rfl)) ?_
   refine RQ (ok_move rfl) ?_
   refine RK ?_
   refine RK ?_
   refine RK ?_
   refine RunK.skippedU rfl rfl rfl rfl ?_
   refine RunK.skippedU rfl rfl rfl rfl ?_
   refine RunK.skippedU rfl rfl rfl rfl ?_
   refine RK ?_
   refine RQ (ok_pick rfl rfl) ?_
   refine RP rfl rfl ?_
   refine RN ?_
   refine End.sub (KC 7 rfl (KC 8 rfl (KC 9 rfl (KC 10 rfl (KC 11 rfl (KC 12 rfl (KC 71 rfl (KC 1000003 rfl (KC 1000004 rfl (KC 1000007 rfl (KC 1000008 rfl (KC 1000013 rfl (KC 1000200 rfl KN))))))))))))) ?_
   exact End.normal_then (End.toEnv (SubL.cons (t := 7) rfl (by first | exact Le.refl _ | exact Le.old _ _) (SubL.cons (t := 8) rfl (by first | exact Le.refl _ | exact Le.old _ _) (SubL.cons (t := 9) rfl (by first | exact Le.refl _ | exact Le.old _ _) (SubL.cons (t := 10) rfl (by first | exact Le.refl _ | exact Le.old _ _) (SubL.cons (t := 11) rfl (by first | exact Le.refl _ | exact Le.old _ _) (SubL.cons (t := 12) rfl (by first | exact Le.refl _ | exact Le.old _ _) (SubL.cons (t := 71) rfl (by first | exact Le.refl _ | exact Le.old _ _) (SubL.cons (t := 1000007) rfl (by first | exact Le.refl _ | exact Le.old _ _) (SubL.cons (t := 1000008) rfl (by first | exact Le.refl _ | exact Le.old _ _) SubL.nil))))))))))
 ·refine A.no rfl ?_
  refine A.skip ?_
  refine EN ?_
  refine GS ?_
  refine TL ?_
  refine RS (ok_loadVK (s := 1000007) (by decide) Try.underlying27 rfl size27 rfl rfl) ?_
  refine RM rfl ?_
  refine RS (ok_callB (dRead_fn X0 (xS z L) i hi hn) con_tup_mono (Args.cons rfl LA (Args.cons rfl LA Args.nil))) ?_
  refine RM rfl ?_
  refine RS (ok_extract rfl rfl) ?_
  refine RS (ok_extract rfl rfl) ?_
  refine RA rfl ?_
  refine RN ?_
  refine GS ?_
  refine TN 6 ?_
  refine RS (ok_loadVK (s := 1000007) (by decide) Try.underlying27 rfl size27 rfl rfl) ?_
  refine RM rfl ?_
  refine RS (ok_call (dErase_fn X0 (xS z L) i hi hn ht) (Args.cons rfl LA (Args.cons rfl LA Args.nil))) ?_
  refine RM rfl ?_
  refine RS (ok_extract rfl rfl) ?_
  refine RS (ok_extract rfl rfl) ?_
  refine RN ?_
  refine ⟨_, _, eff_allocV (n := 222) (d := 15) (k := 1000015) zero27 (by decide), fun b15 hb15 => ?_⟩
  have hBb15 := hb15.1
  have hlt_b7_b15 : b7 < b15 := hb15.2.2 1000007 _ _ _ _ rfl
  refine TF 7 ?_
  refine RN ?_
  refine ⟨_, eff_storeK (n := 222) (s := 1000015) size27 rfl rfl (Le.refl _) (Agg.disk) hBb15 rfl (rfl) (Surv.disk (.inl (by decide))) (LV 7 rfl (LV 8 rfl (LV 9 rfl (LV 10 rfl (LeftS.cons (t := 11) rfl (Surv.fresh (by decide)) (LV 12 rfl (LV 14 rfl (LV 83 rfl (LeftS.cons (t := 1000007) rfl (Surv.varK (by omega) (Surv.disk (.inl (by decide)))) (LeftS.cons (t := 1000008) rfl (Surv.varKT (by decide) (Surv.ref (by decide) (by decide))) LN)))))))))), ?_⟩
  refine TL ?_
  refine RA rfl ?_
  refine RN ?_
  refine GS ?_
  refine TN 7 ?_
  refine RS (ok_loadVK (s := 1000007) (by decide) Try.underlying27 rfl size27 rfl rfl) ?_
  refine RM rfl ?_
  refine RM rfl ?_
  refine RS (ok_call (dWrite_any (xS z L) i hi hn (List.replicate (mn % 300) 0) (mn % 300) (List.length_replicate ..) ht) (Args.cons rfl LA (Args.cons rfl LA (Args.cons rfl (fresh_zeros (by simp only [maxLen]; omega)) Args.nil)))) ?_
  refine RM rfl ?_
  refine RS (ok_extract rfl rfl) ?_
  refine RS (ok_extract rfl rfl) ?_
  refine RN ?_
  refine ⟨_, _, eff_allocV (n := 222) (d := 17) (k := 1000017) zero27 (by decide), fun b17 hb17 => ?_⟩
  have hBb17 := hb17.1
  have hlt_b7_b17 : b7 < b17 := hb17.2.2 1000007 _ _ _ _ rfl
  have hlt_b15_b17 : b15 < b17 := hb17.2.2 1000015 _ _ _ _ rfl
  refine TF 8 ?_
  refine RN ?_
  refine ⟨_, eff_storeK (n := 222) (s := 1000017) size27 rfl rfl (Le.refl _) (Agg.dsz) hBb17 rfl (rfl) (Surv.dsz) (LV 7 rfl (LV 8 rfl (LV 9 rfl (LV 10 rfl (LeftS.cons (t := 11) rfl (Surv.fresh (by decide)) (LV 12 rfl (LV 14 rfl (LV 16 rfl (LV 17 rfl (LV 90 rfl (LeftS.cons (t := 1000007) rfl (Surv.varK (by omega) (Surv.disk (.inl (by decide)))) (LeftS.cons (t := 1000008) rfl (Surv.varKT (by decide) (Surv.ref (by decide) (by decide))) (LeftS.cons (t := 1000015) rfl (Surv.varK (by omega) (Surv.disk (.inl (by decide)))) LN))))))))))))), ?_⟩
  refine TL ?_
  refine RA rfl ?_
  refine RN ?_
  refine A.sub (KC 7 rfl (KC 8 rfl (KC 9 rfl (KC 10 rfl (KC 11 rfl (KC 12 rfl (KC 14 rfl (KC 16 rfl (KC 17 rfl (KC 18 rfl (KC 1000007 rfl (KC 1000008 rfl (KC 1000015 rfl (KC 1000017 rfl KN)))))))))))))) ?_
  refine GS ?_
  refine TL ?_
  refine RS (ok_loadVK (s := 1000007) (by decide) Try.underlying27 rfl size27 rfl rfl) ?_
  refine RM rfl ?_
  refine RS (ok_call (dVersions_fn X0 (xS z L) i hi hn) (Args.cons rfl LA (Args.cons rfl LA Args.nil))) ?_
  refine RM rfl ?_
  refine RS (ok_extractV rfl rfl) ?_
  refine RS (ok_extractV rfl rfl) ?_
  refine RA rfl ?_
  refine RA rfl ?_
  refine RN ?_
  refine GS ?_
  refine TL ?_
  refine RS (ok_loadVK (s := 1000007) (by decide) Try.underlying27 rfl size27 rfl rfl) ?_
  refine RM rfl ?_
  refine RM rfl ?_
  refine RS (ok_call (dVersion_any (xS z L) i hi hn k ht) (Args.cons rfl LA (Args.cons rfl LA (Args.cons rfl LA Args.nil)))) ?_
  refine RM rfl ?_
  refine RS (ok_extract rfl rfl) ?_
  refine RS (ok_extract rfl rfl) ?_
  refine RA rfl ?_
  refine RA rfl ?_
  refine RN ?_
  refine GS ?_
  refine TN 7 ?_
  refine RS (ok_loadVK (s := 1000007) (by decide) Try.underlying27 rfl size27 rfl rfl) ?_
  refine RM rfl ?_
  refine RM rfl ?_
  refine RS (ok_call (dReplay_any (xS z L) i hi hn k ht) (Args.cons rfl LA (Args.cons rfl LA (Args.cons rfl LA Args.nil)))) ?_
  refine RM rfl ?_
  refine RS (ok_extract rfl rfl) ?_
  refine RS (ok_extract rfl rfl) ?_
  refine RN ?_
  refine ⟨_, _, eff_allocV (n := 222) (d := 23) (k := 1000023) zero27 (by decide), fun b23 hb23 => ?_⟩
  have hBb23 := hb23.1
  have hlt_b7_b23 : b7 < b23 := hb23.2.2 1000007 _ _ _ _ rfl
  have hlt_b15_b23 : b15 < b23 := hb23.2.2 1000015 _ _ _ _ rfl
  have hlt_b17_b23 : b17 < b23 := hb23.2.2 1000017 _ _ _ _ rfl
  refine TF 8 ?_
  refine RN ?_
  refine ⟨_, eff_storeK (n := 222) (s := 1000023) size27 rfl rfl (Le.refl _) (Agg.dsz) hBb23 rfl (rfl) (Surv.dsz) (LV 8 rfl (LV 9 rfl (LV 10 rfl (LeftS.cons (t := 11) rfl (Surv.fresh (by decide)) (LV 12 rfl (LV 14 rfl (LV 16 rfl (LV 17 rfl (LV 18 rfl (LV 20 rfl (LV 22 rfl (LV 23 rfl (LV 110 rfl (LeftS.cons (t := 1000007) rfl (Surv.varK (by omega) (Surv.disk (.inl (by decide)))) (LeftS.cons (t := 1000008) rfl (Surv.varKT (by decide) (Surv.ref (by decide) (by decide))) (LeftS.cons (t := 1000015) rfl (Surv.varK (by omega) (Surv.disk (.inl (by decide)))) (LeftS.cons (t := 1000017) rfl (Surv.varK (by omega) (Surv.dsz)) LN))))))))))))))))), ?_⟩
  refine TL ?_
  refine RA rfl ?_
  refine RN ?_
  refine A.sub (KC 8 rfl (KC 9 rfl (KC 10 rfl (KC 11 rfl (KC 12 rfl (KC 14 rfl (KC 16 rfl (KC 17 rfl (KC 18 rfl (KC 20 rfl (KC 22 rfl (KC 23 rfl (KC 24 rfl (KC 1000007 rfl (KC 1000008 rfl (KC 1000015 rfl (KC 1000017 rfl (KC 1000023 rfl KN)))))))))))))))))) ?_
  refine A.seq ?_
  refine GS ?_
  refine TL ?_
  refine RM rfl ?_
  refine RS (ok_not rfl) ?_
  refine RN ?_
  refine A.no rfl ?_
  refine A.skip ?_
  refine EN ?_
  refine A.seq ?_
  by_cases hw2 : 256 < (mn % 300)
  ·refine GS ?_
   refine TL ?_
   refine RM rfl ?_
   refine RBS rfl rfl rfl (.bool false) (rfl) ?_
   refine RM rfl ?_
   refine RQ (ok_move rfl) ?_
   refine RQ (ok_bin rfl rfl rfl) ?_; refine RZ (.bool false) (rfl) ?_
   refine RP rfl rfl ?_
   refine RM rfl ?_
   refine RQ (ok_move rfl) ?_
   refine RQ (ok_bin rfl rfl rfl) ?_; refine RZ (.bool true) (congrArg Value.bool (decide_eq_true (if_pos hw2))) ?_
   refine RQ (ok_move rfl) ?_
   refine RQ (ok_lenB Try.underlying37 rfl (fresh_zeros (by simp only [maxLen]; omega))) ?_; refine RZ (nI ((mn % 300))) (by rw [List.length_replicate]) ?_
   refine RQ (ok_bin rfl rfl rfl) ?_; refine RZ (.bool true) (congrArg Value.bool (decide_eq_true (by omega))) ?_
   refine RQ (ok_neBool Try.underlying4 rfl rfl) ?_; refine RZ (.bool false) (rfl) ?_
   refine RP rfl rfl ?_
   refine RM rfl ?_
   refine RQ (ok_move rfl) ?_
   refine RQ (ok_bin rfl rfl rfl) ?_; refine RZ (.bool true) (congrArg Value.bool (by rw [show wrE (mn % 300) = 3 from if_pos hw2]; rfl)) ?_
   refine RQ (ok_move rfl) ?_
   refine RQ (ok_move rfl) ?_
   refine RQ (ok_bin rfl rfl rfl) ?_; refine RZ (.bool false) (congrArg Value.bool (by rw [show wrE (mn % 300) = 3 from if_pos hw2]; rfl)) ?_
   refine RQ (ok_move rfl) ?_
   refine RQ (ok_loadVK (s := 1000017) (by decide) Try.underlying27 rfl size27 rfl rfl) ?_
   refine RQ (ok_call (dSize_fn (wrN (xS z L).length (mn % 300))) (Args.cons rfl LA Args.nil)) ?_
   refine RQ (ok_bin rfl rfl rfl) ?_; refine RZ (.bool false) (congrArg Value.bool (by rw [show wrN (xS z L).length (mn % 300) = 0 from if_pos hw2]; rfl)) ?_
   refine RQ (ok_pick rfl rfl) ?_
   refine RQ (ok_pick rfl rfl) ?_
   refine RP rfl rfl ?_
   refine RN ?_
   refine A.sub (KC 8 rfl (KC 9 rfl (KC 10 rfl (KC 22 rfl (KC 23 rfl (KC 24 rfl (KC 174 rfl (KC 1000007 rfl (KC 1000008 rfl (KC 1000015 rfl (KC 1000017 rfl (KC 1000023 rfl KN)))))))))))) ?_
   refine A.no rfl ?_
   refine A.skip ?_
   refine EN ?_
   refine A.openRef (k := 1000008) (k' := 1000308) rfl fun u hu1 => ?_
   refine GS ?_
   refine TL ?_
   refine RS (ok_field field34_0 (by decide) rfl) ?_
   refine RS (OpOk.valP (k := 1000308) (ok_loadV (s := 1000008) (by decide) Try.underlying32 rfl rfl rfl (rfl)) (by decide) rfl) ?_
   refine RM rfl ?_
   refine RS (ok_index (j := ((i : Nat) : Int)) Try.underlying32 info61 rfl lstT_lst rfl (by omega) (row_getI hi)) ?_
   refine RS (ok_load Try.underlying61 rfl rfl) ?_
   refine RS (ok_lenRD Try.underlying61 rfl rowT_row) ?_
   refine RBS rfl rfl rfl (nI ((hisC (xS z L) i).length)) (wrap_eq (by omega) (by omega)) ?_
   refine RA rfl ?_
   refine RN ?_
   refine A.seq ?_
   rcases k_case k (hisC (xS z L) i) with ⟨hk, hv, hr, hz⟩ | ⟨hk, hk2, hv, hr⟩ | ⟨hk, hk2, hv, hr, hz⟩
   ·refine GS ?_
    refine TL ?_
    refine RM rfl ?_
    refine RBS rfl rfl rfl (.bool true) (congrArg Value.bool (decide_eq_true (hv))) ?_
    refine RM rfl ?_
    refine RBS rfl rfl rfl (.bool true) (congrArg Value.bool (decide_eq_true (by omega))) ?_
    refine RM rfl ?_
    refine RK ?_
    refine RK ?_
    refine RK ?_
    refine RP rfl rfl ?_
    refine RS (ok_neBool Try.underlying4 rfl rfl) ?_; refine RZ (.bool false) (rfl) ?_
    refine RN ?_
    refine A.no rfl ?_
    refine A.skip ?_
    refine EN ?_
    refine A.seq ?_
    refine GS ?_
    refine TL ?_
    refine RM rfl ?_
    refine RBS rfl rfl rfl (.bool true) (congrArg Value.bool (decide_eq_true (by omega))) ?_
    refine RN ?_
    refine A.yes rfl ?_
    refine GS ?_
    refine TL ?_
    refine RM rfl ?_
    refine RBS rfl rfl rfl (.bool true) (congrArg Value.bool (decide_eq_true (hr))) ?_
    refine RM rfl ?_
    refine RQ (ok_loadVK (s := 1000023) (by decide) Try.underlying27 rfl size27 rfl rfl) ?_
    refine RQ (ok_call (dSize_fn (repN (xS z L).length (hisC (xS z L) i) k)) (Args.cons rfl LA Args.nil)) ?_
    refine RQ (ok_bin rfl rfl rfl) ?_; refine RZ (.bool true) (congrArg Value.bool (decide_eq_true (by rw [hz]; rfl))) ?_
    refine RP rfl rfl ?_
    refine RM rfl ?_
    refine RQ (ok_call (lives14_fn) Args.nil) ?_
    refine RP rfl rfl ?_
    refine RA rfl ?_
    refine RN ?_
    refine A.sub (KC 6 rfl (KC 1000007 rfl (KC 1000008 rfl (KC 1000015 rfl (KC 1000017 rfl (KC 1000023 rfl (KC 1000308 rfl KN))))))) ?_
    refine A.ret ?_
    refine End.ret_then ?_
    exact End.ret1 rfl rfl (by first | exact Le.refl _ | exact Le.old _ _)
   ·refine GS ?_
    refine TL ?_
    refine RM rfl ?_
    refine RBS rfl rfl rfl (.bool false) (congrArg Value.bool (decide_eq_false (hv))) ?_
    refine RM rfl ?_
    refine RBS rfl rfl rfl (.bool false) (congrArg Value.bool (decide_eq_false (by omega))) ?_
    refine RM rfl ?_
    refine RQ (ok_move rfl) ?_
    refine RQ (ok_move rfl) ?_
    refine RQ (ok_bin rfl rfl rfl) ?_; refine RZ (.bool false) (congrArg Value.bool (decide_eq_false (by omega))) ?_
    refine RP rfl rfl ?_
    refine RS (ok_neBool Try.underlying4 rfl rfl) ?_; refine RZ (.bool false) (rfl) ?_
    refine RN ?_
    refine A.no rfl ?_
    refine A.skip ?_
    refine EN ?_
    refine A.seq ?_
    refine GS ?_
    refine TL ?_
    refine RM rfl ?_
    refine RBS rfl rfl rfl (.bool false) (congrArg Value.bool (decide_eq_false (by omega))) ?_
    refine RN ?_
    refine A.no rfl ?_
    refine A.skip ?_
    refine EN ?_
    refine A.seq ?_
    refine GS ?_
    refine TL ?_
    refine RM rfl ?_
    refine RM rfl ?_
    refine RBS rfl rfl rfl (.bool false) (congrArg Value.bool (decide_eq_false (by omega))) ?_
    refine RN ?_
    refine A.no rfl ?_
    refine A.skip ?_
    refine EN ?_
    refine GS ?_
    refine TL ?_
    refine RM rfl ?_
    refine RBS rfl rfl rfl (.bool true) (congrArg Value.bool (decide_eq_true (hr))) ?_
    refine RM rfl ?_
    refine RQ (ok_call (lives14_fn) Args.nil) ?_
    refine RP rfl rfl ?_
    refine RA rfl ?_
    refine RN ?_
    refine A.sub (KC 6 rfl (KC 1000007 rfl (KC 1000008 rfl (KC 1000015 rfl (KC 1000017 rfl (KC 1000023 rfl (KC 1000308 rfl KN))))))) ?_
    refine A.ret ?_
    exact End.ret1 rfl rfl (by first | exact Le.refl _ | exact Le.old _ _)
   ·refine GS ?_
    refine TL ?_
    refine RM rfl ?_
    refine RBS rfl rfl rfl (.bool true) (congrArg Value.bool (decide_eq_true (hv))) ?_
    refine RM rfl ?_
    refine RBS rfl rfl rfl (.bool false) (congrArg Value.bool (decide_eq_false (by omega))) ?_
    refine RM rfl ?_
    refine RQ (ok_move rfl) ?_
    refine RQ (ok_move rfl) ?_
    refine RQ (ok_bin rfl rfl rfl) ?_; refine RZ (.bool true) (congrArg Value.bool (decide_eq_true (by omega))) ?_
    refine RP rfl rfl ?_
    refine RS (ok_neBool Try.underlying4 rfl rfl) ?_; refine RZ (.bool false) (rfl) ?_
    refine RN ?_
    refine A.no rfl ?_
    refine A.skip ?_
    refine EN ?_
    refine A.seq ?_
    refine GS ?_
    refine TL ?_
    refine RM rfl ?_
    refine RBS rfl rfl rfl (.bool false) (congrArg Value.bool (decide_eq_false (by omega))) ?_
    refine RN ?_
    refine A.no rfl ?_
    refine A.skip ?_
    refine EN ?_
    refine A.seq ?_
    refine GS ?_
    refine TL ?_
    refine RM rfl ?_
    refine RM rfl ?_
    refine RBS rfl rfl rfl (.bool true) (congrArg Value.bool (decide_eq_true (by omega))) ?_
    refine RN ?_
    refine A.yes rfl ?_
    refine GS ?_
    refine TL ?_
    refine RM rfl ?_
    refine RBS rfl rfl rfl (.bool true) (congrArg Value.bool (decide_eq_true (hr))) ?_
    refine RM rfl ?_
    refine RQ (ok_loadVK (s := 1000023) (by decide) Try.underlying27 rfl size27 rfl rfl) ?_
    refine RQ (ok_call (dSize_fn (repN (xS z L).length (hisC (xS z L) i) k)) (Args.cons rfl LA Args.nil)) ?_
    refine RQ (ok_bin rfl rfl rfl) ?_; refine RZ (.bool true) (congrArg Value.bool (decide_eq_true (by rw [hz]; rfl))) ?_
    refine RP rfl rfl ?_
    refine RM rfl ?_
    refine RQ (ok_call (lives14_fn) Args.nil) ?_
    refine RP rfl rfl ?_
    refine RA rfl ?_
    refine RN ?_
    refine A.sub (KC 6 rfl (KC 1000007 rfl (KC 1000008 rfl (KC 1000015 rfl (KC 1000017 rfl (KC 1000023 rfl (KC 1000308 rfl KN))))))) ?_
    refine A.ret ?_
    refine End.ret_then ?_
    exact End.ret1 rfl rfl (by first | exact Le.refl _ | exact Le.old _ _)
  ·refine GS ?_
   refine TL ?_
   refine RM rfl ?_
   refine RBS rfl rfl rfl (.bool false) (rfl) ?_
   refine RM rfl ?_
   refine RQ (ok_move rfl) ?_
   refine RQ (ok_bin rfl rfl rfl) ?_; refine RZ (.bool false) (rfl) ?_
   refine RP rfl rfl ?_
   refine RM rfl ?_
   refine RQ (ok_move rfl) ?_
   refine RQ (ok_bin rfl rfl rfl) ?_; refine RZ (.bool false) (congrArg Value.bool (decide_eq_false (by rw [show wrE (mn % 300) = 0 from if_neg hw2]; decide))) ?_
   refine RQ (ok_move rfl) ?_
   refine RQ (ok_lenB Try.underlying37 rfl (fresh_zeros (by simp only [maxLen]; omega))) ?_; refine RZ (nI ((mn % 300))) (by rw [List.length_replicate]) ?_
   refine RQ (ok_bin rfl rfl rfl) ?_; refine RZ (.bool false) (congrArg Value.bool (decide_eq_false (by omega))) ?_
   refine RQ (ok_neBool Try.underlying4 rfl rfl) ?_; refine RZ (.bool false) (rfl) ?_
   refine RP rfl rfl ?_
   refine RM rfl ?_
   refine RQ (ok_move rfl) ?_
   refine RQ (ok_bin rfl rfl rfl) ?_; refine RZ (.bool false) (congrArg Value.bool (by rw [show wrE (mn % 300) = 0 from if_neg hw2]; rfl)) ?_
   refine RQ (ok_move rfl) ?_
   refine RK ?_
   refine RK ?_
   refine RK ?_
   refine RunK.skippedU rfl rfl rfl rfl ?_
   refine RunK.skippedU rfl rfl rfl rfl ?_
   refine RunK.skippedU rfl rfl rfl rfl ?_
   refine RK ?_
   refine RQ (ok_pick rfl rfl) ?_
   refine RP rfl rfl ?_
   refine RN ?_
   refine A.sub (KC 8 rfl (KC 9 rfl (KC 10 rfl (KC 22 rfl (KC 23 rfl (KC 24 rfl (KC 174 rfl (KC 1000007 rfl (KC 1000008 rfl (KC 1000015 rfl (KC 1000017 rfl (KC 1000023 rfl KN)))))))))))) ?_
   refine A.no rfl ?_
   refine A.skip ?_
   refine EN ?_
   refine A.openRef (k := 1000008) (k' := 1000308) rfl fun u hu1 => ?_
   refine GS ?_
   refine TL ?_
   refine RS (ok_field field34_0 (by decide) rfl) ?_
   refine RS (OpOk.valP (k := 1000308) (ok_loadV (s := 1000008) (by decide) Try.underlying32 rfl rfl rfl (rfl)) (by decide) rfl) ?_
   refine RM rfl ?_
   refine RS (ok_index (j := ((i : Nat) : Int)) Try.underlying32 info61 rfl lstT_lst rfl (by omega) (row_getI hi)) ?_
   refine RS (ok_load Try.underlying61 rfl rfl) ?_
   refine RS (ok_lenRD Try.underlying61 rfl rowT_row) ?_
   refine RBS rfl rfl rfl (nI ((hisC (xS z L) i).length)) (wrap_eq (by omega) (by omega)) ?_
   refine RA rfl ?_
   refine RN ?_
   refine A.seq ?_
   rcases k_case k (hisC (xS z L) i) with ⟨hk, hv, hr, hz⟩ | ⟨hk, hk2, hv, hr⟩ | ⟨hk, hk2, hv, hr, hz⟩
   ·refine GS ?_
    refine TL ?_
    refine RM rfl ?_
    refine RBS rfl rfl rfl (.bool true) (congrArg Value.bool (decide_eq_true (hv))) ?_
    refine RM rfl ?_
    refine RBS rfl rfl rfl (.bool true) (congrArg Value.bool (decide_eq_true (by omega))) ?_
    refine RM rfl ?_
    refine RK ?_
    refine RK ?_
    refine RK ?_
    refine RP rfl rfl ?_
    refine RS (ok_neBool Try.underlying4 rfl rfl) ?_; refine RZ (.bool false) (rfl) ?_
    refine RN ?_
    refine A.no rfl ?_
    refine A.skip ?_
    refine EN ?_
    refine A.seq ?_
    refine GS ?_
    refine TL ?_
    refine RM rfl ?_
    refine RBS rfl rfl rfl (.bool true) (congrArg Value.bool (decide_eq_true (by omega))) ?_
    refine RN ?_
    refine A.yes rfl ?_
    refine GS ?_
    refine TL ?_
    refine RM rfl ?_
    refine RBS rfl rfl rfl (.bool true) (congrArg Value.bool (decide_eq_true (hr))) ?_
    refine RM rfl ?_
    refine RQ (ok_loadVK (s := 1000023) (by decide) Try.underlying27 rfl size27 rfl rfl) ?_
    refine RQ (ok_call (dSize_fn (repN (xS z L).length (hisC (xS z L) i) k)) (Args.cons rfl LA Args.nil)) ?_
    refine RQ (ok_bin rfl rfl rfl) ?_; refine RZ (.bool true) (congrArg Value.bool (decide_eq_true (by rw [hz]; rfl))) ?_
    refine RP rfl rfl ?_
    refine RM rfl ?_
    refine RQ (ok_call (lives14_fn) Args.nil) ?_
    refine RP rfl rfl ?_
    refine RA rfl ?_
    refine RN ?_
    refine A.sub (KC 6 rfl (KC 1000007 rfl (KC 1000008 rfl (KC 1000015 rfl (KC 1000017 rfl (KC 1000023 rfl (KC 1000308 rfl KN))))))) ?_
    refine A.ret ?_
    refine End.ret_then ?_
    exact End.ret1 rfl rfl (by first | exact Le.refl _ | exact Le.old _ _)
   ·refine GS ?_
    refine TL ?_
    refine RM rfl ?_
    refine RBS rfl rfl rfl (.bool false) (congrArg Value.bool (decide_eq_false (hv))) ?_
    refine RM rfl ?_
    refine RBS rfl rfl rfl (.bool false) (congrArg Value.bool (decide_eq_false (by omega))) ?_
    refine RM rfl ?_
    refine RQ (ok_move rfl) ?_
    refine RQ (ok_move rfl) ?_
    refine RQ (ok_bin rfl rfl rfl) ?_; refine RZ (.bool false) (congrArg Value.bool (decide_eq_false (by omega))) ?_
    refine RP rfl rfl ?_
    refine RS (ok_neBool Try.underlying4 rfl rfl) ?_; refine RZ (.bool false) (rfl) ?_
    refine RN ?_
    refine A.no rfl ?_
    refine A.skip ?_
    refine EN ?_
    refine A.seq ?_
    refine GS ?_
    refine TL ?_
    refine RM rfl ?_
    refine RBS rfl rfl rfl (.bool false) (congrArg Value.bool (decide_eq_false (by omega))) ?_
    refine RN ?_
    refine A.no rfl ?_
    refine A.skip ?_
    refine EN ?_
    refine A.seq ?_
    refine GS ?_
    refine TL ?_
    refine RM rfl ?_
    refine RM rfl ?_
    refine RBS rfl rfl rfl (.bool false) (congrArg Value.bool (decide_eq_false (by omega))) ?_
    refine RN ?_
    refine A.no rfl ?_
    refine A.skip ?_
    refine EN ?_
    refine GS ?_
    refine TL ?_
    refine RM rfl ?_
    refine RBS rfl rfl rfl (.bool true) (congrArg Value.bool (decide_eq_true (hr))) ?_
    refine RM rfl ?_
    refine RQ (ok_call (lives14_fn) Args.nil) ?_
    refine RP rfl rfl ?_
    refine RA rfl ?_
    refine RN ?_
    refine A.sub (KC 6 rfl (KC 1000007 rfl (KC 1000008 rfl (KC 1000015 rfl (KC 1000017 rfl (KC 1000023 rfl (KC 1000308 rfl KN))))))) ?_
    refine A.ret ?_
    exact End.ret1 rfl rfl (by first | exact Le.refl _ | exact Le.old _ _)
   ·refine GS ?_
    refine TL ?_
    refine RM rfl ?_
    refine RBS rfl rfl rfl (.bool true) (congrArg Value.bool (decide_eq_true (hv))) ?_
    refine RM rfl ?_
    refine RBS rfl rfl rfl (.bool false) (congrArg Value.bool (decide_eq_false (by omega))) ?_
    refine RM rfl ?_
    refine RQ (ok_move rfl) ?_
    refine RQ (ok_move rfl) ?_
    refine RQ (ok_bin rfl rfl rfl) ?_; refine RZ (.bool true) (congrArg Value.bool (decide_eq_true (by omega))) ?_
    refine RP rfl rfl ?_
    refine RS (ok_neBool Try.underlying4 rfl rfl) ?_; refine RZ (.bool false) (rfl) ?_
    refine RN ?_
    refine A.no rfl ?_
    refine A.skip ?_
    refine EN ?_
    refine A.seq ?_
    refine GS ?_
    refine TL ?_
    refine RM rfl ?_
    refine RBS rfl rfl rfl (.bool false) (congrArg Value.bool (decide_eq_false (by omega))) ?_
    refine RN ?_
    refine A.no rfl ?_
    refine A.skip ?_
    refine EN ?_
    refine A.seq ?_
    refine GS ?_
    refine TL ?_
    refine RM rfl ?_
    refine RM rfl ?_
    refine RBS rfl rfl rfl (.bool true) (congrArg Value.bool (decide_eq_true (by omega))) ?_
    refine RN ?_
    refine A.yes rfl ?_
    refine GS ?_
    refine TL ?_
    refine RM rfl ?_
    refine RBS rfl rfl rfl (.bool true) (congrArg Value.bool (decide_eq_true (hr))) ?_
    refine RM rfl ?_
    refine RQ (ok_loadVK (s := 1000023) (by decide) Try.underlying27 rfl size27 rfl rfl) ?_
    refine RQ (ok_call (dSize_fn (repN (xS z L).length (hisC (xS z L) i) k)) (Args.cons rfl LA Args.nil)) ?_
    refine RQ (ok_bin rfl rfl rfl) ?_; refine RZ (.bool true) (congrArg Value.bool (decide_eq_true (by rw [hz]; rfl))) ?_
    refine RP rfl rfl ?_
    refine RM rfl ?_
    refine RQ (ok_call (lives14_fn) Args.nil) ?_
    refine RP rfl rfl ?_
    refine RA rfl ?_
    refine RN ?_
    refine A.sub (KC 6 rfl (KC 1000007 rfl (KC 1000008 rfl (KC 1000015 rfl (KC 1000017 rfl (KC 1000023 rfl (KC 1000308 rfl KN))))))) ?_
    refine A.ret ?_
    refine End.ret_then ?_
    exact End.ret1 rfl rfl (by first | exact Le.refl _ | exact Le.old _ _)
theorem DisksErrors_fn (z : UInt8) (L : List OpT) (s k : Int) (mn : Nat) (hmn : mn < 65536) : Fn Try.prog 5 [xD z L, .v (aggV [.int .i64 (s), .int .i64 k]), .v (.int .u16 (mn : Int))] (.v (.bool true)) := by
 by_cases h : 0 ≤ s ∧ s < ((xS z L).length : Int)
 ·obtain ⟨i, rfl⟩ := Int.eq_ofNat_of_zero_le h.1
  exact DErr_yes z L i (by omega) k mn hmn
 ·exact DErr_no z L s k mn hmn h
end Go.Proofs.Ytdhbhcbkhkopbaa
namespace Go.Proofs.Ytdhbhcbkhkopbaa
open Go Go.RowKit
set_option linter.unusedVariables false
set_option linter.unusedSimpArgs false
variable {κ : Cx}
theorem byt_rowD {l : List UInt8} : Le (byt l) (rowD l.length (l.map byteV)) := fun B w x ⟨c, h⟩ => by
  obtain ⟨A, h1, _, _, h2⟩ := bytes_open h
  exact ⟨A, c, h1, h2⟩
theorem conD_own {lo : Nat} {e : TypeId} {c : Con} : Le (conD lo e c) (own lo e (c.getD []).length ((c.getD []).map byteV)) := fun B w x h => by
  cases c with
  | none => rw [show x = _ from h]; exact own_nil _ _ _ rfl
  | some l =>
    obtain ⟨h0, b, rfl, h2, h3, h4⟩ := h
    refine ⟨⟨by simp, .inr ⟨b, l.length, _, rfl, h2, h4, Nat.le_refl _, by simp only [maxLen]; omega, by simp, by simp; exact List.take_of_length_le (by simp)⟩⟩, fun g hg => ?_⟩
    simp [Value.ownBlock] at hg; subst hg; exact h3
theorem conD_len {lo : Nat} {e : TypeId} {c : Con} {B : Nat} {w : World} {x : Value} (h : (conD lo e c).OfB B w x) : (c.getD []).length ≤ 256 := by
  cases c with
  | none => exact Nat.zero_le _
  | some l => exact h.1
/-- The block that a slice owns. -/
def ownX (v : Value) : Nat → Prop := fun b => v.ownBlock = some b
/-- An element of a slice by its value. -/
def elemV (v : Value) (j : Nat) : D := .p (fun _ _ x => ∃ g n c, v = .slice (some ⟨g, 0, none⟩) n c ∧ x = .pointer (some ⟨g, j, none⟩)) (fun _ _ _ _ _ h => h) (fun _ _ _ _ _ h => h)
section
variable {P : Program} {B : Nat} {E : Env} {dst : Option Tmp} {ty : TypeId} {pos : String} {after : Array Edge} {guard : Option (Nat × Bool)}
theorem ok_lenVM {t e e' : TypeId} {x : Operand} {v : Value} {k m B' : Nat} {xs : List Value} (ht : P.underlying t = some (.slice e)) (hx : E.at x = some (.v v)) (hkv : vbase ≤ k) (hk : E.look k = some (ownM B' v e' m xs)) :
    OpOk P B ⟨dst, .call { callee := .builtin .len, args := #[x], argTypes := #[t] }, ty, pos, after, guard⟩ E (.v (nI m)) := fun ρ w _ hv hρ => by
  have h1 : ρ x = v := hρ x (by simp [Op.operands, Call.operands]) _ hx
  obtain ⟨⟨_, h2⟩, _⟩ := hv k _ hkv hk
  rcases h2 with ⟨rfl, rfl⟩ | ⟨g, cap, cur, rfl, _⟩
  · exact out_val (w' := w) (by simp [execOp, resolve, invoke, builtin, Builtin.len_, run_underlying ht, h1, goInt]) ⟨Grow.refl w, rfl⟩
  · exact out_val (w' := w) (by simp [execOp, resolve, invoke, builtin, Builtin.len_, run_underlying ht, h1, goInt]) ⟨Grow.refl w, rfl⟩
theorem ok_indexVM {t e e' : TypeId} {z : Value} {nb : Nat} {x i : Operand} {v : Value} {k m B' : Nat} {xs : List Value} {ki : IntKind} (j : Nat) (ht : P.underlying t = some (.slice e)) (hs : InfoIs P e z nb) (hx : E.at x = some (.v v)) (hi : E.at i = some (.v (.int ki (j : Int)))) (hkv : vbase ≤ k) (hk : E.look k = some (ownM B' v e' m xs)) (hj : j < m) :
    OpOk P B ⟨dst, .indexAddr t x i, ty, pos, after, guard⟩ E (elemV v j) := fun ρ w _ hv hρ => by
  have h1 : ρ x = v := hρ x (by simp [Op.operands]) _ hx
  have hi' : ρ i = .int ki j := hρ i (by simp [Op.operands]) _ hi
  obtain ⟨⟨_, h2⟩, _⟩ := hv k _ hkv hk
  obtain ⟨info, hinfo, _, hsize, _⟩ := hs.get
  rcases h2 with ⟨rfl, rfl⟩ | ⟨g, cap, cur, rfl, _⟩
  · omega
  · refine out_val (x := .pointer (some ((⟨g, 0, none⟩ : Addr).add j))) (w' := w) ?_ ⟨Grow.refl w, g, _, _, rfl, by rw [add_lit0, Nat.zero_add]⟩
    simp [execOp, h1, hi', Instr.indexAt, asIntOf, run_underlying ht, sizeOf, typeInfo, hinfo, hsize, hj]
theorem ok_loadVM {t : TypeId} {td : TypeDesc} {x : Operand} {v u : Value} {k m j B' : Nat} {e' : TypeId} {xs : List Value} (ht : P.underlying t = some td) (hp : plainTD td = true) (hx : E.at x = some (elemV v j)) (hkv : vbase ≤ k) (hk : E.look k = some (ownM B' v e' m xs)) (hu : xs[j]? = some u) :
    OpOk P B ⟨dst, .load t x, ty, pos, after, guard⟩ E (.v u) := fun ρ w _ hv hρ => by
  obtain ⟨g, n, c, hvv, hx'⟩ := hρ x (by simp [Op.operands]) _ hx
  obtain ⟨⟨_, h2⟩, _⟩ := hv k _ hkv hk
  rcases h2 with ⟨h2, _⟩ | ⟨g', cap, cur, h2, _, hh, _, _, _, htk⟩
  · rw [h2] at hvv; cases hvv
  · rw [h2] at hvv; injection hvv with h3 _ _; injection h3 with h3; injection h3 with h3 _ _; subst h3
    rw [← htk, List.getElem?_take] at hu
    have hc : w.cell? ⟨g', j, none⟩ = some u := by
      split at hu
      · simp [World.cell?, hh]; simpa using hu
      · cases hu
    exact out_val (w' := w) (by simp [execOp, hx', run_load_plain ht hp hc]) ⟨Grow.refl w, rfl⟩
/-- append of a slice of bytes to nil, of whatever length a slice that came in may have. -/
theorem ok_appendNilB {t e : TypeId} {z : Value} {m : Nat} {x : Operand} {f : D} {ys : List Value} (ht : P.underlying t = some (.slice e)) (hinfo : InfoIs P e z 1) (hz1 : z.cells.size = 1) (hx : E.at x = some f) (hf : Le f (rowD m ys)) (h1 : ys.all (·.oneCell') = true) (hl : ys.length = m) (hk : m ≤ 140737488355328) :
    OpOk P B ⟨dst, .call { callee := .builtin .append, args := #[.const (.slice none 0 0), x], argTypes := #[t, t] }, ty, pos, after, guard⟩ E (own B e m ys) := fun ρ w hB hv hρ => by
  have h0 : ρ (.const (.slice none 0 0)) = .slice none 0 0 := hρ (.const (.slice none 0 0)) (by simp [Op.operands, Call.operands]) _ rfl
  obtain ⟨A, c, hxe, hrow⟩ := hf.of (hρ x (by simp [Op.operands, Call.operands]) _ hx)
  obtain ⟨i, hi, hz, hs, hby⟩ := hinfo.get
  cases A with
  | none =>
    have hy : ys = [] := by
      cases ys with
      | nil => rfl
      | cons y ys => obtain ⟨_, h0, _⟩ := hrow 0 y rfl; cases h0
    subst hy
    obtain rfl : m = 0 := hl.symm
    exact out_val (x := .slice none 0 0) (w' := w) (by simp [execOp, resolve, invoke, builtin, h0, hxe, Builtin.append_, run_underlying ht, sizeOf, typeInfo, hi, Builtin.lenOf, Builtin.firstCells]) ⟨Grow.refl w, own_nil _ _ _ rfl⟩
  | some ad =>
    obtain ⟨v', w', h2, h3, h4, _, _⟩ := run_append_own_at (P := P) w w.heap.size t ty e i z 1 i.bytes ht hi hz hs rfl hz1 (by decide) (.slice none 0 0) 0 [] ⟨by simp, .inl ⟨rfl, rfl⟩⟩ ad m c ys (by omega) (fun j u hu => by obtain ⟨ad', h5, _, h6⟩ := hrow j u hu; injection h5 with h5; subst h5; exact h6) (fun u hu => List.all_eq_true.1 h1 u hu) (by simp only [maxLen]; omega) (by rw [hby]; omega) (Nat.le_refl _)
    rw [Nat.zero_add, List.nil_append] at h3
    have h5 : w'.ownsRow B e 1 v' m ys := ⟨h3.1, h3.2.imp id (by rintro ⟨g, cap, cur, h6, h7, h8⟩; exact ⟨g, cap, cur, h6, by omega, h8⟩)⟩
    exact out_val (x := v') (w' := w') (by simp [execOp, resolve, invoke, builtin, h0, hxe, h2]) ⟨(Below.refl w.heap.size w).grown h4 (Nat.le_refl _) (fun g hg => by cases hg), h5, lt_of_row h5⟩
/-- An argument that is told exactly, by what is known of its last cell on memory. -/
theorem OpOk.tell {o : Oper} {t k : Nat} {pre : List Value} {v : Value} {f d : D} {cs : List Value} (htv : t < vbase) (ht : E.look t = some (.v (aggV cs))) (hcs : cs = pre ++ [v]) (hv1 : v.oneCell' = true) (hkv : vbase ≤ k) (hk : E.look k = some (valM v f)) (h : OpOk P B o ((t, tlD pre f) :: E) d) : OpOk P B o E d := fun ρ w hB hv hρ => by
  refine h ρ w hB (fun s e hs hl => ?_) fun x hx e he => ?_
  · have hne : t ≠ s := by omega
    rw [look_past _ _ hne] at hl
    exact hv s e hs hl
  · cases x with
    | tmp s =>
      by_cases hts : t = s
      · subst hts
        simp only [Env.at] at he
        rw [look_here] at he; injection he with he; subst he
        have h1 : ρ (.tmp t) = aggV cs := hρ (.tmp t) hx _ ht
        exact ⟨v, hv1, by rw [h1, hcs], hv k _ hkv hk⟩
      · simp only [Env.at] at he
        rw [look_past _ _ hts] at he
        exact hρ (.tmp s) hx e he
    | const c => exact hρ (.const c) hx e he
    | global g => exact hρ (.global g) hx e he
    | func f => exact hρ (.func f) hx e he
end
section
variable {P : Program} {n B : Nat} {ops : Array Oper} {E : Env} {ty : TypeId} {pos : String} {after : Array Edge}
/-- A store into a cell of such a slice. -/
theorem eff_storeVM {t : TypeId} {z : Value} {nb : Nat} {p x : Operand} {j k m B' : Nat} {v u : Value} {e : TypeId} {xs : List Value} {E' : Env} (hinfo : InfoIs P t z nb) (hp : E.at p = some (elemV v j)) (hx : E.at x = some (.v u)) (hu : u.oneCell' = true) (hkv : vbase ≤ k) (hk : E.look k = some (ownM B' v e m xs)) (hB : B ≤ B') (hj : j < m)
    (hl : ∀ g, B' ≤ g → v.ownBlock = some g → LeftS B e g E' E) : Eff P n B ops ⟨none, .store t p x, ty, pos, after, none⟩ E ((k, ownM B' v e m (xs.set j u)) :: E') := by
  obtain ⟨i, hi, _, hs, _⟩ := hinfo.get
  intro κ a w K Q h hK
  obtain ⟨g, n', c, hvv, hp'⟩ := h.at_ p _ hp
  have hx' : a.eval x = u := h.at_ x _ hx
  obtain ⟨⟨hlen, h2⟩, hlt⟩ := h.of k _ hk
  rcases h2 with ⟨h2, _⟩ | ⟨g', cap, cur, h2, hg, hh, hnc, hcm, hcs, htk⟩
  · rw [h2] at hvv; cases hvv
  · have h20 := h2
    rw [h2] at hvv; injection hvv with h3 _ _; injection h3 with h3; injection h3 with h3 _ _; subst h3
    have hjc : j < cur.size := by omega
    have hcell : w.cell? ⟨g', j, none⟩ = some cur[j] := by simp [World.cell?, hh, hjc]
    have hfr : w.frozen? ⟨g', j, none⟩ = false := by simp [World.frozen?, hh]
    have hcu : u.cells = #[u] := by cases u <;> simp_all [Value.oneCell', Value.cells]
    have hadd : (⟨g', j, none⟩ : Addr).add 0 = ⟨g', j, none⟩ := rfl
    have hset := setCell_eq_setRow w g' j cur e (0, 0) u hh
    have hrun : (execOp a.eval ⟨none, .store t p x, ty, pos, after, none⟩).run P w = .ok .skip (w.setRow g' (cur.setIfInBounds j u)) := by
      rw [← hset]
      simp [execOp, hp', hx', Instr.storeAt, Instr.sureAddr, storeVar, hcu, sizeOf, typeInfo, hi, hs, storeCells, hadd, run_store P w ⟨g', j, none⟩ u .plain hu, hcell, hfr]
    rw [if_pos (by simp [Region.wanted])]
    refine opR (by nofun) ?_
    unfold Oper.wp
    rw [hrun, Oper.upon_skip]
    have hwr := Wrote.setRow (Nat.le_trans hB hg) hh (cur.setIfInBounds j u)
    have hob : v.ownBlock = some g' := by rw [h20]; rfl
    refine hK _ _ (hwr.below h.base) (((hl g' hg hob).st h hwr).push (d := ownM B' v e m (xs.set j u)) ⟨⟨by simpa using hlen, .inr ⟨g', cap, cur.setIfInBounds j u, h20, hg, setRow_heap w g' _ _ e _ hh, hnc, hcm, by simpa using hcs, ?_⟩⟩, fun g hg' => by simpa using hlt g hg'⟩)
    rw [← htk]
    simp [List.take_set]
end
section
variable {P : Program} {w₀ : World} {n : Nat} {c : Code} {E : Env} {Q : Exit → Act → World → Prop}
theorem A.valOwn {k k' m B' : Nat} {v : Value} {e : TypeId} {l : List UInt8} (hk : E.look k = some (ownM B' v e m (l.map byteV))) (hm : m = l.length) (h : A κ P w₀ n c ((k', valM v (byt l)) :: E) Q) : A κ P w₀ n c E Q := fun a w g hs =>
  h a w g (hs.push (t := k') (d := valM v (byt l)) (own_byt hm _ _ _ (hs.of k _ hk)))
/-- A variable of a disk that was there before a slice's own block: the block is none of the disk's. -/
theorem A.excludeV {k kv k' B₁ b m tD : Nat} {e : TypeId} {T : DTy} {S : Dk} {v : Value} {xs : List Value} (hk : E.look k = some (old B₁ (varK b tD 3 (diskD T X0 S)))) (hv : E.look kv = some (ownM B₁ v e m xs)) (h : A κ P w₀ n c ((k', varK b tD 3 (diskD T (ownX v) S)) :: E) Q) : A κ P w₀ n c E Q := fun a w g hs => by
  obtain ⟨hB, h1, cs, h2, h3, h4, p, h5, h6, h7, h8⟩ := hs.of k _ hk
  obtain ⟨⟨_, ho⟩, hlt⟩ := hs.of kv _ hv
  have hge : ∀ g, ownX v g → B₁ ≤ g := fun g hg => by
    rcases ho with ⟨rfl, _⟩ | ⟨g', cap, cur, rfl, hb, _⟩
    · simp [ownX, Value.ownBlock] at hg
    · simp [ownX, Value.ownBlock] at hg; omega
  exact h a w g (hs.push (t := k') (d := varK b tD 3 (diskD T (ownX v) S)) ⟨Nat.lt_of_lt_of_le h1 hB, cs, h2, h3, h4, p, h5, h6, fun g hg => hlt g hg, h8.carry (Carry.out (Q := fun _ => True) hB fun g hg he => by have := hge g he; omega) trivial trivial trivial trivial⟩)
end
theorem bump8 (x : UInt8) : Value.int .u8 (IntKind.u8.wrap ((x.toNat : Int) + 1)) = byteV (x + 1) := by
  have h := wrap_u8_nat (x.toNat + 1)
  rw [show ((x.toNat + 1 : Nat) : Int) = (x.toNat : Int) + 1 from rfl] at h
  rw [h, show UInt8.ofNat (x.toNat + 1) = x + 1 from by simp]
  rfl
theorem map_set8 {l : List UInt8} {i : Nat} {x : UInt8} : (l.map byteV).set i (byteV x) = (l.set i x).map byteV := by rw [List.map_set]
end Go.Proofs.Ytdhbhcbkhkopbaa
