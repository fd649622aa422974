/-
 The laws of caissonlaw10, part one.
-/
import Derived.Test.YtbmpjeheaemgmaaShort
import Derived.Test.YtbmpjeheaemgmaaC10b
namespace Go.Proofs.Ytbmpjeheaemgmaa
open Go Go.RowKit
set_option linter.unusedVariables false
set_option maxRecDepth 20000
/-- The examples' bytes. -/
def exA : List UInt8 := 3 :: List.replicate 44 0
def exB : List UInt8 := List.replicate 44 0 ++ [1]
def exD10 : List UInt8 := 1 :: List.replicate 31 0
theorem z45 : List.replicate 45 0 = recL 0 0 0 zD := by decide

theorem same10_fn (l : List UInt8) (n : Nat) (f : Int) (hn : l.length = n) : Fn Try.prog 12 [bytes l n, .v (.int .i64 f), byt l, .v (.int .i64 f)] (.v (.bool true)) := by
 refine Fn.of Try.func12 rfl (by kernel_rfl) Try.ntmps12 (by simp) (fun w => [(0, old w.heap.size (bytes l n)), (1, .v (.int .i64 f)), (2, old w.heap.size (byt l)), (3, .v (.int .i64 f))]) (fun w => (Start.old rfl (Start.v rfl (Start.old rfl (Start.v rfl Start.nil))))) fun w₀ => ?_
 refine GS ?_
 refine TL ?_
 refine RA rfl ?_
 refine RN ?_
 refine GS ?_
 refine TL ?_
 refine RM rfl ?_
 refine RM rfl ?_
 refine RBS rfl rfl rfl (.bool true) (by simp) ?_
 refine RM rfl ?_
 refine RQ (ok_move rfl) ?_
 refine RQ (ok_str (l := l) Try.underlying31 Try.underlying5 Try.underlying9 rfl LA) ?_
 refine RQ (ok_move rfl) ?_
 refine RQ (ok_str (l := l) Try.underlying31 Try.underlying5 Try.underlying9 rfl LA) ?_
 refine RQ (ok_seq rfl rfl) ?_; refine RZ (.bool true) (by simp) ?_
 refine RP rfl rfl ?_
 refine RM rfl ?_
 refine RQ (ok_move rfl) ?_
 refine RQ (ok_cap Try.underlying31 rfl (Le.old _ _)) ?_
 refine RQ (ok_move rfl) ?_
 refine RQ (ok_lenB Try.underlying31 rfl LA) ?_
 refine RQ (ok_bin rfl rfl rfl) ?_; refine RZ (.bool true) (by rw [hn]; simp) ?_
 refine RP rfl rfl ?_
 refine RA rfl ?_
 refine RN ?_
 refine A.ret ?_
 exact End.ret1 rfl rfl (by first | exact Le.refl _ | exact Le.old _ _)
theorem len10_lo (a n : Nat) (h : a < n) : Fn Try.prog 24 [.v (nI a), .v (nI n)] (.v (.int .i64 6)) := by
 refine Fn.of Try.func24 rfl (by kernel_rfl) Try.ntmps24 (by simp) (fun w => [(0, .v (nI a)), (1, .v (nI n))]) (fun w => (Start.v rfl (Start.v rfl Start.nil))) fun w₀ => ?_
 refine GS ?_
 refine TL ?_
 refine RA rfl ?_
 refine RN ?_
 refine A.seq ?_
 refine GS ?_
 refine TL ?_
 refine RM rfl ?_
 refine RM rfl ?_
 refine RBS rfl rfl rfl (.bool true) (by simp; omega) ?_
 refine RN ?_
 refine A.yes rfl ?_
 refine GS ?_
 refine TL ?_
 refine RA rfl ?_
 refine RN ?_
 refine A.ret ?_
 refine End.ret_then ?_
 exact End.ret1 rfl rfl (by first | exact Le.refl _ | exact Le.old _ _)
theorem len10_hi (a n : Nat) (h : n < a) : Fn Try.prog 24 [.v (nI a), .v (nI n)] (.v (.int .i64 5)) := by
 refine Fn.of Try.func24 rfl (by kernel_rfl) Try.ntmps24 (by simp) (fun w => [(0, .v (nI a)), (1, .v (nI n))]) (fun w => (Start.v rfl (Start.v rfl Start.nil))) fun w₀ => ?_
 refine GS ?_
 refine TL ?_
 refine RA rfl ?_
 refine RN ?_
 refine A.seq ?_
 refine GS ?_
 refine TL ?_
 refine RM rfl ?_
 refine RM rfl ?_
 refine RBS rfl rfl rfl (.bool false) (by simp; omega) ?_
 refine RN ?_
 refine A.no rfl ?_
 refine A.skip ?_
 refine EN ?_
 refine A.seq ?_
 refine GS ?_
 refine TL ?_
 refine RM rfl ?_
 refine RM rfl ?_
 refine RBS rfl rfl rfl (.bool true) (by simp; omega) ?_
 refine RN ?_
 refine A.yes rfl ?_
 refine GS ?_
 refine TL ?_
 refine RA rfl ?_
 refine RN ?_
 refine A.ret ?_
 refine End.ret_then ?_
 exact End.ret1 rfl rfl (by first | exact Le.refl _ | exact Le.old _ _)
theorem len10_eq (a n : Nat) (h : a = n) : Fn Try.prog 24 [.v (nI a), .v (nI n)] (.v (.int .i64 0)) := by
 refine Fn.of Try.func24 rfl (by kernel_rfl) Try.ntmps24 (by simp) (fun w => [(0, .v (nI a)), (1, .v (nI n))]) (fun w => (Start.v rfl (Start.v rfl Start.nil))) fun w₀ => ?_
 refine GS ?_
 refine TL ?_
 refine RA rfl ?_
 refine RN ?_
 refine A.seq ?_
 refine GS ?_
 refine TL ?_
 refine RM rfl ?_
 refine RM rfl ?_
 refine RBS rfl rfl rfl (.bool false) (by simp; omega) ?_
 refine RN ?_
 refine A.no rfl ?_
 refine A.skip ?_
 refine EN ?_
 refine A.seq ?_
 refine GS ?_
 refine TL ?_
 refine RM rfl ?_
 refine RM rfl ?_
 refine RBS rfl rfl rfl (.bool false) (by simp; omega) ?_
 refine RN ?_
 refine A.no rfl ?_
 refine A.skip ?_
 refine EN ?_
 refine GS ?_
 refine TL ?_
 refine RA rfl ?_
 refine RN ?_
 refine A.ret ?_
 exact End.ret1 rfl rfl (by first | exact Le.refl _ | exact Le.old _ _)
theorem length10_fn (a n : Nat) : Fn Try.prog 24 [.v (nI a), .v (nI n)] (.v (.int .i64 (szE a n))) := by
 by_cases h : a < n
 ·rw [szE_lo h]; exact len10_lo a n h
 by_cases h2 : n < a
 ·rw [szE_hi h2]; exact len10_hi a n h2
 ·rw [szE_eq (by omega)]; exact len10_eq a n (by omega)
theorem want_A (e z : Int) (o : Bool) (hz : z ≠ 0) (h : e = z) : Fn Try.prog 25 [.v (.int .i64 e), .v (.int .i64 z), .v (.bool o)] (.v (.bool true)) := by
 refine Fn.of Try.func25 rfl (by kernel_rfl) Try.ntmps25 (by simp) (fun w => [(0, .v (.int .i64 e)), (1, .v (.int .i64 z)), (2, .v (.bool o))]) (fun w => (Start.v rfl (Start.v rfl (Start.v rfl Start.nil)))) fun w₀ => ?_
 refine GS ?_
 refine TL ?_
 refine RA rfl ?_
 refine RN ?_
 refine A.seq ?_
 refine GS ?_
 refine TL ?_
 refine RM rfl ?_
 refine RBS rfl rfl rfl (.bool true) (congrArg Value.bool (bne_iff_ne.2 hz)) ?_
 refine RN ?_
 refine A.yes rfl ?_
 refine GS ?_
 refine TL ?_
 refine RM rfl ?_
 refine RM rfl ?_
 refine RBS rfl rfl rfl (.bool true) (by simp [h]) ?_
 refine RA rfl ?_
 refine RN ?_
 refine A.ret ?_
 refine End.ret_then ?_
 exact End.ret1 rfl rfl (by first | exact Le.refl _ | exact Le.old _ _)
theorem want_B (e z : Int) (o : Bool) (hz : z = 0) (ho : o = true) (h : e = 1) : Fn Try.prog 25 [.v (.int .i64 e), .v (.int .i64 z), .v (.bool o)] (.v (.bool true)) := by
 refine Fn.of Try.func25 rfl (by kernel_rfl) Try.ntmps25 (by simp) (fun w => [(0, .v (.int .i64 e)), (1, .v (.int .i64 z)), (2, .v (.bool o))]) (fun w => (Start.v rfl (Start.v rfl (Start.v rfl Start.nil)))) fun w₀ => ?_
 refine GS ?_
 refine TL ?_
 refine RA rfl ?_
 refine RN ?_
 refine A.seq ?_
 refine GS ?_
 refine TL ?_
 refine RM rfl ?_
 refine RBS rfl rfl rfl (.bool false) (by simp [hz]) ?_
 refine RN ?_
 refine A.no rfl ?_
 refine A.skip ?_
 refine EN ?_
 refine A.seq ?_
 refine GS ?_
 refine TL ?_
 refine RM rfl ?_; refine RZ (.bool true) (by rw [ho]) ?_
 refine RN ?_
 refine A.yes rfl ?_
 refine GS ?_
 refine TL ?_
 refine RM rfl ?_
 refine RBS rfl rfl rfl (.bool true) (by simp [h]) ?_
 refine RA rfl ?_
 refine RN ?_
 refine A.ret ?_
 refine End.ret_then ?_
 exact End.ret1 rfl rfl (by first | exact Le.refl _ | exact Le.old _ _)
theorem want_C (e z : Int) (o : Bool) (hz : z = 0) (ho : o = false) (h : e = 0) : Fn Try.prog 25 [.v (.int .i64 e), .v (.int .i64 z), .v (.bool o)] (.v (.bool true)) := by
 refine Fn.of Try.func25 rfl (by kernel_rfl) Try.ntmps25 (by simp) (fun w => [(0, .v (.int .i64 e)), (1, .v (.int .i64 z)), (2, .v (.bool o))]) (fun w => (Start.v rfl (Start.v rfl (Start.v rfl Start.nil)))) fun w₀ => ?_
 refine GS ?_
 refine TL ?_
 refine RA rfl ?_
 refine RN ?_
 refine A.seq ?_
 refine GS ?_
 refine TL ?_
 refine RM rfl ?_
 refine RBS rfl rfl rfl (.bool false) (by simp [hz]) ?_
 refine RN ?_
 refine A.no rfl ?_
 refine A.skip ?_
 refine EN ?_
 refine A.seq ?_
 refine GS ?_
 refine TL ?_
 refine RM rfl ?_; refine RZ (.bool false) (by rw [ho]) ?_
 refine RN ?_
 refine A.no rfl ?_
 refine A.skip ?_
 refine EN ?_
 refine GS ?_
 refine TL ?_
 refine RM rfl ?_
 refine RBS rfl rfl rfl (.bool true) (by simp [h]) ?_
 refine RA rfl ?_
 refine RN ?_
 refine A.ret ?_
 exact End.ret1 rfl rfl (by first | exact Le.refl _ | exact Le.old _ _)
theorem wanted_fn (e z : Int) (o : Bool) (h : e = wantE z o) : Fn Try.prog 25 [.v (.int .i64 e), .v (.int .i64 z), .v (.bool o)] (.v (.bool true)) := by
 unfold wantE at h
 by_cases hz : z = 0
 ·rw [if_neg (by omega)] at h
  cases o with
  | true => exact want_B e z true hz rfl h
  | false => exact want_C e z false hz rfl h
 ·rw [if_pos hz] at h; exact want_A e z o hz h
set_option maxHeartbeats 4000000 in
theorem lives10_fn  : Fn Try.prog 13 [] (.v (.bool true)) := by
 refine Fn.of Try.func13 rfl (by kernel_rfl) Try.ntmps13 (by simp) (fun w => []) (fun w => Start.nil) fun w₀ => ?_
 refine GS ?_
 refine TL ?_
 refine RA rfl ?_
 refine RN ?_
 refine GS ?_
 refine TN 1 ?_
 refine RS (ok_lit [] ([.int .u8 0] ++ [.int .u32 0] ++ [.int .u64 0] ++ List.replicate 32 (.int .u8 0)) (fun _ _ => rfl) (by kernel_rfl)) ?_
 refine RN ?_
 refine ⟨_, _, eff_name (n := 148) (d := 27) (k := 1000027) rfl rfl (fun B' => ok_callB (PutRecord_okB 0 0 0 zD rfl (by decide) (by decide) (by decide)) newD_mono (A1 rfl)) (by decide) (by decide), fun b27 hb27 => ?_⟩
 have hBb27 := hb27.1
 refine TL ?_
 refine RM rfl ?_
 refine RS (ok_extractV rfl rfl) ?_
 refine RS (ok_extractV rfl rfl) ?_
 refine RA rfl ?_
 refine RA rfl ?_
 refine RN ?_
 refine GS ?_
 refine TN 0 ?_
 refine RN ?_
 refine ⟨_, _, eff_nameF (c := 45) rfl (n := 148) (d := 30) (k := 1000030) rfl rfl (fun B' => ok_make 45 Try.underlying31 info5 (by decide) rfl rfl rfl rfl rfl (by decide)) (by decide) (by decide), fun b30 hb30 => ?_⟩
 have hBb30 := hb30.1
 have hlt_b27_b30 : b27 < b30 := hb30.2 1000027 _ _ _ rfl
 refine TL ?_
 refine RA rfl ?_
 refine RN ?_
 refine GS ?_
 refine TF 2 ?_
 refine RM rfl ?_
 refine RS (ok_indexV 0 Try.underlying31 info5 rfl rfl rfl (by decide)) ?_
 refine RN ?_
 refine ⟨_, eff_storeS (n := 148) (s := 1000030) info5 rfl rfl rfl hBb30 rfl (by decide) (LV 1 rfl (LV 2 rfl (LV 3 rfl (LB 1000027 rfl LN)))), ?_⟩
 refine TL ?_
 refine RN ?_
 refine A.sub (KC 1 rfl (KC 2 rfl (KC 3 rfl (KC 1000027 rfl (KE 1000030 rfl (show _ = blk b30 5 (exA.map byteV) from by rfl) KN))))) ?_
 refine GS ?_
 refine TN 5 ?_
 refine RS (OpOk.fact (ok_move rfl) (d := byt (exA)) (s := 1000030) (by decide) rfl (slice_byt (exA) ((rfl : exA.length = 45)).symm (Nat.le_refl _) (by decide) (by rfl))) ?_
 refine RS (ok_call (GetRecord_bad exA rfl (.inl (by decide))) (A1 rfl)) ?_
 refine RM rfl ?_
 refine RS (ok_extractV rfl rfl) ?_
 refine RS (ok_extractV rfl rfl) ?_
 refine RN ?_
 refine ⟨_, _, eff_alloc (n := 148) (d := 4) (k := 1000004) zero29 (by decide), fun b4 hb4 => ?_⟩
 have hBb4 := hb4.1
 refine TF 6 ?_
 refine RN ?_
 refine ⟨_, eff_storeA (n := 148) (s := 1000004) (size29.of (rfl)) rfl rfl (rfl) hBb4 rfl (rfl) (LV 1 rfl (LV 2 rfl (LV 3 rfl (LV 37 rfl (LT 1000027 rfl (LT 1000030 rfl LN)))))), ?_⟩
 refine TL ?_
 refine RA rfl ?_
 refine RN ?_
 refine GS ?_
 refine TF 3 ?_
 refine RM rfl ?_
 refine RM rfl ?_
 refine RS (ok_indexV 0 Try.underlying31 info5 rfl rfl rfl (by decide)) ?_
 refine RN ?_
 refine ⟨_, eff_storeS (n := 148) (s := 1000030) info5 rfl rfl rfl hBb30 rfl (by decide) (LV 1 rfl (LV 2 rfl (LV 3 rfl (LV 5 rfl (LV 39 rfl (LT 1000004 rfl (LB 1000027 rfl LN))))))), ?_⟩
 refine TF 5 ?_
 refine RS (ok_indexV 44 Try.underlying31 info5 rfl rfl rfl (by decide)) ?_
 refine RN ?_
 refine ⟨_, eff_storeS (n := 148) (s := 1000030) info5 rfl rfl rfl hBb30 rfl (by decide) (LV 1 rfl (LV 2 rfl (LV 3 rfl (LV 5 rfl (LT 1000004 rfl (LB 1000027 rfl LN)))))), ?_⟩
 refine TL ?_
 refine RN ?_
 refine A.sub (KC 1 rfl (KC 2 rfl (KC 3 rfl (KC 5 rfl (KC 1000004 rfl (KC 1000027 rfl (KE 1000030 rfl (show _ = blk b30 5 (exB.map byteV) from by rfl) KN))))))) ?_
 refine GS ?_
 refine TN 5 ?_
 refine RS (OpOk.fact (ok_move rfl) (d := byt (exB)) (s := 1000030) (by decide) rfl (slice_byt (exB) ((rfl : exB.length = 45)).symm (Nat.le_refl _) (by decide) (by rfl))) ?_
 refine RS (ok_call (GetRecord_bad exB rfl (.inr ⟨by decide, fun h => absurd h.2.2 (by decide)⟩)) (A1 rfl)) ?_
 refine RM rfl ?_
 refine RS (ok_extractV rfl rfl) ?_
 refine RS (ok_extractV rfl rfl) ?_
 refine RN ?_
 refine ⟨_, _, eff_alloc (n := 148) (d := 6) (k := 1000006) zero29 (by decide), fun b6 hb6 => ?_⟩
 have hBb6 := hb6.1
 have hlt_b4_b6 : b4 < b6 := hb6.2 1000004 _ _ _ rfl
 refine TF 6 ?_
 refine RN ?_
 refine ⟨_, eff_storeA (n := 148) (s := 1000006) (size29.of (rfl)) rfl rfl (rfl) hBb6 rfl (rfl) (LV 1 rfl (LV 2 rfl (LV 3 rfl (LV 5 rfl (LV 46 rfl (LB 1000004 rfl (LT 1000027 rfl (LT 1000030 rfl LN)))))))), ?_⟩
 refine TL ?_
 refine RA rfl ?_
 refine RN ?_
 refine GS ?_
 refine TN 6 ?_
 refine RS (OpOk.fact (ok_move rfl) (d := byt (exB)) (s := 1000030) (by decide) rfl (slice_byt (exB) ((rfl : exB.length = 45)).symm (Nat.le_refl _) (by decide) (by rfl))) ?_
 refine RS ((ok_slice (ds := exB.map byteD) 0 44 Try.underlying31 info5 rfl (Le.refl _) (.inr ⟨rfl, rfl⟩) (.inl ⟨_, _, rfl, rfl⟩) (by decide) (by decide)).le (d' := byt (List.replicate 44 0)) (Le.eq (by rfl))) ?_
 refine RS (ok_call (GetRecord_len (List.replicate 44 0) (by decide)) (A1 rfl)) ?_
 refine RM rfl ?_
 refine RS (ok_extractV rfl rfl) ?_
 refine RS (ok_extractV rfl rfl) ?_
 refine RN ?_
 refine ⟨_, _, eff_alloc (n := 148) (d := 8) (k := 1000008) zero29 (by decide), fun b8 hb8 => ?_⟩
 have hBb8 := hb8.1
 have hlt_b4_b8 : b4 < b8 := hb8.2 1000004 _ _ _ rfl
 have hlt_b6_b8 : b6 < b8 := hb8.2 1000006 _ _ _ rfl
 refine TF 7 ?_
 refine RN ?_
 refine ⟨_, eff_storeA (n := 148) (s := 1000008) (size29.of (rfl)) rfl rfl (rfl) hBb8 rfl (rfl) (LV 1 rfl (LV 2 rfl (LV 5 rfl (LV 7 rfl (LV 52 rfl (LB 1000004 rfl (LB 1000006 rfl (LT 1000027 rfl (LT 1000030 rfl LN))))))))), ?_⟩
 refine TL ?_
 refine RA rfl ?_
 refine RN ?_
 refine GS ?_
 refine TL ?_
 refine RS (ok_litP [_] Try.underlying27 info5 zero27 (by decide) ⟨rfl, rfl, trivial⟩ rfl) ?_; refine RZ (aggV (exD10.map byteV)) (by rfl) ?_
 refine RS (ok_litS [(1, aggV (exD10.map byteV))] (entV 0 exD10) ⟨rfl, rfl, trivial⟩ (by kernel_rfl)) ?_
 refine RS (ok_call (PutEntry_bad 0 exD10 rfl (.inr ⟨by decide, by decide⟩)) (A1 rfl)) ?_
 refine RM rfl ?_
 refine RS (ok_extractV rfl rfl) ?_
 refine RS (ok_extractV rfl rfl) ?_
 refine RA rfl ?_
 refine RA rfl ?_
 refine RN ?_
 refine A.sub (KC 1 rfl (KC 2 rfl (KC 5 rfl (KC 7 rfl (KC 9 rfl (KC 11 rfl (KC 1000004 rfl (KC 1000006 rfl (KC 1000008 rfl (KC 1000027 rfl (KC 1000030 rfl KN))))))))))) ?_
 refine GS ?_
 refine TN 5 ?_
 refine RS (ok_make 34 Try.underlying31 info5 (by decide) rfl rfl rfl rfl rfl (by decide)) ?_
 refine RS (ok_call (GetEntry_len (List.replicate 34 0) (by decide)) (Args.cons rfl ((Le.eq (by rfl)).trans ((fresh_bytes (l := List.replicate 34 0) rfl (by decide)).trans (le_byt _ _))) Args.nil)) ?_
 refine RM rfl ?_
 refine RS (ok_extractV rfl rfl) ?_
 refine RS (ok_extractV rfl rfl) ?_
 refine RN ?_
 refine ⟨_, _, eff_alloc (n := 148) (d := 12) (k := 1000012) zero43 (by decide), fun b12 hb12 => ?_⟩
 have hBb12 := hb12.1
 refine TF 6 ?_
 refine RN ?_
 refine ⟨_, eff_storeA (n := 148) (s := 1000012) (size43.of (rfl)) rfl rfl (rfl) hBb12 rfl (rfl) (LV 1 rfl (LV 2 rfl (LV 5 rfl (LV 7 rfl (LV 9 rfl (LV 11 rfl (LV 63 rfl (LT 1000004 rfl (LT 1000006 rfl (LT 1000008 rfl (LT 1000027 rfl (LT 1000030 rfl LN)))))))))))), ?_⟩
 refine TL ?_
 refine RA rfl ?_
 refine RN ?_
 refine GS ?_
 refine TL ?_
 refine RS (ok_litS [(1, nQ 1), (2, nQ 2)] (celV zD 1 2) ⟨rfl, rfl, rfl, rfl, trivial⟩ (by kernel_rfl)) ?_
 refine RS (ok_call (PutCell_fn zD rfl 1 2 (by decide) (by decide)) (A1 rfl)) ?_
 refine RA rfl ?_
 refine RN ?_
 refine A.seq ?_
 refine GS ?_
 refine TL ?_
 refine RS (OpOk.fact (ok_move rfl) (d := bytes (recL 0 0 0 zD) 45) (s := 1000027) (by decide) rfl (slice_bytes (recL 0 0 0 zD) ((rfl : (recL 0 0 0 zD).length = 45)).symm (Nat.le_refl _) (by decide) (by rw [List.drop_zero, List.take_of_length_le (by rw [List.length_map, (rfl : (recL 0 0 0 zD).length = 45)]; exact Nat.le_refl _)]))) ?_
 refine RM rfl ?_
 refine RS (ok_make 45 Try.underlying31 info5 (by decide) rfl rfl rfl rfl rfl (by decide)) ?_
 refine RS (ok_call (same10_fn (recL 0 0 0 zD) 45 0 rfl) (Args.cons rfl (Le.refl _) (Args.cons rfl (Le.refl _) (Args.cons rfl (((Le.eq (by rfl)).trans ((fresh_bytes (l := List.replicate 45 0) rfl (by decide)).trans ((le_byt _ _).trans (Le.eq (congrArg byt z45)))))) (A1 rfl))))) ?_
 refine RS (ok_not rfl) ?_; refine RZ (.bool false) (by rfl) ?_
 refine RM rfl ?_
 refine RQ (ok_move rfl) ?_
 refine RQ (ok_bin rfl rfl rfl) ?_; refine RZ (.bool false) (by rfl) ?_
 refine RP rfl rfl ?_
 refine RM rfl ?_
 refine RQ (ok_move rfl) ?_
 refine RQ (ok_bin rfl rfl rfl) ?_; refine RZ (.bool false) (by rfl) ?_
 refine RP rfl rfl ?_
 refine RM rfl ?_
 refine RQ (ok_move rfl) ?_
 refine RQ (ok_bin rfl rfl rfl) ?_; refine RZ (.bool false) (by rfl) ?_
 refine RP rfl rfl ?_
 refine RM rfl ?_
 refine RQ (ok_move rfl) ?_
 refine RQ (ok_bin rfl rfl rfl) ?_; refine RZ (.bool false) (by rfl) ?_
 refine RP rfl rfl ?_
 refine RM rfl ?_
 refine RQ (ok_move rfl) ?_
 refine RQ (ok_bin rfl rfl rfl) ?_; refine RZ (.bool false) (by rfl) ?_
 refine RP rfl rfl ?_
 refine RM rfl ?_
 refine RQ (ok_move rfl) ?_
 refine RQ (ok_lenB Try.underlying31 rfl (le_byt _ _)) ?_
 refine RQ (ok_bin rfl rfl rfl) ?_; refine RZ (.bool false) (by rfl) ?_
 refine RP rfl rfl ?_
 refine RM rfl ?_
 refine RQ (ok_move rfl) ?_
 refine RQ ((ok_slice (ds := (celL zD 1 2).map byteD) 32 48 Try.underlying31 info5 rfl (le_byt _ _) (.inl ⟨_, _, rfl, rfl⟩) (.inr ⟨rfl, rfl⟩) (by decide) (by decide)).le (d' := byt [0, 0, 0, 0, 0, 0, 0, 1, 0, 0, 0, 0, 0, 0, 0, 2]) (Le.eq (congrArg lst (by rfl)))) ?_
 refine RQ (ok_str (l := [0, 0, 0, 0, 0, 0, 0, 1, 0, 0, 0, 0, 0, 0, 0, 2]) Try.underlying31 Try.underlying5 Try.underlying9 rfl (Le.refl _)) ?_
 refine RQ (ok_sne rfl rfl) ?_; refine RZ (.bool false) (by rfl) ?_
 refine RP rfl rfl ?_
 refine RN ?_
 refine A.sub (KC 101 rfl (KC 1000004 rfl (KC 1000006 rfl (KC 1000008 rfl (KC 1000012 rfl (KC 1000027 rfl (KC 1000030 rfl KN))))))) ?_
 refine A.no rfl ?_
 refine A.skip ?_
 refine EN ?_
 refine GS ?_
 refine TL ?_
 refine RS (ok_call (Slot_ok 2 (by decide) (by decide)) (A1 rfl)) ?_
 refine RM rfl ?_
 refine RS (ok_extractV rfl rfl) ?_
 refine RS (ok_extractV rfl rfl) ?_
 refine RA rfl ?_
 refine RA rfl ?_
 refine RN ?_
 refine GS ?_
 refine TL ?_
 refine RS (ok_call (Slot_none 0 (by decide)) (A1 rfl)) ?_
 refine RM rfl ?_
 refine RS (ok_extractV rfl rfl) ?_
 refine RS (ok_extractV rfl rfl) ?_
 refine RA rfl ?_
 refine RA rfl ?_
 refine RN ?_
 refine GS ?_
 refine TL ?_
 refine RS (ok_call (Slot_big 3 (by decide)) (A1 rfl)) ?_
 refine RM rfl ?_
 refine RS (ok_extractV rfl rfl) ?_
 refine RS (ok_extractV rfl rfl) ?_
 refine RA rfl ?_
 refine RA rfl ?_
 refine RN ?_
 refine GS ?_
 refine TL ?_
 refine RS (ok_call (State_ok 0 1 (by decide) (by decide) (by decide)) (A1 rfl)) ?_
 refine RM rfl ?_
 refine RS (ok_extractV rfl rfl) ?_
 refine RS (ok_extractV rfl rfl) ?_
 refine RA rfl ?_
 refine RA rfl ?_
 refine RN ?_
 refine GS ?_
 refine TL ?_
 refine RS (ok_call (State_big 2 (by decide)) (A1 rfl)) ?_
 refine RM rfl ?_
 refine RS (ok_extractV rfl rfl) ?_
 refine RS (ok_extractV rfl rfl) ?_
 refine RA rfl ?_
 refine RA rfl ?_
 refine RN ?_
 refine A.sub (KC 15 rfl (KC 16 rfl (KC 18 rfl (KC 20 rfl (KC 21 rfl (KC 22 rfl (KC 24 rfl (KC 1000004 rfl (KC 1000006 rfl (KC 1000008 rfl (KC 1000012 rfl (KC 1000027 rfl (KC 1000030 rfl KN))))))))))))) ?_
 refine GS ?_
 refine TL ?_
 refine RM rfl ?_
 refine RBS rfl rfl rfl (.bool true) (by rfl) ?_
 refine RM rfl ?_
 refine RQ (ok_move rfl) ?_
 refine RQ (ok_bin rfl rfl rfl) ?_; refine RZ (.bool true) (by rfl) ?_
 refine RP rfl rfl ?_
 refine RM rfl ?_
 refine RQ (ok_move rfl) ?_
 refine RQ (ok_bin rfl rfl rfl) ?_; refine RZ (.bool true) (by rfl) ?_
 refine RP rfl rfl ?_
 refine RM rfl ?_
 refine RQ (ok_move rfl) ?_
 refine RQ (ok_bin rfl rfl rfl) ?_; refine RZ (.bool true) (by rfl) ?_
 refine RP rfl rfl ?_
 refine RM rfl ?_
 refine RQ (ok_move rfl) ?_
 refine RQ (ok_bin rfl rfl rfl) ?_; refine RZ (.bool true) (by rfl) ?_
 refine RP rfl rfl ?_
 refine RM rfl ?_
 refine RQ (ok_move rfl) ?_
 refine RQ (ok_bin rfl rfl rfl) ?_; refine RZ (.bool true) (by rfl) ?_
 refine RP rfl rfl ?_
 refine RM rfl ?_
 refine RQ (ok_move rfl) ?_
 refine RQ (ok_bin rfl rfl rfl) ?_; refine RZ (.bool true) (by rfl) ?_
 refine RP rfl rfl ?_
 refine RA rfl ?_
 refine RN ?_
 refine A.sub (KC 0 rfl (KC 1000004 rfl (KC 1000006 rfl (KC 1000008 rfl (KC 1000012 rfl (KC 1000027 rfl (KC 1000030 rfl KN))))))) ?_
 refine A.ret ?_
 exact End.ret1 rfl rfl (by first | exact Le.refl _ | exact Le.old _ _)
set_option maxHeartbeats 1000000 in
theorem RecordsRecord_bad (x : UInt8) (s c : Nat) (t : List UInt8) (ht : t.length = 32) (hb : BadR x s c t)  : Fn Try.prog 3 [.v (aggV (recV x s c t))] (.v (.bool true)) := by
 refine Fn.of Try.func3 rfl (by kernel_rfl) Try.ntmps3 (by simp) (fun w => [(0, .v (aggV (recV x s c t)))]) (fun w => (Start.v rfl Start.nil)) fun w₀ => ?_
 refine GS ?_
 refine TN 0 ?_
 refine RN ?_
 refine ⟨_, _, eff_box (n := 49) (d := 1) (k := 1000001) rfl (by decide), fun b1 hb1 => ?_⟩
 have hBb1 := hb1.1
 refine TL ?_
 refine RA rfl ?_
 refine RN ?_
 refine GS ?_
 refine TL ?_
 refine RS (ok_loadA (s := 1000001) (by decide) Try.underlying29 rfl (size29.of (rec_len x s c ht)) rfl rfl) ?_
 refine RS (ok_call (refCheckR_fn x s c t ht) (A1 rfl)) ?_; refine RZ (.int .i64 1) (congrArg (Value.int .i64) (ckR_bad hb)) ?_
 refine RA rfl ?_
 refine RN ?_
 refine GS ?_
 refine TL ?_
 refine RS (ok_loadA (s := 1000001) (by decide) Try.underlying29 rfl (size29.of (rec_len x s c ht)) rfl rfl) ?_
 refine RS (ok_call (PutRecord_bad x s c t ht hb) (A1 rfl)) ?_
 refine RM rfl ?_
 refine RS (ok_extractV rfl rfl) ?_
 refine RS (ok_extractV rfl rfl) ?_
 refine RA rfl ?_
 refine RA rfl ?_
 refine RN ?_
 refine A.seq ?_
 refine GS ?_
 refine TL ?_
 refine RS (ok_loadA (s := 1000001) (by decide) Try.underlying29 rfl (size29.of (rec_len x s c ht)) rfl rfl) ?_
 refine RS (ok_call (CheckR_fn x s c t ht) (A1 rfl)) ?_; refine RZ (.int .i64 1) (congrArg (Value.int .i64) (ckR_bad hb)) ?_
 refine RM rfl ?_
 refine RBS rfl rfl rfl (.bool false) (by rfl) ?_
 refine RN ?_
 refine A.no rfl ?_
 refine A.skip ?_
 refine EN ?_
 refine A.seq ?_
 refine GS ?_
 refine TL ?_
 refine RM rfl ?_
 refine RBS rfl rfl rfl (.bool true) (by rfl) ?_
 refine RN ?_
 refine A.yes rfl ?_
 refine GS ?_
 refine TL ?_
 refine RM rfl ?_
 refine RM rfl ?_
 refine RS (ok_call (same10_fn [] 0 1 rfl) (Args.cons rfl (bytes_nil_le) (Args.cons rfl (Le.refl _) (Args.cons rfl (byt_nil_le) (A1 rfl))))) ?_
 refine RM rfl ?_
 refine RQ (ok_call lives10_fn Args.nil) ?_
 refine RP rfl rfl ?_
 refine RA rfl ?_
 refine RN ?_
 refine A.sub (KC 2 rfl (KC 1000001 rfl KN)) ?_
 refine A.ret ?_
 refine End.ret_then ?_
 exact End.ret1 rfl rfl (by first | exact Le.refl _ | exact Le.old _ _)
set_option maxHeartbeats 1000000 in
theorem RecordsRecord_ok (x : UInt8) (s c : Nat) (t : List UInt8) (ht : t.length = 32) (hs : s < 4294967296) (hc : c < 18446744073709551616) (hb : ¬ BadR x s c t)  : Fn Try.prog 3 [.v (aggV (recV x s c t))] (.v (.bool true)) := by
 refine Fn.of Try.func3 rfl (by kernel_rfl) Try.ntmps3 (by simp) (fun w => [(0, .v (aggV (recV x s c t)))]) (fun w => (Start.v rfl Start.nil)) fun w₀ => ?_
 refine GS ?_
 refine TN 0 ?_
 refine RN ?_
 refine ⟨_, _, eff_box (n := 49) (d := 1) (k := 1000001) rfl (by decide), fun b1 hb1 => ?_⟩
 have hBb1 := hb1.1
 refine TL ?_
 refine RA rfl ?_
 refine RN ?_
 refine GS ?_
 refine TL ?_
 refine RS (ok_loadA (s := 1000001) (by decide) Try.underlying29 rfl (size29.of (rec_len x s c ht)) rfl rfl) ?_
 refine RS (ok_call (refCheckR_fn x s c t ht) (A1 rfl)) ?_; refine RZ (.int .i64 0) (congrArg (Value.int .i64) (ckR_ok hb)) ?_
 refine RA rfl ?_
 refine RN ?_
 refine GS ?_
 refine TN 1 ?_
 refine RS (ok_loadA (s := 1000001) (by decide) Try.underlying29 rfl (size29.of (rec_len x s c ht)) rfl rfl) ?_
 refine RN ?_
 refine ⟨_, _, eff_name (n := 49) (d := 12) (k := 1000012) rfl rfl (fun B' => ok_callB (PutRecord_okB x s c t ht hs hc hb) newD_mono (A1 rfl)) (by decide) (by decide), fun b12 hb12 => ?_⟩
 have hBb12 := hb12.1
 have hlt_b1_b12 : b1 < b12 := hb12.2 1000001 _ _ _ rfl
 refine TL ?_
 refine RM rfl ?_
 refine RS (ok_extractV rfl rfl) ?_
 refine RS (ok_extractV rfl rfl) ?_
 refine RA rfl ?_
 refine RA rfl ?_
 refine RN ?_
 refine A.seq ?_
 refine GS ?_
 refine TL ?_
 refine RS (ok_loadA (s := 1000001) (by decide) Try.underlying29 rfl (size29.of (rec_len x s c ht)) rfl rfl) ?_
 refine RS (ok_call (CheckR_fn x s c t ht) (A1 rfl)) ?_; refine RZ (.int .i64 0) (congrArg (Value.int .i64) (ckR_ok hb)) ?_
 refine RM rfl ?_
 refine RBS rfl rfl rfl (.bool false) (by rfl) ?_
 refine RN ?_
 refine A.no rfl ?_
 refine A.skip ?_
 refine EN ?_
 refine A.seq ?_
 refine GS ?_
 refine TL ?_
 refine RM rfl ?_
 refine RBS rfl rfl rfl (.bool false) (by rfl) ?_
 refine RN ?_
 refine A.no rfl ?_
 refine A.skip ?_
 refine EN ?_
 refine GS ?_
 refine TN 5 ?_
 refine RS (OpOk.fact (ok_move rfl) (d := byt (recL x s c t)) (s := 1000012) (by decide) rfl (slice_byt (recL x s c t) (recL_len x s c ht).symm (Nat.le_refl _) (by decide) (by rw [List.drop_zero, List.take_of_length_le (by rw [List.length_map, recL_len x s c ht]; exact Nat.le_refl _)]))) ?_
 refine RS (ok_call (GetRecord_put x s c t ht hs hc hb) (A1 rfl)) ?_
 refine RM rfl ?_
 refine RS (ok_extractV rfl rfl) ?_
 refine RS (ok_extractV rfl rfl) ?_
 refine RN ?_
 refine ⟨_, _, eff_alloc (n := 49) (d := 6) (k := 1000006) zero29 (by decide), fun b6 hb6 => ?_⟩
 have hBb6 := hb6.1
 have hlt_b1_b6 : b1 < b6 := hb6.2 1000001 _ _ _ rfl
 refine TF 6 ?_
 refine RN ?_
 refine ⟨_, eff_storeA (n := 49) (s := 1000006) (size29.of (rec_len x s c ht)) rfl rfl (rec_one x s c t) hBb6 rfl (by rw [rec_len x s c ht]; rfl) (LV 1 rfl (LV 4 rfl (LV 5 rfl (LV 6 rfl (LV 31 rfl (LB 1000001 rfl (LT 1000012 rfl LN))))))), ?_⟩
 refine TL ?_
 refine RA rfl ?_
 refine RN ?_
 refine A.sub (KC 1 rfl (KC 4 rfl (KC 5 rfl (KC 6 rfl (KC 7 rfl (KC 1000001 rfl (KC 1000006 rfl (KC 1000012 rfl KN)))))))) ?_
 refine GS ?_
 refine TL ?_
 refine RS (OpOk.fact (ok_move rfl) (d := bytes (recL x s c t) 45) (s := 1000012) (by decide) rfl (slice_bytes (recL x s c t) (recL_len x s c ht).symm (Nat.le_refl _) (by decide) (by rw [List.drop_zero, List.take_of_length_le (by rw [List.length_map, recL_len x s c ht]; exact Nat.le_refl _)]))) ?_
 refine RM rfl ?_
 refine RS (ok_loadA (s := 1000001) (by decide) Try.underlying29 rfl (size29.of (rec_len x s c ht)) rfl rfl) ?_
 refine RS (ok_call (refRecord_fn x s c t ht hs hc) (A1 rfl)) ?_
 refine RS (ok_call (same10_fn (recL x s c t) 45 0 (recL_len x s c ht)) (Args.cons rfl (Le.refl _) (A3 rfl rfl rfl))) ?_
 refine RM rfl ?_
 refine RQ (ok_loadA (s := 1000006) (by decide) Try.underlying29 rfl (size29.of (rec_len x s c ht)) rfl rfl) ?_
 refine RQ (ok_loadA (s := 1000001) (by decide) Try.underlying29 rfl (size29.of (rec_len x s c ht)) rfl rfl) ?_
 refine RQ (ok_eqlT (n := 4) true flat29 (by decide) (by kernel_rfl) (by kernel_rfl) rfl rfl (kinRec x s c ht) (kinRec x s c ht) ⟨fun _ => rfl, fun _ => rfl⟩) ?_
 refine RP rfl rfl ?_
 refine RM rfl ?_
 refine RQ (ok_move rfl) ?_
 refine RQ (ok_bin rfl rfl rfl) ?_; refine RZ (.bool true) (by rfl) ?_
 refine RP rfl rfl ?_
 refine RM rfl ?_
 refine RQ (ok_call lives10_fn Args.nil) ?_
 refine RP rfl rfl ?_
 refine RA rfl ?_
 refine RN ?_
 refine A.ret ?_
 exact End.ret1 rfl rfl (by first | exact Le.refl _ | exact Le.old _ _)
theorem RecordsRecord_fn (x : UInt8) (s c : Nat) (t : List UInt8) (ht : t.length = 32) (hs : s < 4294967296) (hc : c < 18446744073709551616) : Fn Try.prog 3 [.v (aggV (recV x s c t))] (.v (.bool true)) := by
 by_cases hb : BadR x s c t
 ·exact RecordsRecord_bad x s c t ht hb
 ·exact RecordsRecord_ok x s c t ht hs hc hb
set_option maxHeartbeats 1000000 in
theorem RecordsEntry_bad (x : UInt8) (t : List UInt8) (ht : t.length = 32) (hb : BadE x t)  : Fn Try.prog 4 [.v (aggV (entV x t))] (.v (.bool true)) := by
 refine Fn.of Try.func4 rfl (by kernel_rfl) Try.ntmps4 (by simp) (fun w => [(0, .v (aggV (entV x t)))]) (fun w => (Start.v rfl Start.nil)) fun w₀ => ?_
 refine GS ?_
 refine TN 0 ?_
 refine RN ?_
 refine ⟨_, _, eff_box (n := 49) (d := 1) (k := 1000001) rfl (by decide), fun b1 hb1 => ?_⟩
 have hBb1 := hb1.1
 refine TL ?_
 refine RA rfl ?_
 refine RN ?_
 refine GS ?_
 refine TL ?_
 refine RS (ok_loadA (s := 1000001) (by decide) Try.underlying43 rfl (size43.of (ent_len x ht)) rfl rfl) ?_
 refine RS (ok_call (refCheckE_fn x t ht) (A1 rfl)) ?_; refine RZ (.int .i64 1) (congrArg (Value.int .i64) (ckE_bad hb)) ?_
 refine RA rfl ?_
 refine RN ?_
 refine GS ?_
 refine TL ?_
 refine RS (ok_loadA (s := 1000001) (by decide) Try.underlying43 rfl (size43.of (ent_len x ht)) rfl rfl) ?_
 refine RS (ok_call (PutEntry_bad x t ht hb) (A1 rfl)) ?_
 refine RM rfl ?_
 refine RS (ok_extractV rfl rfl) ?_
 refine RS (ok_extractV rfl rfl) ?_
 refine RA rfl ?_
 refine RA rfl ?_
 refine RN ?_
 refine A.seq ?_
 refine GS ?_
 refine TL ?_
 refine RS (ok_loadA (s := 1000001) (by decide) Try.underlying43 rfl (size43.of (ent_len x ht)) rfl rfl) ?_
 refine RS (ok_call (CheckE_fn x t ht) (A1 rfl)) ?_; refine RZ (.int .i64 1) (congrArg (Value.int .i64) (ckE_bad hb)) ?_
 refine RM rfl ?_
 refine RBS rfl rfl rfl (.bool false) (by rfl) ?_
 refine RN ?_
 refine A.no rfl ?_
 refine A.skip ?_
 refine EN ?_
 refine A.seq ?_
 refine GS ?_
 refine TL ?_
 refine RM rfl ?_
 refine RBS rfl rfl rfl (.bool true) (by rfl) ?_
 refine RN ?_
 refine A.yes rfl ?_
 refine GS ?_
 refine TL ?_
 refine RM rfl ?_
 refine RM rfl ?_
 refine RS (ok_call (same10_fn [] 0 1 rfl) (Args.cons rfl (bytes_nil_le) (Args.cons rfl (Le.refl _) (Args.cons rfl (byt_nil_le) (A1 rfl))))) ?_
 refine RM rfl ?_
 refine RQ (ok_call lives10_fn Args.nil) ?_
 refine RP rfl rfl ?_
 refine RA rfl ?_
 refine RN ?_
 refine A.sub (KC 2 rfl (KC 1000001 rfl KN)) ?_
 refine A.ret ?_
 refine End.ret_then ?_
 exact End.ret1 rfl rfl (by first | exact Le.refl _ | exact Le.old _ _)
set_option maxHeartbeats 1000000 in
theorem RecordsEntry_ok (x : UInt8) (t : List UInt8) (ht : t.length = 32) (hb : ¬ BadE x t)  : Fn Try.prog 4 [.v (aggV (entV x t))] (.v (.bool true)) := by
 refine Fn.of Try.func4 rfl (by kernel_rfl) Try.ntmps4 (by simp) (fun w => [(0, .v (aggV (entV x t)))]) (fun w => (Start.v rfl Start.nil)) fun w₀ => ?_
 refine GS ?_
 refine TN 0 ?_
 refine RN ?_
 refine ⟨_, _, eff_box (n := 49) (d := 1) (k := 1000001) rfl (by decide), fun b1 hb1 => ?_⟩
 have hBb1 := hb1.1
 refine TL ?_
 refine RA rfl ?_
 refine RN ?_
 refine GS ?_
 refine TL ?_
 refine RS (ok_loadA (s := 1000001) (by decide) Try.underlying43 rfl (size43.of (ent_len x ht)) rfl rfl) ?_
 refine RS (ok_call (refCheckE_fn x t ht) (A1 rfl)) ?_; refine RZ (.int .i64 0) (congrArg (Value.int .i64) (ckE_ok hb)) ?_
 refine RA rfl ?_
 refine RN ?_
 refine GS ?_
 refine TN 1 ?_
 refine RS (ok_loadA (s := 1000001) (by decide) Try.underlying43 rfl (size43.of (ent_len x ht)) rfl rfl) ?_
 refine RN ?_
 refine ⟨_, _, eff_name (n := 49) (d := 12) (k := 1000012) rfl rfl (fun B' => ok_callB (PutEntry_okB x t ht hb) newD_mono (A1 rfl)) (by decide) (by decide), fun b12 hb12 => ?_⟩
 have hBb12 := hb12.1
 have hlt_b1_b12 : b1 < b12 := hb12.2 1000001 _ _ _ rfl
 refine TL ?_
 refine RM rfl ?_
 refine RS (ok_extractV rfl rfl) ?_
 refine RS (ok_extractV rfl rfl) ?_
 refine RA rfl ?_
 refine RA rfl ?_
 refine RN ?_
 refine A.seq ?_
 refine GS ?_
 refine TL ?_
 refine RS (ok_loadA (s := 1000001) (by decide) Try.underlying43 rfl (size43.of (ent_len x ht)) rfl rfl) ?_
 refine RS (ok_call (CheckE_fn x t ht) (A1 rfl)) ?_; refine RZ (.int .i64 0) (congrArg (Value.int .i64) (ckE_ok hb)) ?_
 refine RM rfl ?_
 refine RBS rfl rfl rfl (.bool false) (by rfl) ?_
 refine RN ?_
 refine A.no rfl ?_
 refine A.skip ?_
 refine EN ?_
 refine A.seq ?_
 refine GS ?_
 refine TL ?_
 refine RM rfl ?_
 refine RBS rfl rfl rfl (.bool false) (by rfl) ?_
 refine RN ?_
 refine A.no rfl ?_
 refine A.skip ?_
 refine EN ?_
 refine GS ?_
 refine TN 5 ?_
 refine RS (OpOk.fact (ok_move rfl) (d := byt (entL x t)) (s := 1000012) (by decide) rfl (slice_byt (entL x t) (entL_len x ht).symm (Nat.le_refl _) (by decide) (by rw [List.drop_zero, List.take_of_length_le (by rw [List.length_map, entL_len x ht]; exact Nat.le_refl _)]))) ?_
 refine RS (ok_call (GetEntry_put x t ht hb) (A1 rfl)) ?_
 refine RM rfl ?_
 refine RS (ok_extractV rfl rfl) ?_
 refine RS (ok_extractV rfl rfl) ?_
 refine RN ?_
 refine ⟨_, _, eff_alloc (n := 49) (d := 6) (k := 1000006) zero43 (by decide), fun b6 hb6 => ?_⟩
 have hBb6 := hb6.1
 have hlt_b1_b6 : b1 < b6 := hb6.2 1000001 _ _ _ rfl
 refine TF 6 ?_
 refine RN ?_
 refine ⟨_, eff_storeA (n := 49) (s := 1000006) (size43.of (ent_len x ht)) rfl rfl (ent_one x t) hBb6 rfl (by rw [ent_len x ht]; rfl) (LV 1 rfl (LV 4 rfl (LV 5 rfl (LV 6 rfl (LV 31 rfl (LB 1000001 rfl (LT 1000012 rfl LN))))))), ?_⟩
 refine TL ?_
 refine RA rfl ?_
 refine RN ?_
 refine A.sub (KC 1 rfl (KC 4 rfl (KC 5 rfl (KC 6 rfl (KC 7 rfl (KC 1000001 rfl (KC 1000006 rfl (KC 1000012 rfl KN)))))))) ?_
 refine GS ?_
 refine TL ?_
 refine RS (OpOk.fact (ok_move rfl) (d := bytes (entL x t) 33) (s := 1000012) (by decide) rfl (slice_bytes (entL x t) (entL_len x ht).symm (Nat.le_refl _) (by decide) (by rw [List.drop_zero, List.take_of_length_le (by rw [List.length_map, entL_len x ht]; exact Nat.le_refl _)]))) ?_
 refine RM rfl ?_
 refine RS (ok_loadA (s := 1000001) (by decide) Try.underlying43 rfl (size43.of (ent_len x ht)) rfl rfl) ?_
 refine RS (ok_call (refEntry_fn x t ht) (A1 rfl)) ?_
 refine RS (ok_call (same10_fn (entL x t) 33 0 (entL_len x ht)) (Args.cons rfl (Le.refl _) (A3 rfl rfl rfl))) ?_
 refine RM rfl ?_
 refine RQ (ok_loadA (s := 1000006) (by decide) Try.underlying43 rfl (size43.of (ent_len x ht)) rfl rfl) ?_
 refine RQ (ok_loadA (s := 1000001) (by decide) Try.underlying43 rfl (size43.of (ent_len x ht)) rfl rfl) ?_
 refine RQ (ok_eqlT (n := 4) true flat43 (by decide) (by kernel_rfl) (by kernel_rfl) rfl rfl (kinEnt x ht) (kinEnt x ht) ⟨fun _ => rfl, fun _ => rfl⟩) ?_
 refine RP rfl rfl ?_
 refine RM rfl ?_
 refine RQ (ok_move rfl) ?_
 refine RQ (ok_bin rfl rfl rfl) ?_; refine RZ (.bool true) (by rfl) ?_
 refine RP rfl rfl ?_
 refine RM rfl ?_
 refine RQ (ok_call lives10_fn Args.nil) ?_
 refine RP rfl rfl ?_
 refine RA rfl ?_
 refine RN ?_
 refine A.ret ?_
 exact End.ret1 rfl rfl (by first | exact Le.refl _ | exact Le.old _ _)
theorem RecordsEntry_fn (x : UInt8) (t : List UInt8) (ht : t.length = 32) : Fn Try.prog 4 [.v (aggV (entV x t))] (.v (.bool true)) := by
 by_cases hb : BadE x t
 ·exact RecordsEntry_bad x t ht hb
 ·exact RecordsEntry_ok x t ht hb
set_option maxHeartbeats 1000000 in
theorem RecordsCell_fn (t : List UInt8) (ht : t.length = 32) (e m : Nat) (he : e < 18446744073709551616) (hm : m < 18446744073709551616)  : Fn Try.prog 5 [.v (aggV (celV t e m))] (.v (.bool true)) := by
 refine Fn.of Try.func5 rfl (by kernel_rfl) Try.ntmps5 (by simp) (fun w => [(0, .v (aggV (celV t e m)))]) (fun w => (Start.v rfl Start.nil)) fun w₀ => ?_
 refine GS ?_
 refine TN 0 ?_
 refine RN ?_
 refine ⟨_, _, eff_box (n := 29) (d := 1) (k := 1000001) rfl (by decide), fun b1 hb1 => ?_⟩
 have hBb1 := hb1.1
 refine TL ?_
 refine RA rfl ?_
 refine RN ?_
 refine GS ?_
 refine TN 1 ?_
 refine RS (ok_loadA (s := 1000001) (by decide) Try.underlying52 rfl (size52.of (cel_len ht e m)) rfl rfl) ?_
 refine RN ?_
 refine ⟨_, _, eff_nameF (c := 48) (by rw [List.length_map, celL_len ht e m]) (n := 29) (d := 7) (k := 1000007) rfl rfl (fun B' => ok_callB (PutCell_fnB t ht e m he hm) (fun _ _ => fresh_mono _ _) (A1 rfl)) (by decide) (by decide), fun b7 hb7 => ?_⟩
 have hBb7 := hb7.1
 have hlt_b1_b7 : b1 < b7 := hb7.2 1000001 _ _ _ rfl
 refine TL ?_
 refine RA rfl ?_
 refine RN ?_
 refine GS ?_
 refine TN 5 ?_
 refine RS (OpOk.fact (ok_move rfl) (d := byt (celL t e m)) (s := 1000007) (by decide) rfl (slice_byt (celL t e m) (celL_len ht e m).symm (Nat.le_refl _) (by decide) (by rw [List.drop_zero, List.take_of_length_le (by rw [List.length_map, celL_len ht e m]; exact Nat.le_refl _)]))) ?_
 refine RS (ok_call (GetCell_put t ht e m he hm) (A1 rfl)) ?_
 refine RM rfl ?_
 refine RS (ok_extractV rfl rfl) ?_
 refine RS (ok_extractV rfl rfl) ?_
 refine RN ?_
 refine ⟨_, _, eff_alloc (n := 29) (d := 4) (k := 1000004) zero52 (by decide), fun b4 hb4 => ?_⟩
 have hBb4 := hb4.1
 have hlt_b1_b4 : b1 < b4 := hb4.2 1000001 _ _ _ rfl
 refine TF 6 ?_
 refine RN ?_
 refine ⟨_, eff_storeA (n := 29) (s := 1000004) (size52.of (cel_len ht e m)) rfl rfl (cel_one t e m) hBb4 rfl (by rw [cel_len ht e m]; rfl) (LV 1 rfl (LV 3 rfl (LV 4 rfl (LV 12 rfl (LB 1000001 rfl (LT 1000007 rfl LN)))))), ?_⟩
 refine TL ?_
 refine RA rfl ?_
 refine RN ?_
 refine GS ?_
 refine TL ?_
 refine RS (OpOk.fact (ok_move rfl) (d := bytes (celL t e m) 48) (s := 1000007) (by decide) rfl (slice_bytes (celL t e m) (celL_len ht e m).symm (Nat.le_refl _) (by decide) (by rw [List.drop_zero, List.take_of_length_le (by rw [List.length_map, celL_len ht e m]; exact Nat.le_refl _)]))) ?_
 refine RS (ok_loadA (s := 1000001) (by decide) Try.underlying52 rfl (size52.of (cel_len ht e m)) rfl rfl) ?_
 refine RS (ok_call (refCell_fn t ht e m he hm) (A1 rfl)) ?_
 refine RS (ok_call (same10_fn (celL t e m) 48 0 (celL_len ht e m)) (Args.cons rfl (Le.refl _) (A3 rfl rfl rfl))) ?_
 refine RM rfl ?_
 refine RQ (ok_loadA (s := 1000004) (by decide) Try.underlying52 rfl (size52.of (cel_len ht e m)) rfl rfl) ?_
 refine RQ (ok_loadA (s := 1000001) (by decide) Try.underlying52 rfl (size52.of (cel_len ht e m)) rfl rfl) ?_
 refine RQ (ok_eqlT (n := 4) true flat52 (by decide) (by kernel_rfl) (by kernel_rfl) rfl rfl (kinCel ht e m) (kinCel ht e m) ⟨fun _ => rfl, fun _ => rfl⟩) ?_
 refine RP rfl rfl ?_
 refine RM rfl ?_
 refine RQ (ok_move rfl) ?_
 refine RQ (ok_bin rfl rfl rfl) ?_; refine RZ (.bool true) (by rfl) ?_
 refine RP rfl rfl ?_
 refine RM rfl ?_
 refine RQ (ok_call lives10_fn Args.nil) ?_
 refine RP rfl rfl ?_
 refine RA rfl ?_
 refine RN ?_
 refine A.sub (KC 2 rfl (KC 1000001 rfl (KC 1000004 rfl (KC 1000007 rfl KN)))) ?_
 refine A.ret ?_
 exact End.ret1 rfl rfl (by first | exact Le.refl _ | exact Le.old _ _)
theorem rsl_00 (x : UInt8) (n : Int) (hx : x.toNat = 0) (hn : n < 0) : Fn Try.prog 7 [.v (byteV x), .v (.int .i64 n)] (.v (.bool true)) := by
 refine Fn.of Try.func7 rfl (by kernel_rfl) Try.ntmps7 (by simp) (fun w => [(0, .v (byteV x)), (1, .v (.int .i64 n))]) (fun w => (Start.v rfl (Start.v rfl Start.nil))) fun w₀ => ?_
 refine GS ?_
 refine TL ?_
 refine RA rfl ?_
 refine RN ?_
 refine GS ?_
 refine TL ?_
 refine RM rfl ?_
 refine RS (ok_call (Slot_none x hx) (A1 rfl)) ?_
 refine RM rfl ?_
 refine RS (ok_extractV rfl rfl) ?_
 refine RS (ok_extractV rfl rfl) ?_
 refine RA rfl ?_
 refine RA rfl ?_
 refine RN ?_
 refine GS ?_
 refine TL ?_
 refine RM rfl ?_
 refine RS (ok_call (State_neg n hn) (A1 rfl)) ?_
 refine RM rfl ?_
 refine RS (ok_extractV rfl rfl) ?_
 refine RS (ok_extractV rfl rfl) ?_
 refine RA rfl ?_
 refine RA rfl ?_
 refine RN ?_
 refine A.seq ?_
 refine A.block ?_
 refine GS ?_
 refine TL ?_
 refine RM rfl ?_
 refine RBS rfl rfl rfl (.bool true) (by simp [hx]) ?_
 refine RA rfl ?_
 refine RN ?_
 refine A.yes rfl ?_
 refine GS ?_
 refine TL ?_
 refine RM rfl ?_
 refine RBS rfl rfl rfl (.bool false) (by rfl) ?_
 refine RM rfl ?_
 refine RQ (ok_move rfl) ?_
 refine RQ (ok_bin rfl rfl rfl) ?_; refine RZ (.bool false) (by rfl) ?_
 refine RP rfl rfl ?_
 refine RN ?_
 refine A.no rfl ?_
 refine A.skip ?_
 refine End.normal_block ?_
 refine EN ?_
 refine A.seq ?_
 refine GS ?_
 refine TL ?_
 refine RM rfl ?_
 refine RBS rfl rfl rfl (.bool true) (by simp; omega) ?_
 refine RM rfl ?_
 refine RK ?_
 refine RK ?_
 refine RP rfl rfl ?_
 refine RN ?_
 refine A.sub (KC 1 rfl (KC 7 rfl (KC 8 rfl (KC 69 rfl KN)))) ?_
 refine A.yes rfl ?_
 refine GS ?_
 refine TL ?_
 refine RM rfl ?_
 refine RBS rfl rfl rfl (.bool true) (by rfl) ?_
 refine RM rfl ?_
 refine RQ (ok_move rfl) ?_
 refine RQ (ok_bin rfl rfl rfl) ?_; refine RZ (.bool true) (by rfl) ?_
 refine RP rfl rfl ?_
 refine RM rfl ?_
 refine RQ (ok_call lives10_fn Args.nil) ?_
 refine RP rfl rfl ?_
 refine RA rfl ?_
 refine RN ?_
 refine A.ret ?_
 refine End.ret_then ?_
 exact End.ret1 rfl rfl (by first | exact Le.refl _ | exact Le.old _ _)
theorem rsl_01 (x : UInt8) (n : Int) (hx : x.toNat = 0) (hn : 1 < n) : Fn Try.prog 7 [.v (byteV x), .v (.int .i64 n)] (.v (.bool true)) := by
 refine Fn.of Try.func7 rfl (by kernel_rfl) Try.ntmps7 (by simp) (fun w => [(0, .v (byteV x)), (1, .v (.int .i64 n))]) (fun w => (Start.v rfl (Start.v rfl Start.nil))) fun w₀ => ?_
 refine GS ?_
 refine TL ?_
 refine RA rfl ?_
 refine RN ?_
 refine GS ?_
 refine TL ?_
 refine RM rfl ?_
 refine RS (ok_call (Slot_none x hx) (A1 rfl)) ?_
 refine RM rfl ?_
 refine RS (ok_extractV rfl rfl) ?_
 refine RS (ok_extractV rfl rfl) ?_
 refine RA rfl ?_
 refine RA rfl ?_
 refine RN ?_
 refine GS ?_
 refine TL ?_
 refine RM rfl ?_
 refine RS (ok_call (State_big n hn) (A1 rfl)) ?_
 refine RM rfl ?_
 refine RS (ok_extractV rfl rfl) ?_
 refine RS (ok_extractV rfl rfl) ?_
 refine RA rfl ?_
 refine RA rfl ?_
 refine RN ?_
 refine A.seq ?_
 refine A.block ?_
 refine GS ?_
 refine TL ?_
 refine RM rfl ?_
 refine RBS rfl rfl rfl (.bool true) (by simp [hx]) ?_
 refine RA rfl ?_
 refine RN ?_
 refine A.yes rfl ?_
 refine GS ?_
 refine TL ?_
 refine RM rfl ?_
 refine RBS rfl rfl rfl (.bool false) (by rfl) ?_
 refine RM rfl ?_
 refine RQ (ok_move rfl) ?_
 refine RQ (ok_bin rfl rfl rfl) ?_; refine RZ (.bool false) (by rfl) ?_
 refine RP rfl rfl ?_
 refine RN ?_
 refine A.no rfl ?_
 refine A.skip ?_
 refine End.normal_block ?_
 refine EN ?_
 refine A.seq ?_
 refine GS ?_
 refine TL ?_
 refine RM rfl ?_
 refine RBS rfl rfl rfl (.bool false) (by simp; omega) ?_
 refine RM rfl ?_
 refine RQ (ok_move rfl) ?_
 refine RQ (ok_bin rfl rfl rfl) ?_; refine RZ (.bool true) (by simp; omega) ?_
 refine RP rfl rfl ?_
 refine RN ?_
 refine A.sub (KC 1 rfl (KC 7 rfl (KC 8 rfl (KC 69 rfl KN)))) ?_
 refine A.yes rfl ?_
 refine GS ?_
 refine TL ?_
 refine RM rfl ?_
 refine RBS rfl rfl rfl (.bool true) (by rfl) ?_
 refine RM rfl ?_
 refine RQ (ok_move rfl) ?_
 refine RQ (ok_bin rfl rfl rfl) ?_; refine RZ (.bool true) (by rfl) ?_
 refine RP rfl rfl ?_
 refine RM rfl ?_
 refine RQ (ok_call lives10_fn Args.nil) ?_
 refine RP rfl rfl ?_
 refine RA rfl ?_
 refine RN ?_
 refine A.ret ?_
 refine End.ret_then ?_
 exact End.ret1 rfl rfl (by first | exact Le.refl _ | exact Le.old _ _)
theorem rsl_02 (x : UInt8) (n : Int) (hx : x.toNat = 0) (y : UInt8) (hn : 0 ≤ n) (hn2 : n ≤ 1) (hy : ((y.toNat : Nat) : Int) = n + 1) : Fn Try.prog 7 [.v (byteV x), .v (.int .i64 n)] (.v (.bool true)) := by
 refine Fn.of Try.func7 rfl (by kernel_rfl) Try.ntmps7 (by simp) (fun w => [(0, .v (byteV x)), (1, .v (.int .i64 n))]) (fun w => (Start.v rfl (Start.v rfl Start.nil))) fun w₀ => ?_
 refine GS ?_
 refine TL ?_
 refine RA rfl ?_
 refine RN ?_
 refine GS ?_
 refine TL ?_
 refine RM rfl ?_
 refine RS (ok_call (Slot_none x hx) (A1 rfl)) ?_
 refine RM rfl ?_
 refine RS (ok_extractV rfl rfl) ?_
 refine RS (ok_extractV rfl rfl) ?_
 refine RA rfl ?_
 refine RA rfl ?_
 refine RN ?_
 refine GS ?_
 refine TL ?_
 refine RM rfl ?_
 refine RS (ok_call (State_ok n y hn hn2 hy) (A1 rfl)) ?_
 refine RM rfl ?_
 refine RS (ok_extractV rfl rfl) ?_
 refine RS (ok_extractV rfl rfl) ?_
 refine RA rfl ?_
 refine RA rfl ?_
 refine RN ?_
 refine A.seq ?_
 refine A.block ?_
 refine GS ?_
 refine TL ?_
 refine RM rfl ?_
 refine RBS rfl rfl rfl (.bool true) (by simp [hx]) ?_
 refine RA rfl ?_
 refine RN ?_
 refine A.yes rfl ?_
 refine GS ?_
 refine TL ?_
 refine RM rfl ?_
 refine RBS rfl rfl rfl (.bool false) (by rfl) ?_
 refine RM rfl ?_
 refine RQ (ok_move rfl) ?_
 refine RQ (ok_bin rfl rfl rfl) ?_; refine RZ (.bool false) (by rfl) ?_
 refine RP rfl rfl ?_
 refine RN ?_
 refine A.no rfl ?_
 refine A.skip ?_
 refine End.normal_block ?_
 refine EN ?_
 refine A.seq ?_
 refine GS ?_
 refine TL ?_
 refine RM rfl ?_
 refine RBS rfl rfl rfl (.bool false) (by simp; omega) ?_
 refine RM rfl ?_
 refine RQ (ok_move rfl) ?_
 refine RQ (ok_bin rfl rfl rfl) ?_; refine RZ (.bool false) (by simp; omega) ?_
 refine RP rfl rfl ?_
 refine RN ?_
 refine A.sub (KC 1 rfl (KC 7 rfl (KC 8 rfl (KC 69 rfl KN)))) ?_
 refine A.no rfl ?_
 refine A.skip ?_
 refine EN ?_
 refine GS ?_
 refine TL ?_
 refine RM rfl ?_
 refine RS (ok_call (Slot_ok y (by omega) (by omega)) (A1 rfl)) ?_
 refine RM rfl ?_
 refine RS (ok_extractV rfl rfl) ?_
 refine RS (ok_extractV rfl rfl) ?_
 refine RA rfl ?_
 refine RA rfl ?_
 refine RN ?_
 refine GS ?_
 refine TL ?_
 refine RM rfl ?_
 refine RBS rfl rfl rfl (.bool true) (by rfl) ?_
 refine RM rfl ?_
 refine RQ (ok_move rfl) ?_
 refine RQ (ok_move rfl) ?_
 refine RQ (ok_bin rfl rfl rfl) ?_; refine RZ (.bool true) (by simp; omega) ?_
 refine RP rfl rfl ?_
 refine RM rfl ?_
 refine RQ (ok_move rfl) ?_
 refine RQ (ok_bin rfl rfl rfl) ?_; refine RZ (.bool true) (by rfl) ?_
 refine RP rfl rfl ?_
 refine RM rfl ?_
 refine RQ (ok_call lives10_fn Args.nil) ?_
 refine RP rfl rfl ?_
 refine RA rfl ?_
 refine RN ?_
 refine A.ret ?_
 exact End.ret1 rfl rfl (by first | exact Le.refl _ | exact Le.old _ _)
theorem rsl_10 (x : UInt8) (n : Int) (hx : 2 < x.toNat) (hn : n < 0) : Fn Try.prog 7 [.v (byteV x), .v (.int .i64 n)] (.v (.bool true)) := by
 refine Fn.of Try.func7 rfl (by kernel_rfl) Try.ntmps7 (by simp) (fun w => [(0, .v (byteV x)), (1, .v (.int .i64 n))]) (fun w => (Start.v rfl (Start.v rfl Start.nil))) fun w₀ => ?_
 refine GS ?_
 refine TL ?_
 refine RA rfl ?_
 refine RN ?_
 refine GS ?_
 refine TL ?_
 refine RM rfl ?_
 refine RS (ok_call (Slot_big x hx) (A1 rfl)) ?_
 refine RM rfl ?_
 refine RS (ok_extractV rfl rfl) ?_
 refine RS (ok_extractV rfl rfl) ?_
 refine RA rfl ?_
 refine RA rfl ?_
 refine RN ?_
 refine GS ?_
 refine TL ?_
 refine RM rfl ?_
 refine RS (ok_call (State_neg n hn) (A1 rfl)) ?_
 refine RM rfl ?_
 refine RS (ok_extractV rfl rfl) ?_
 refine RS (ok_extractV rfl rfl) ?_
 refine RA rfl ?_
 refine RA rfl ?_
 refine RN ?_
 refine A.seq ?_
 refine A.block ?_
 refine GS ?_
 refine TL ?_
 refine RM rfl ?_
 refine RBS rfl rfl rfl (.bool false) (by simp; omega) ?_
 refine RA rfl ?_
 refine RN ?_
 refine A.no rfl ?_
 refine GS ?_
 refine TL ?_
 refine RM rfl ?_
 refine RBS rfl rfl rfl (.bool true) (by simp; omega) ?_
 refine RA rfl ?_
 refine RN ?_
 refine A.yes rfl ?_
 refine GS ?_
 refine TL ?_
 refine RM rfl ?_
 refine RBS rfl rfl rfl (.bool false) (by rfl) ?_
 refine RM rfl ?_
 refine RQ (ok_move rfl) ?_
 refine RQ (ok_bin rfl rfl rfl) ?_; refine RZ (.bool false) (by rfl) ?_
 refine RP rfl rfl ?_
 refine RN ?_
 refine A.sub (KC 1 rfl (KC 7 rfl (KC 8 rfl (KC 63 rfl KN)))) ?_
 refine A.no rfl ?_
 refine A.skip ?_
 refine End.normal_block ?_
 refine EN ?_
 refine A.seq ?_
 refine GS ?_
 refine TL ?_
 refine RM rfl ?_
 refine RBS rfl rfl rfl (.bool true) (by simp; omega) ?_
 refine RM rfl ?_
 refine RK ?_
 refine RK ?_
 refine RP rfl rfl ?_
 refine RN ?_
 refine A.yes rfl ?_
 refine GS ?_
 refine TL ?_
 refine RM rfl ?_
 refine RBS rfl rfl rfl (.bool true) (by rfl) ?_
 refine RM rfl ?_
 refine RQ (ok_move rfl) ?_
 refine RQ (ok_bin rfl rfl rfl) ?_; refine RZ (.bool true) (by rfl) ?_
 refine RP rfl rfl ?_
 refine RM rfl ?_
 refine RQ (ok_call lives10_fn Args.nil) ?_
 refine RP rfl rfl ?_
 refine RA rfl ?_
 refine RN ?_
 refine A.ret ?_
 refine End.ret_then ?_
 exact End.ret1 rfl rfl (by first | exact Le.refl _ | exact Le.old _ _)
theorem rsl_11 (x : UInt8) (n : Int) (hx : 2 < x.toNat) (hn : 1 < n) : Fn Try.prog 7 [.v (byteV x), .v (.int .i64 n)] (.v (.bool true)) := by
 refine Fn.of Try.func7 rfl (by kernel_rfl) Try.ntmps7 (by simp) (fun w => [(0, .v (byteV x)), (1, .v (.int .i64 n))]) (fun w => (Start.v rfl (Start.v rfl Start.nil))) fun w₀ => ?_
 refine GS ?_
 refine TL ?_
 refine RA rfl ?_
 refine RN ?_
 refine GS ?_
 refine TL ?_
 refine RM rfl ?_
 refine RS (ok_call (Slot_big x hx) (A1 rfl)) ?_
 refine RM rfl ?_
 refine RS (ok_extractV rfl rfl) ?_
 refine RS (ok_extractV rfl rfl) ?_
 refine RA rfl ?_
 refine RA rfl ?_
 refine RN ?_
 refine GS ?_
 refine TL ?_
 refine RM rfl ?_
 refine RS (ok_call (State_big n hn) (A1 rfl)) ?_
 refine RM rfl ?_
 refine RS (ok_extractV rfl rfl) ?_
 refine RS (ok_extractV rfl rfl) ?_
 refine RA rfl ?_
 refine RA rfl ?_
 refine RN ?_
 refine A.seq ?_
 refine A.block ?_
 refine GS ?_
 refine TL ?_
 refine RM rfl ?_
 refine RBS rfl rfl rfl (.bool false) (by simp; omega) ?_
 refine RA rfl ?_
 refine RN ?_
 refine A.no rfl ?_
 refine GS ?_
 refine TL ?_
 refine RM rfl ?_
 refine RBS rfl rfl rfl (.bool true) (by simp; omega) ?_
 refine RA rfl ?_
 refine RN ?_
 refine A.yes rfl ?_
 refine GS ?_
 refine TL ?_
 refine RM rfl ?_
 refine RBS rfl rfl rfl (.bool false) (by rfl) ?_
 refine RM rfl ?_
 refine RQ (ok_move rfl) ?_
 refine RQ (ok_bin rfl rfl rfl) ?_; refine RZ (.bool false) (by rfl) ?_
 refine RP rfl rfl ?_
 refine RN ?_
 refine A.sub (KC 1 rfl (KC 7 rfl (KC 8 rfl (KC 63 rfl KN)))) ?_
 refine A.no rfl ?_
 refine A.skip ?_
 refine End.normal_block ?_
 refine EN ?_
 refine A.seq ?_
 refine GS ?_
 refine TL ?_
 refine RM rfl ?_
 refine RBS rfl rfl rfl (.bool false) (by simp; omega) ?_
 refine RM rfl ?_
 refine RQ (ok_move rfl) ?_
 refine RQ (ok_bin rfl rfl rfl) ?_; refine RZ (.bool true) (by simp; omega) ?_
 refine RP rfl rfl ?_
 refine RN ?_
 refine A.yes rfl ?_
 refine GS ?_
 refine TL ?_
 refine RM rfl ?_
 refine RBS rfl rfl rfl (.bool true) (by rfl) ?_
 refine RM rfl ?_
 refine RQ (ok_move rfl) ?_
 refine RQ (ok_bin rfl rfl rfl) ?_; refine RZ (.bool true) (by rfl) ?_
 refine RP rfl rfl ?_
 refine RM rfl ?_
 refine RQ (ok_call lives10_fn Args.nil) ?_
 refine RP rfl rfl ?_
 refine RA rfl ?_
 refine RN ?_
 refine A.ret ?_
 refine End.ret_then ?_
 exact End.ret1 rfl rfl (by first | exact Le.refl _ | exact Le.old _ _)
theorem rsl_12 (x : UInt8) (n : Int) (hx : 2 < x.toNat) (y : UInt8) (hn : 0 ≤ n) (hn2 : n ≤ 1) (hy : ((y.toNat : Nat) : Int) = n + 1) : Fn Try.prog 7 [.v (byteV x), .v (.int .i64 n)] (.v (.bool true)) := by
 refine Fn.of Try.func7 rfl (by kernel_rfl) Try.ntmps7 (by simp) (fun w => [(0, .v (byteV x)), (1, .v (.int .i64 n))]) (fun w => (Start.v rfl (Start.v rfl Start.nil))) fun w₀ => ?_
 refine GS ?_
 refine TL ?_
 refine RA rfl ?_
 refine RN ?_
 refine GS ?_
 refine TL ?_
 refine RM rfl ?_
 refine RS (ok_call (Slot_big x hx) (A1 rfl)) ?_
 refine RM rfl ?_
 refine RS (ok_extractV rfl rfl) ?_
 refine RS (ok_extractV rfl rfl) ?_
 refine RA rfl ?_
 refine RA rfl ?_
 refine RN ?_
 refine GS ?_
 refine TL ?_
 refine RM rfl ?_
 refine RS (ok_call (State_ok n y hn hn2 hy) (A1 rfl)) ?_
 refine RM rfl ?_
 refine RS (ok_extractV rfl rfl) ?_
 refine RS (ok_extractV rfl rfl) ?_
 refine RA rfl ?_
 refine RA rfl ?_
 refine RN ?_
 refine A.seq ?_
 refine A.block ?_
 refine GS ?_
 refine TL ?_
 refine RM rfl ?_
 refine RBS rfl rfl rfl (.bool false) (by simp; omega) ?_
 refine RA rfl ?_
 refine RN ?_
 refine A.no rfl ?_
 refine GS ?_
 refine TL ?_
 refine RM rfl ?_
 refine RBS rfl rfl rfl (.bool true) (by simp; omega) ?_
 refine RA rfl ?_
 refine RN ?_
 refine A.yes rfl ?_
 refine GS ?_
 refine TL ?_
 refine RM rfl ?_
 refine RBS rfl rfl rfl (.bool false) (by rfl) ?_
 refine RM rfl ?_
 refine RQ (ok_move rfl) ?_
 refine RQ (ok_bin rfl rfl rfl) ?_; refine RZ (.bool false) (by rfl) ?_
 refine RP rfl rfl ?_
 refine RN ?_
 refine A.sub (KC 1 rfl (KC 7 rfl (KC 8 rfl (KC 63 rfl KN)))) ?_
 refine A.no rfl ?_
 refine A.skip ?_
 refine End.normal_block ?_
 refine EN ?_
 refine A.seq ?_
 refine GS ?_
 refine TL ?_
 refine RM rfl ?_
 refine RBS rfl rfl rfl (.bool false) (by simp; omega) ?_
 refine RM rfl ?_
 refine RQ (ok_move rfl) ?_
 refine RQ (ok_bin rfl rfl rfl) ?_; refine RZ (.bool false) (by simp; omega) ?_
 refine RP rfl rfl ?_
 refine RN ?_
 refine A.no rfl ?_
 refine A.skip ?_
 refine EN ?_
 refine GS ?_
 refine TL ?_
 refine RM rfl ?_
 refine RS (ok_call (Slot_ok y (by omega) (by omega)) (A1 rfl)) ?_
 refine RM rfl ?_
 refine RS (ok_extractV rfl rfl) ?_
 refine RS (ok_extractV rfl rfl) ?_
 refine RA rfl ?_
 refine RA rfl ?_
 refine RN ?_
 refine GS ?_
 refine TL ?_
 refine RM rfl ?_
 refine RBS rfl rfl rfl (.bool true) (by rfl) ?_
 refine RM rfl ?_
 refine RQ (ok_move rfl) ?_
 refine RQ (ok_move rfl) ?_
 refine RQ (ok_bin rfl rfl rfl) ?_; refine RZ (.bool true) (by simp; omega) ?_
 refine RP rfl rfl ?_
 refine RM rfl ?_
 refine RQ (ok_move rfl) ?_
 refine RQ (ok_bin rfl rfl rfl) ?_; refine RZ (.bool true) (by rfl) ?_
 refine RP rfl rfl ?_
 refine RM rfl ?_
 refine RQ (ok_call lives10_fn Args.nil) ?_
 refine RP rfl rfl ?_
 refine RA rfl ?_
 refine RN ?_
 refine A.sub (KC 4 rfl KN) ?_
 refine A.ret ?_
 exact End.ret1 rfl rfl (by first | exact Le.refl _ | exact Le.old _ _)
theorem rsl_20 (x : UInt8) (n : Int) (hx : 1 ≤ x.toNat) (hx2 : x.toNat ≤ 2) (hn : n < 0) : Fn Try.prog 7 [.v (byteV x), .v (.int .i64 n)] (.v (.bool true)) := by
 refine Fn.of Try.func7 rfl (by kernel_rfl) Try.ntmps7 (by simp) (fun w => [(0, .v (byteV x)), (1, .v (.int .i64 n))]) (fun w => (Start.v rfl (Start.v rfl Start.nil))) fun w₀ => ?_
 refine GS ?_
 refine TL ?_
 refine RA rfl ?_
 refine RN ?_
 refine GS ?_
 refine TL ?_
 refine RM rfl ?_
 refine RS (ok_call (Slot_ok x hx hx2) (A1 rfl)) ?_
 refine RM rfl ?_
 refine RS (ok_extractV rfl rfl) ?_
 refine RS (ok_extractV rfl rfl) ?_
 refine RA rfl ?_
 refine RA rfl ?_
 refine RN ?_
 refine GS ?_
 refine TL ?_
 refine RM rfl ?_
 refine RS (ok_call (State_neg n hn) (A1 rfl)) ?_
 refine RM rfl ?_
 refine RS (ok_extractV rfl rfl) ?_
 refine RS (ok_extractV rfl rfl) ?_
 refine RA rfl ?_
 refine RA rfl ?_
 refine RN ?_
 refine A.seq ?_
 refine A.block ?_
 refine GS ?_
 refine TL ?_
 refine RM rfl ?_
 refine RBS rfl rfl rfl (.bool false) (by simp; omega) ?_
 refine RA rfl ?_
 refine RN ?_
 refine A.no rfl ?_
 refine GS ?_
 refine TL ?_
 refine RM rfl ?_
 refine RBS rfl rfl rfl (.bool false) (by simp; omega) ?_
 refine RA rfl ?_
 refine RN ?_
 refine A.no rfl ?_
 refine GS ?_
 refine TL ?_
 refine RM rfl ?_
 refine RS (ok_call (State_ok ((x.toNat - 1 : Nat) : Int) x (by omega) (by omega) (by omega)) (A1 rfl)) ?_
 refine RM rfl ?_
 refine RS (ok_extractV rfl rfl) ?_
 refine RS (ok_extractV rfl rfl) ?_
 refine RA rfl ?_
 refine RA rfl ?_
 refine RN ?_
 refine A.sub (KC 0 rfl (KC 1 rfl (KC 5 rfl (KC 6 rfl (KC 7 rfl (KC 8 rfl (KC 9 rfl (KC 10 rfl KN)))))))) ?_
 refine GS ?_
 refine TL ?_
 refine RM rfl ?_
 refine RBS rfl rfl rfl (.bool false) (by rfl) ?_
 refine RM rfl ?_
 refine RQ (ok_move rfl) ?_
 refine RQ (ok_move rfl) ?_
 refine RQ (ok_conv Try.underlying5 Try.underlying3 rfl) ?_; refine RZ (nI (x.toNat)) (by rw [wrapN_i64 (by omega)]) ?_
 refine RQ (ok_bin rfl rfl rfl) ?_; refine RZ (nI (x.toNat - 1)) (by rw [wrap_i64 (by omega) (by omega)]; exact congrArg (Value.int .i64) (by omega)) ?_
 refine RQ (ok_bin rfl rfl rfl) ?_; refine RZ (.bool false) (by simp) ?_
 refine RP rfl rfl ?_
 refine RM rfl ?_
 refine RQ (ok_move rfl) ?_
 refine RQ (ok_move rfl) ?_
 refine RQ (ok_bin rfl rfl rfl) ?_; refine RZ (.bool false) (by simp) ?_
 refine RP rfl rfl ?_
 refine RM rfl ?_
 refine RQ (ok_move rfl) ?_
 refine RQ (ok_bin rfl rfl rfl) ?_; refine RZ (.bool false) (by rfl) ?_
 refine RP rfl rfl ?_
 refine RN ?_
 refine A.no rfl ?_
 refine A.skip ?_
 refine End.normal_block ?_
 refine EN ?_
 refine A.seq ?_
 refine GS ?_
 refine TL ?_
 refine RM rfl ?_
 refine RBS rfl rfl rfl (.bool true) (by simp; omega) ?_
 refine RM rfl ?_
 refine RK ?_
 refine RK ?_
 refine RP rfl rfl ?_
 refine RN ?_
 refine A.yes rfl ?_
 refine GS ?_
 refine TL ?_
 refine RM rfl ?_
 refine RBS rfl rfl rfl (.bool true) (by rfl) ?_
 refine RM rfl ?_
 refine RQ (ok_move rfl) ?_
 refine RQ (ok_bin rfl rfl rfl) ?_; refine RZ (.bool true) (by rfl) ?_
 refine RP rfl rfl ?_
 refine RM rfl ?_
 refine RQ (ok_call lives10_fn Args.nil) ?_
 refine RP rfl rfl ?_
 refine RA rfl ?_
 refine RN ?_
 refine A.sub (KC 4 rfl KN) ?_
 refine A.ret ?_
 refine End.ret_then ?_
 exact End.ret1 rfl rfl (by first | exact Le.refl _ | exact Le.old _ _)
theorem rsl_21 (x : UInt8) (n : Int) (hx : 1 ≤ x.toNat) (hx2 : x.toNat ≤ 2) (hn : 1 < n) : Fn Try.prog 7 [.v (byteV x), .v (.int .i64 n)] (.v (.bool true)) := by
 refine Fn.of Try.func7 rfl (by kernel_rfl) Try.ntmps7 (by simp) (fun w => [(0, .v (byteV x)), (1, .v (.int .i64 n))]) (fun w => (Start.v rfl (Start.v rfl Start.nil))) fun w₀ => ?_
 refine GS ?_
 refine TL ?_
 refine RA rfl ?_
 refine RN ?_
 refine GS ?_
 refine TL ?_
 refine RM rfl ?_
 refine RS (ok_call (Slot_ok x hx hx2) (A1 rfl)) ?_
 refine RM rfl ?_
 refine RS (ok_extractV rfl rfl) ?_
 refine RS (ok_extractV rfl rfl) ?_
 refine RA rfl ?_
 refine RA rfl ?_
 refine RN ?_
 refine GS ?_
 refine TL ?_
 refine RM rfl ?_
 refine RS (ok_call (State_big n hn) (A1 rfl)) ?_
 refine RM rfl ?_
 refine RS (ok_extractV rfl rfl) ?_
 refine RS (ok_extractV rfl rfl) ?_
 refine RA rfl ?_
 refine RA rfl ?_
 refine RN ?_
 refine A.seq ?_
 refine A.block ?_
 refine GS ?_
 refine TL ?_
 refine RM rfl ?_
 refine RBS rfl rfl rfl (.bool false) (by simp; omega) ?_
 refine RA rfl ?_
 refine RN ?_
 refine A.no rfl ?_
 refine GS ?_
 refine TL ?_
 refine RM rfl ?_
 refine RBS rfl rfl rfl (.bool false) (by simp; omega) ?_
 refine RA rfl ?_
 refine RN ?_
 refine A.no rfl ?_
 refine GS ?_
 refine TL ?_
 refine RM rfl ?_
 refine RS (ok_call (State_ok ((x.toNat - 1 : Nat) : Int) x (by omega) (by omega) (by omega)) (A1 rfl)) ?_
 refine RM rfl ?_
 refine RS (ok_extractV rfl rfl) ?_
 refine RS (ok_extractV rfl rfl) ?_
 refine RA rfl ?_
 refine RA rfl ?_
 refine RN ?_
 refine A.sub (KC 0 rfl (KC 1 rfl (KC 5 rfl (KC 6 rfl (KC 7 rfl (KC 8 rfl (KC 9 rfl (KC 10 rfl KN)))))))) ?_
 refine GS ?_
 refine TL ?_
 refine RM rfl ?_
 refine RBS rfl rfl rfl (.bool false) (by rfl) ?_
 refine RM rfl ?_
 refine RQ (ok_move rfl) ?_
 refine RQ (ok_move rfl) ?_
 refine RQ (ok_conv Try.underlying5 Try.underlying3 rfl) ?_; refine RZ (nI (x.toNat)) (by rw [wrapN_i64 (by omega)]) ?_
 refine RQ (ok_bin rfl rfl rfl) ?_; refine RZ (nI (x.toNat - 1)) (by rw [wrap_i64 (by omega) (by omega)]; exact congrArg (Value.int .i64) (by omega)) ?_
 refine RQ (ok_bin rfl rfl rfl) ?_; refine RZ (.bool false) (by simp) ?_
 refine RP rfl rfl ?_
 refine RM rfl ?_
 refine RQ (ok_move rfl) ?_
 refine RQ (ok_move rfl) ?_
 refine RQ (ok_bin rfl rfl rfl) ?_; refine RZ (.bool false) (by simp) ?_
 refine RP rfl rfl ?_
 refine RM rfl ?_
 refine RQ (ok_move rfl) ?_
 refine RQ (ok_bin rfl rfl rfl) ?_; refine RZ (.bool false) (by rfl) ?_
 refine RP rfl rfl ?_
 refine RN ?_
 refine A.no rfl ?_
 refine A.skip ?_
 refine End.normal_block ?_
 refine EN ?_
 refine A.seq ?_
 refine GS ?_
 refine TL ?_
 refine RM rfl ?_
 refine RBS rfl rfl rfl (.bool false) (by simp; omega) ?_
 refine RM rfl ?_
 refine RQ (ok_move rfl) ?_
 refine RQ (ok_bin rfl rfl rfl) ?_; refine RZ (.bool true) (by simp; omega) ?_
 refine RP rfl rfl ?_
 refine RN ?_
 refine A.yes rfl ?_
 refine GS ?_
 refine TL ?_
 refine RM rfl ?_
 refine RBS rfl rfl rfl (.bool true) (by rfl) ?_
 refine RM rfl ?_
 refine RQ (ok_move rfl) ?_
 refine RQ (ok_bin rfl rfl rfl) ?_; refine RZ (.bool true) (by rfl) ?_
 refine RP rfl rfl ?_
 refine RM rfl ?_
 refine RQ (ok_call lives10_fn Args.nil) ?_
 refine RP rfl rfl ?_
 refine RA rfl ?_
 refine RN ?_
 refine A.sub (KC 4 rfl KN) ?_
 refine A.ret ?_
 refine End.ret_then ?_
 exact End.ret1 rfl rfl (by first | exact Le.refl _ | exact Le.old _ _)
theorem rsl_22 (x : UInt8) (n : Int) (hx : 1 ≤ x.toNat) (hx2 : x.toNat ≤ 2) (y : UInt8) (hn : 0 ≤ n) (hn2 : n ≤ 1) (hy : ((y.toNat : Nat) : Int) = n + 1) : Fn Try.prog 7 [.v (byteV x), .v (.int .i64 n)] (.v (.bool true)) := by
 refine Fn.of Try.func7 rfl (by kernel_rfl) Try.ntmps7 (by simp) (fun w => [(0, .v (byteV x)), (1, .v (.int .i64 n))]) (fun w => (Start.v rfl (Start.v rfl Start.nil))) fun w₀ => ?_
 refine GS ?_
 refine TL ?_
 refine RA rfl ?_
 refine RN ?_
 refine GS ?_
 refine TL ?_
 refine RM rfl ?_
 refine RS (ok_call (Slot_ok x hx hx2) (A1 rfl)) ?_
 refine RM rfl ?_
 refine RS (ok_extractV rfl rfl) ?_
 refine RS (ok_extractV rfl rfl) ?_
 refine RA rfl ?_
 refine RA rfl ?_
 refine RN ?_
 refine GS ?_
 refine TL ?_
 refine RM rfl ?_
 refine RS (ok_call (State_ok n y hn hn2 hy) (A1 rfl)) ?_
 refine RM rfl ?_
 refine RS (ok_extractV rfl rfl) ?_
 refine RS (ok_extractV rfl rfl) ?_
 refine RA rfl ?_
 refine RA rfl ?_
 refine RN ?_
 refine A.seq ?_
 refine A.block ?_
 refine GS ?_
 refine TL ?_
 refine RM rfl ?_
 refine RBS rfl rfl rfl (.bool false) (by simp; omega) ?_
 refine RA rfl ?_
 refine RN ?_
 refine A.no rfl ?_
 refine GS ?_
 refine TL ?_
 refine RM rfl ?_
 refine RBS rfl rfl rfl (.bool false) (by simp; omega) ?_
 refine RA rfl ?_
 refine RN ?_
 refine A.no rfl ?_
 refine GS ?_
 refine TL ?_
 refine RM rfl ?_
 refine RS (ok_call (State_ok ((x.toNat - 1 : Nat) : Int) x (by omega) (by omega) (by omega)) (A1 rfl)) ?_
 refine RM rfl ?_
 refine RS (ok_extractV rfl rfl) ?_
 refine RS (ok_extractV rfl rfl) ?_
 refine RA rfl ?_
 refine RA rfl ?_
 refine RN ?_
 refine A.sub (KC 0 rfl (KC 1 rfl (KC 5 rfl (KC 6 rfl (KC 7 rfl (KC 8 rfl (KC 9 rfl (KC 10 rfl KN)))))))) ?_
 refine GS ?_
 refine TL ?_
 refine RM rfl ?_
 refine RBS rfl rfl rfl (.bool false) (by rfl) ?_
 refine RM rfl ?_
 refine RQ (ok_move rfl) ?_
 refine RQ (ok_move rfl) ?_
 refine RQ (ok_conv Try.underlying5 Try.underlying3 rfl) ?_; refine RZ (nI (x.toNat)) (by rw [wrapN_i64 (by omega)]) ?_
 refine RQ (ok_bin rfl rfl rfl) ?_; refine RZ (nI (x.toNat - 1)) (by rw [wrap_i64 (by omega) (by omega)]; exact congrArg (Value.int .i64) (by omega)) ?_
 refine RQ (ok_bin rfl rfl rfl) ?_; refine RZ (.bool false) (by simp) ?_
 refine RP rfl rfl ?_
 refine RM rfl ?_
 refine RQ (ok_move rfl) ?_
 refine RQ (ok_move rfl) ?_
 refine RQ (ok_bin rfl rfl rfl) ?_; refine RZ (.bool false) (by simp) ?_
 refine RP rfl rfl ?_
 refine RM rfl ?_
 refine RQ (ok_move rfl) ?_
 refine RQ (ok_bin rfl rfl rfl) ?_; refine RZ (.bool false) (by rfl) ?_
 refine RP rfl rfl ?_
 refine RN ?_
 refine A.no rfl ?_
 refine A.skip ?_
 refine End.normal_block ?_
 refine EN ?_
 refine A.seq ?_
 refine GS ?_
 refine TL ?_
 refine RM rfl ?_
 refine RBS rfl rfl rfl (.bool false) (by simp; omega) ?_
 refine RM rfl ?_
 refine RQ (ok_move rfl) ?_
 refine RQ (ok_bin rfl rfl rfl) ?_; refine RZ (.bool false) (by simp; omega) ?_
 refine RP rfl rfl ?_
 refine RN ?_
 refine A.no rfl ?_
 refine A.skip ?_
 refine EN ?_
 refine GS ?_
 refine TL ?_
 refine RM rfl ?_
 refine RS (ok_call (Slot_ok y (by omega) (by omega)) (A1 rfl)) ?_
 refine RM rfl ?_
 refine RS (ok_extractV rfl rfl) ?_
 refine RS (ok_extractV rfl rfl) ?_
 refine RA rfl ?_
 refine RA rfl ?_
 refine RN ?_
 refine A.sub (KC 1 rfl (KC 8 rfl (KC 11 rfl (KC 12 rfl KN)))) ?_
 refine GS ?_
 refine TL ?_
 refine RM rfl ?_
 refine RBS rfl rfl rfl (.bool true) (by rfl) ?_
 refine RM rfl ?_
 refine RQ (ok_move rfl) ?_
 refine RQ (ok_move rfl) ?_
 refine RQ (ok_bin rfl rfl rfl) ?_; refine RZ (.bool true) (by simp; omega) ?_
 refine RP rfl rfl ?_
 refine RM rfl ?_
 refine RQ (ok_move rfl) ?_
 refine RQ (ok_bin rfl rfl rfl) ?_; refine RZ (.bool true) (by rfl) ?_
 refine RP rfl rfl ?_
 refine RM rfl ?_
 refine RQ (ok_call lives10_fn Args.nil) ?_
 refine RP rfl rfl ?_
 refine RA rfl ?_
 refine RN ?_
 refine A.ret ?_
 exact End.ret1 rfl rfl (by first | exact Le.refl _ | exact Le.old _ _)
theorem RecordsSlots_fn (x : UInt8) (n : Int) : Fn Try.prog 7 [.v (byteV x), .v (.int .i64 n)] (.v (.bool true)) := by
 by_cases hn : n < 0
 ·by_cases h0 : x.toNat = 0
  ·exact rsl_00 x n h0 hn
  by_cases h1 : 2 < x.toNat
  ·exact rsl_10 x n h1 hn
  ·exact rsl_20 x n (by omega) (by omega) hn
 by_cases hn2 : 1 < n
 ·by_cases h0 : x.toNat = 0
  ·exact rsl_01 x n h0 hn2
  by_cases h1 : 2 < x.toNat
  ·exact rsl_11 x n h1 hn2
  ·exact rsl_21 x n (by omega) (by omega) hn2
 obtain ⟨y, hy⟩ : ∃ y : UInt8, ((y.toNat : Nat) : Int) = n + 1 := by
  by_cases h : n = 0
  ·exact ⟨1, by rw [h]; rfl⟩
  ·exact ⟨2, by rw [show n = 1 from by omega]; rfl⟩
 by_cases h0 : x.toNat = 0
 ·exact rsl_02 x n h0 y (by omega) (by omega) hy
 by_cases h1 : 2 < x.toNat
 ·exact rsl_12 x n h1 y (by omega) (by omega) hy
 ·exact rsl_22 x n (by omega) (by omega) y (by omega) (by omega) hy
end Go.Proofs.Ytbmpjeheaemgmaa
