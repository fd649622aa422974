/-
 The contracts of caissonref08 and of package nonces, part one: the bytes of nonces, their order, what makes an allocator valid.
-/
import Derived.Test.YtmedljdbamnoiaaShort
import Derived.Test.YtmedljdbamnoiaaC01d
import Derived.Test.YtmedljdbamnoiaaNonce
namespace Go.Proofs.Ytmedljdbamnoiaa
open Go Go.RowKit
set_option linter.unusedVariables false

theorem info23 : InfoIs Try.prog 23 (.int .u64 0) 8 := by unfold InfoIs; kernel_rfl
theorem info49 : InfoIs Try.prog 49 (.int .u16 0) 2 := by unfold InfoIs; kernel_rfl
theorem info34 : InfoIs Try.prog 34 (.slice none 0 0) 24 := by unfold InfoIs; kernel_rfl
theorem zero25 : ZeroIs Try.prog 25 ([.int .u32 0] ++ [.int .u64 0]) := by unfold ZeroIs; kernel_rfl
theorem size25 : SizeIs Try.prog 25 2 := by unfold SizeIs; kernel_rfl
theorem field25_0 : FieldIs Try.prog 25 0 0 1 := by unfold FieldIs; kernel_rfl
theorem field25_1 : FieldIs Try.prog 25 1 1 1 := by unfold FieldIs; kernel_rfl
theorem zero36 : ZeroIs Try.prog 36 ([.slice none 0 0] ++ [.int .u64 0] ++ [.int .u64 0] ++ [.int .u64 0]) := by unfold ZeroIs; kernel_rfl
theorem size36 : SizeIs Try.prog 36 4 := by unfold SizeIs; kernel_rfl
theorem field36_0 : FieldIs Try.prog 36 0 0 1 := by unfold FieldIs; kernel_rfl
theorem field36_1 : FieldIs Try.prog 36 1 1 1 := by unfold FieldIs; kernel_rfl
theorem field36_2 : FieldIs Try.prog 36 2 2 1 := by unfold FieldIs; kernel_rfl
theorem field36_3 : FieldIs Try.prog 36 3 3 1 := by unfold FieldIs; kernel_rfl
theorem size51 : SizeIs Try.prog 51 4 := by unfold SizeIs; kernel_rfl
theorem field51_0 : FieldIs Try.prog 51 0 0 1 := by unfold FieldIs; kernel_rfl
theorem field51_1 : FieldIs Try.prog 51 1 1 1 := by unfold FieldIs; kernel_rfl
theorem field51_2 : FieldIs Try.prog 51 2 2 1 := by unfold FieldIs; kernel_rfl
theorem field51_3 : FieldIs Try.prog 51 3 3 1 := by unfold FieldIs; kernel_rfl

theorem buildN (s c : Nat) : Try.prog.built 25 [(0, .int .u32 (s : Int)), (1, .int .u64 (c : Int))] = some ([nW s, nQ c] : List Value).toArray := by kernel_rfl
theorem buildN1 (c : Nat) : Try.prog.built 25 [(1, .int .u64 (c : Int))] = some ([.int .u32 0, .int .u64 (c : Int)] : List Value).toArray := by kernel_rfl
theorem buildN0 (s : Nat) : Try.prog.built 25 [(0, .int .u32 (s : Int))] = some ([.int .u32 (s : Int), .int .u64 0] : List Value).toArray := by kernel_rfl
theorem buildA (B' : Option Addr) (n c m l r : Nat) : Try.prog.built 36 [(0, .slice B' n c), (1, qV m), (2, qV l), (3, qV r)] = some (Value.slice B' n c :: alR m l r : List Value).toArray := by kernel_rfl
theorem buildA023 (B' : Option Addr) (n c l r : Nat) : Try.prog.built 36 [(0, .slice B' n c), (2, qV l), (3, qV r)] = some (Value.slice B' n c :: alR 0 l r : List Value).toArray := by kernel_rfl
theorem buildA3 (r : Nat) : Try.prog.built 36 [(3, qV r)] = some (Value.slice none 0 0 :: alR 0 0 r : List Value).toArray := by kernel_rfl
theorem flatN : flat Try.prog 3 25 = some [.u32, .u64] := by kernel_rfl
theorem kinN (a b : Int) : Kin (fun _ _ => True) [.u32, .u64] [.int .u32 a, .int .u64 b] := kin_cons (kin_cons kin_nil)
theorem neN {s c s' c' : Nat} (h : ¬ (s = s' ∧ c = c')) : (false = true) ↔ [nW s, nQ c] = ([nW s', nQ c'] : List Value) := by
 simp; omega
theorem ref8Put_fn (s c : Nat) (hs : s < 4294967296) (hc : c < 18446744073709551616) : Fn Try.prog 11 [.v (aggV ([nW s, nQ c]))] (byt (nonceL s c)) := by
 refine Fn.of Try.func11 rfl (by kernel_rfl) Try.ntmps11 (by simp) (fun w => [(0, .v (aggV ([nW s, nQ c])))]) (fun w => (Start.v rfl Start.nil)) fun w₀ => ?_
 refine GS ?_
 refine TN 0 ?_
 refine RN ?_
 refine ⟨_, _, eff_box (n := 10) (d := 1) (k := 1000001) rfl (by decide), fun b1 hb1 => ?_⟩
 have hBb1 := hb1.1
 refine TL ?_
 refine RA rfl ?_
 refine RN ?_
 refine GD ?_
 refine TL ?_
 refine RS (ok_field field25_0 (by decide) rfl) ?_
 refine RS (ok_loadV (s := 1000001) (by decide) Try.underlying22 rfl rfl rfl (rfl)) ?_
 refine RS (ok_call ((refPut32_fn ((s : Nat) : Int) (by omega) (by omega)).le (d' := bytes (be 4 s) 4) (Le.refl _)) (A1 rfl)) ?_
 refine RS (ok_field field25_1 (by decide) rfl) ?_
 refine RS (ok_loadV (s := 1000001) (by decide) Try.underlying23 rfl rfl rfl (rfl)) ?_
 refine RS (ok_call ((refPut64_fn ((c : Nat) : Int) (by omega) (by omega)).le (d' := bytes (be 8 c) 8) (Le.refl _)) (A1 rfl)) ?_
 refine RS (ok_appendFull (l := be 4 s) (m := be 8 c) Try.underlying26 info5 (by decide) rfl rfl (Le.eq (by rw [be_length])) rfl (le_byt _ _) (by rw [be_length]; decide) (by rw [be_length]; decide) (by rw [be_length, be_length]; decide)) ?_
 refine RA rfl ?_
 refine RN ?_
 refine A.ret ?_
 exact End.ret1 rfl rfl (own_byt (B := w₀.heap.size) (e := 5) (n := (be 4 s).length + (be 8 c).length) (l := nonceL s c) (by rw [nonceL_length, be_length, be_length]))
theorem Put_fn (s c : Nat) (hs : s < 4294967296) (hc : c < 18446744073709551616) : Fn Try.prog 9 [.v (aggV ([nW s, nQ c]))] (bytes (nonceL s c) 12) := by
 refine Fn.of Try.func9 rfl (by kernel_rfl) Try.ntmps9 (by simp) (fun w => [(0, .v (aggV ([nW s, nQ c])))]) (fun w => (Start.v rfl Start.nil)) fun w₀ => ?_
 refine GS ?_
 refine TN 0 ?_
 refine RN ?_
 refine ⟨_, _, eff_box (n := 11) (d := 1) (k := 1000001) rfl (by decide), fun b1 hb1 => ?_⟩
 have hBb1 := hb1.1
 refine TL ?_
 refine RA rfl ?_
 refine RN ?_
 refine GD ?_
 refine TL ?_
 refine RS (ok_field field25_0 (by decide) rfl) ?_
 refine RS (ok_loadV (s := 1000001) (by decide) Try.underlying22 rfl rfl rfl (rfl)) ?_
 refine RS (ok_call ((Put32_fn ((s : Nat) : Int) (by omega) (by omega)).le (d' := bytes (be 4 s) 4) (Le.refl _)) (A1 rfl)) ?_
 refine RS (ok_field field25_1 (by decide) rfl) ?_
 refine RS (ok_loadV (s := 1000001) (by decide) Try.underlying23 rfl rfl rfl (rfl)) ?_
 refine RS (ok_call ((Put64_fn ((c : Nat) : Int) (by omega) (by omega)).le (d' := bytes (be 8 c) 8) (Le.refl _)) (A1 rfl)) ?_
 refine RS (ok_build [bytes (be 4 s) 4, bytes (be 8 c) 8] Try.underlying73 info26 rfl (by decide) (by decide) rfl ⟨rfl, rfl, rfl, rfl, trivial⟩ (fun d hd w x h => by simp only [List.mem_cons, List.not_mem_nil, or_false] at hd; rcases hd with rfl | rfl <;> exact list_one h)) ?_
 refine RS ((ok_call (Join_fn [be 4 s, be 8 c] (by simp) (by simp [be_length])) (Args.cons rfl (list_lst2 (le_byt _ 4) (le_byt _ 8)) Args.nil)).le (d' := bytes (nonceL s c) 12) (Le.eq (by simp [be_length]; rfl))) ?_
 refine RA rfl ?_
 refine RN ?_
 refine A.ret ?_
 exact End.ret1 rfl rfl (by first | exact Le.refl _ | exact Le.old _ _)
theorem chk_lo {n : Nat} {k : Int} (h : (n : Int) < k) : chk n k = 6 := by
 unfold chk
 repeat' split
 all_goals omega
theorem chk_hi {n : Nat} {k : Int} (h : k < (n : Int)) : chk n k = 5 := by
 unfold chk
 repeat' split
 all_goals omega
theorem chk_eq {n : Nat} {k : Int} (h : (n : Int) = k) : chk n k = 0 := by
 unfold chk
 repeat' split
 all_goals omega
theorem Get_lo (l : List UInt8) (h : l.length < 4) : Fn Try.prog 10 [byt l] (tup [.v (aggV [.int .u32 0, .int .u64 0]), .v (.int .i64 6)]) := by
 refine Fn.of Try.func10 rfl (by kernel_rfl) Try.ntmps10 (by simp) (fun w => [(0, old w.heap.size (byt l))]) (fun w => (Start.old rfl Start.nil)) fun w₀ => ?_
 refine GS ?_
 refine TN 0 ?_
 refine RN ?_
 refine ⟨_, _, eff_alloc (n := 36) (d := 2) (k := 1000002) zero25 (by decide), fun b2 hb2 => ?_⟩
 have hBb2 := hb2.1
 refine TL ?_
 refine RA rfl ?_
 refine RN ?_
 refine GS ?_
 refine TL ?_
 refine RM rfl ?_
 refine RS (ok_lenB Try.underlying26 rfl LA) ?_
 refine RS (ok_min rfl rfl) ?_; refine RZ (nI (l.length)) (congrArg (Value.int .i64) (by omega)) ?_
 refine RA rfl ?_
 refine RN ?_
 refine GS ?_
 refine TL ?_
 refine RM rfl ?_
 refine RM rfl ?_
 refine RS ((ok_slice (ds := l.map byteD) 0 (l.length) Try.underlying26 info5 rfl (Le.old _ _) (.inr ⟨rfl, rfl⟩) (.inl ⟨_, _, rfl, rfl⟩) (by omega) (by first | (simp; done) | (simp; omega))).le (d' := byt (l.take (l.length))) (Le.eq (by rw [List.drop_zero, ← List.map_take]; rfl))) ?_
 refine RS (ok_call (Get32_fn (l.take (l.length))) (A1 rfl)) ?_
 refine RM rfl ?_
 refine RS (ok_extract rfl rfl) ?_
 refine RS (ok_extract rfl rfl) ?_; refine RZ (.int .i64 6) (congrArg (Value.int .i64) (chk_lo (by first | (simp; done) | (simp; omega)))) ?_
 refine RA rfl ?_
 refine RA rfl ?_
 refine RN ?_
 refine A.seq ?_
 refine GS ?_
 refine TL ?_
 refine RM rfl ?_
 refine RBS rfl rfl rfl (.bool true) (by rfl) ?_
 refine RN ?_
 refine A.yes rfl ?_
 refine GS ?_
 refine TF 2 ?_
 refine RS (ok_lit [] ([.int .u32 0] ++ [.int .u64 0]) (fun _ _ => rfl) (by kernel_rfl)) ?_
 refine RM rfl ?_
 refine RN ?_
 refine ⟨_, eff_storeA (n := 36) (s := 1000002) (size25.of (rfl)) rfl rfl (rfl) hBb2 rfl (rfl) (LV 2 rfl (LV 21 rfl LN)), ?_⟩
 refine TL ?_
 refine RA rfl ?_
 refine RN ?_
 refine A.ret ?_
 refine End.ret_then ?_
 exact End.cellT (s := 1000002) rfl Try.underlying25 rfl (size25.of (rfl)) rfl rfl (Le.refl _) rfl (Le.refl _)
theorem Get_short (l : List UInt8) (h : 4 ≤ l.length) (h2 : l.length < 12) : Fn Try.prog 10 [byt l] (tup [.v (aggV [.int .u32 0, .int .u64 0]), .v (.int .i64 6)]) := by
 refine Fn.of Try.func10 rfl (by kernel_rfl) Try.ntmps10 (by simp) (fun w => [(0, old w.heap.size (byt l))]) (fun w => (Start.old rfl Start.nil)) fun w₀ => ?_
 refine GS ?_
 refine TN 0 ?_
 refine RN ?_
 refine ⟨_, _, eff_alloc (n := 36) (d := 2) (k := 1000002) zero25 (by decide), fun b2 hb2 => ?_⟩
 have hBb2 := hb2.1
 refine TL ?_
 refine RA rfl ?_
 refine RN ?_
 refine GS ?_
 refine TL ?_
 refine RM rfl ?_
 refine RS (ok_lenB Try.underlying26 rfl LA) ?_
 refine RS (ok_min rfl rfl) ?_; refine RZ (nI 4) (congrArg (Value.int .i64) (by omega)) ?_
 refine RA rfl ?_
 refine RN ?_
 refine GS ?_
 refine TL ?_
 refine RM rfl ?_
 refine RM rfl ?_
 refine RS ((ok_slice (ds := l.map byteD) 0 (4) Try.underlying26 info5 rfl (Le.old _ _) (.inr ⟨rfl, rfl⟩) (.inl ⟨_, _, rfl, rfl⟩) (by omega) (by first | (simp; done) | (simp; omega))).le (d' := byt (l.take (4))) (Le.eq (by rw [List.drop_zero, ← List.map_take]; rfl))) ?_
 refine RS (ok_call (Get32_fn (l.take (4))) (A1 rfl)) ?_
 refine RM rfl ?_
 refine RS (ok_extract rfl rfl) ?_
 refine RS (ok_extract rfl rfl) ?_; refine RZ (.int .i64 0) (congrArg (Value.int .i64) (chk_eq (by first | (simp; done) | (simp; omega)))) ?_
 refine RA rfl ?_
 refine RA rfl ?_
 refine RN ?_
 refine A.seq ?_
 refine GS ?_
 refine TL ?_
 refine RM rfl ?_
 refine RBS rfl rfl rfl (.bool false) (by rfl) ?_
 refine RN ?_
 refine A.no rfl ?_
 refine A.skip ?_
 refine EN ?_
 refine GS ?_
 refine TL ?_
 refine RM rfl ?_
 refine RM rfl ?_
 refine RS ((ok_slice (ds := l.map byteD) 4 l.length Try.underlying26 info5 rfl (Le.old _ _) (.inl ⟨_, _, rfl, rfl⟩) (.inr ⟨rfl, by simp⟩) (by omega) (by simp)).le (d' := byt (l.drop 4)) (Le.eq (by rw [List.take_of_length_le (by simp), ← List.map_drop]; rfl))) ?_
 refine RS (ok_call (Get64_fn (l.drop 4)) (A1 rfl)) ?_
 refine RM rfl ?_
 refine RS (ok_extract rfl rfl) ?_
 refine RS (ok_extract rfl rfl) ?_; refine RZ (.int .i64 6) (congrArg (Value.int .i64) (chk_lo (by first | (simp; done) | (simp; omega)))) ?_
 refine RA rfl ?_
 refine RA rfl ?_
 refine RN ?_
 refine A.sub (KC 2 rfl (KC 5 rfl (KC 6 rfl (KC 7 rfl (KC 1000002 rfl KN))))) ?_
 refine A.seq ?_
 refine GS ?_
 refine TL ?_
 refine RM rfl ?_
 refine RBS rfl rfl rfl (.bool true) (by rfl) ?_
 refine RN ?_
 refine A.yes rfl ?_
 refine GS ?_
 refine TF 2 ?_
 refine RS (ok_lit [] ([.int .u32 0] ++ [.int .u64 0]) (fun _ _ => rfl) (by kernel_rfl)) ?_
 refine RM rfl ?_
 refine RN ?_
 refine ⟨_, eff_storeA (n := 36) (s := 1000002) (size25.of (rfl)) rfl rfl (rfl) hBb2 rfl (rfl) (LV 2 rfl (LV 32 rfl LN)), ?_⟩
 refine TL ?_
 refine RA rfl ?_
 refine RN ?_
 refine A.ret ?_
 refine End.ret_then ?_
 exact End.cellT (s := 1000002) rfl Try.underlying25 rfl (size25.of (rfl)) rfl rfl (Le.refl _) rfl (Le.refl _)
theorem Get_long (l : List UInt8) (h : 12 < l.length) : Fn Try.prog 10 [byt l] (tup [.v (aggV [.int .u32 0, .int .u64 0]), .v (.int .i64 5)]) := by
 refine Fn.of Try.func10 rfl (by kernel_rfl) Try.ntmps10 (by simp) (fun w => [(0, old w.heap.size (byt l))]) (fun w => (Start.old rfl Start.nil)) fun w₀ => ?_
 refine GS ?_
 refine TN 0 ?_
 refine RN ?_
 refine ⟨_, _, eff_alloc (n := 36) (d := 2) (k := 1000002) zero25 (by decide), fun b2 hb2 => ?_⟩
 have hBb2 := hb2.1
 refine TL ?_
 refine RA rfl ?_
 refine RN ?_
 refine GS ?_
 refine TL ?_
 refine RM rfl ?_
 refine RS (ok_lenB Try.underlying26 rfl LA) ?_
 refine RS (ok_min rfl rfl) ?_; refine RZ (nI 4) (congrArg (Value.int .i64) (by omega)) ?_
 refine RA rfl ?_
 refine RN ?_
 refine GS ?_
 refine TL ?_
 refine RM rfl ?_
 refine RM rfl ?_
 refine RS ((ok_slice (ds := l.map byteD) 0 (4) Try.underlying26 info5 rfl (Le.old _ _) (.inr ⟨rfl, rfl⟩) (.inl ⟨_, _, rfl, rfl⟩) (by omega) (by first | (simp; done) | (simp; omega))).le (d' := byt (l.take (4))) (Le.eq (by rw [List.drop_zero, ← List.map_take]; rfl))) ?_
 refine RS (ok_call (Get32_fn (l.take (4))) (A1 rfl)) ?_
 refine RM rfl ?_
 refine RS (ok_extract rfl rfl) ?_
 refine RS (ok_extract rfl rfl) ?_; refine RZ (.int .i64 0) (congrArg (Value.int .i64) (chk_eq (by first | (simp; done) | (simp; omega)))) ?_
 refine RA rfl ?_
 refine RA rfl ?_
 refine RN ?_
 refine A.seq ?_
 refine GS ?_
 refine TL ?_
 refine RM rfl ?_
 refine RBS rfl rfl rfl (.bool false) (by rfl) ?_
 refine RN ?_
 refine A.no rfl ?_
 refine A.skip ?_
 refine EN ?_
 refine GS ?_
 refine TL ?_
 refine RM rfl ?_
 refine RM rfl ?_
 refine RS ((ok_slice (ds := l.map byteD) 4 l.length Try.underlying26 info5 rfl (Le.old _ _) (.inl ⟨_, _, rfl, rfl⟩) (.inr ⟨rfl, by simp⟩) (by omega) (by simp)).le (d' := byt (l.drop 4)) (Le.eq (by rw [List.take_of_length_le (by simp), ← List.map_drop]; rfl))) ?_
 refine RS (ok_call (Get64_fn (l.drop 4)) (A1 rfl)) ?_
 refine RM rfl ?_
 refine RS (ok_extract rfl rfl) ?_
 refine RS (ok_extract rfl rfl) ?_; refine RZ (.int .i64 5) (congrArg (Value.int .i64) (chk_hi (by first | (simp; done) | (simp; omega)))) ?_
 refine RA rfl ?_
 refine RA rfl ?_
 refine RN ?_
 refine A.sub (KC 2 rfl (KC 5 rfl (KC 6 rfl (KC 7 rfl (KC 1000002 rfl KN))))) ?_
 refine A.seq ?_
 refine GS ?_
 refine TL ?_
 refine RM rfl ?_
 refine RBS rfl rfl rfl (.bool true) (by rfl) ?_
 refine RN ?_
 refine A.yes rfl ?_
 refine GS ?_
 refine TF 2 ?_
 refine RS (ok_lit [] ([.int .u32 0] ++ [.int .u64 0]) (fun _ _ => rfl) (by kernel_rfl)) ?_
 refine RM rfl ?_
 refine RN ?_
 refine ⟨_, eff_storeA (n := 36) (s := 1000002) (size25.of (rfl)) rfl rfl (rfl) hBb2 rfl (rfl) (LV 2 rfl (LV 32 rfl LN)), ?_⟩
 refine TL ?_
 refine RA rfl ?_
 refine RN ?_
 refine A.ret ?_
 refine End.ret_then ?_
 exact End.cellT (s := 1000002) rfl Try.underlying25 rfl (size25.of (rfl)) rfl rfl (Le.refl _) rfl (Le.refl _)
theorem Get_good (l : List UInt8) (h : l.length = 12) : Fn Try.prog 10 [byt l] (tup [.v (aggV [.int .u32 (getV (l.take 4) 4), .int .u64 (getV (l.drop 4) 8)]), .v (.int .i64 0)]) := by
 refine Fn.of Try.func10 rfl (by kernel_rfl) Try.ntmps10 (by simp) (fun w => [(0, old w.heap.size (byt l))]) (fun w => (Start.old rfl Start.nil)) fun w₀ => ?_
 refine GS ?_
 refine TN 0 ?_
 refine RN ?_
 refine ⟨_, _, eff_alloc (n := 36) (d := 2) (k := 1000002) zero25 (by decide), fun b2 hb2 => ?_⟩
 have hBb2 := hb2.1
 refine TL ?_
 refine RA rfl ?_
 refine RN ?_
 refine GS ?_
 refine TL ?_
 refine RM rfl ?_
 refine RS (ok_lenB Try.underlying26 rfl LA) ?_
 refine RS (ok_min rfl rfl) ?_; refine RZ (nI 4) (congrArg (Value.int .i64) (by omega)) ?_
 refine RA rfl ?_
 refine RN ?_
 refine GS ?_
 refine TL ?_
 refine RM rfl ?_
 refine RM rfl ?_
 refine RS ((ok_slice (ds := l.map byteD) 0 (4) Try.underlying26 info5 rfl (Le.old _ _) (.inr ⟨rfl, rfl⟩) (.inl ⟨_, _, rfl, rfl⟩) (by omega) (by first | (simp; done) | (simp; omega))).le (d' := byt (l.take (4))) (Le.eq (by rw [List.drop_zero, ← List.map_take]; rfl))) ?_
 refine RS (ok_call (Get32_fn (l.take (4))) (A1 rfl)) ?_
 refine RM rfl ?_
 refine RS (ok_extract rfl rfl) ?_
 refine RS (ok_extract rfl rfl) ?_; refine RZ (.int .i64 0) (congrArg (Value.int .i64) (chk_eq (by first | (simp; done) | (simp; omega)))) ?_
 refine RA rfl ?_
 refine RA rfl ?_
 refine RN ?_
 refine A.seq ?_
 refine GS ?_
 refine TL ?_
 refine RM rfl ?_
 refine RBS rfl rfl rfl (.bool false) (by rfl) ?_
 refine RN ?_
 refine A.no rfl ?_
 refine A.skip ?_
 refine EN ?_
 refine GS ?_
 refine TL ?_
 refine RM rfl ?_
 refine RM rfl ?_
 refine RS ((ok_slice (ds := l.map byteD) 4 l.length Try.underlying26 info5 rfl (Le.old _ _) (.inl ⟨_, _, rfl, rfl⟩) (.inr ⟨rfl, by simp⟩) (by omega) (by simp)).le (d' := byt (l.drop 4)) (Le.eq (by rw [List.take_of_length_le (by simp), ← List.map_drop]; rfl))) ?_
 refine RS (ok_call (Get64_fn (l.drop 4)) (A1 rfl)) ?_
 refine RM rfl ?_
 refine RS (ok_extract rfl rfl) ?_
 refine RS (ok_extract rfl rfl) ?_; refine RZ (.int .i64 0) (congrArg (Value.int .i64) (chk_eq (by first | (simp; done) | (simp; omega)))) ?_
 refine RA rfl ?_
 refine RA rfl ?_
 refine RN ?_
 refine A.sub (KC 2 rfl (KC 5 rfl (KC 6 rfl (KC 7 rfl (KC 1000002 rfl KN))))) ?_
 refine A.seq ?_
 refine GS ?_
 refine TL ?_
 refine RM rfl ?_
 refine RBS rfl rfl rfl (.bool false) (by rfl) ?_
 refine RN ?_
 refine A.no rfl ?_
 refine A.skip ?_
 refine EN ?_
 refine GS ?_
 refine TF 3 ?_
 refine RM rfl ?_
 refine RM rfl ?_
 refine RS (ok_litS [(0, .int .u32 (getV (l.take 4) 4)), (1, .int .u64 (getV (l.drop 4) 8))] [.int .u32 (getV (l.take 4) 4), .int .u64 (getV (l.drop 4) 8)] ⟨rfl, rfl, rfl, rfl, trivial⟩ (by kernel_rfl)) ?_
 refine RN ?_
 refine ⟨_, eff_storeA (n := 36) (s := 1000002) (size25.of (rfl)) rfl rfl (rfl) hBb2 rfl (rfl) (LV 2 rfl LN), ?_⟩
 refine TL ?_
 refine RA rfl ?_
 refine RN ?_
 refine A.ret ?_
 exact End.cellT (s := 1000002) rfl Try.underlying25 rfl (size25.of (rfl)) rfl rfl (Le.refl _) rfl (Le.refl _)
theorem isNaN_u32_fn (a : Nat) : Fn Try.prog 42 [.v (nW a)] (.v (.bool false)) := by
 refine Fn.of Try.func42 rfl (by kernel_rfl) Try.ntmps42 (by simp) (fun w => [(0, .v (nW a))]) (fun w => (Start.v rfl Start.nil)) fun w₀ => ?_
 refine GS ?_
 refine TL ?_
 refine RA rfl ?_
 refine RN ?_
 refine GS ?_
 refine TL ?_
 refine RM rfl ?_
 refine RM rfl ?_
 refine RBS rfl rfl rfl (.bool false) (by simp) ?_
 refine RA rfl ?_
 refine RN ?_
 refine A.ret ?_
 exact End.ret1 rfl rfl (by first | exact Le.refl _ | exact Le.old _ _)
theorem cmp_u32_fn (a b : Nat) : Fn Try.prog 31 [.v (nW a), .v (nW b)] (.v (.int .i64 (cmp1 a b))) := by
 refine Fn.of Try.func31 rfl (by kernel_rfl) Try.ntmps31 (by simp) (fun w => [(0, .v (nW a)), (1, .v (nW b))]) (fun w => (Start.v rfl (Start.v rfl Start.nil))) fun w₀ => ?_
 refine GS ?_
 refine TL ?_
 refine RA rfl ?_
 refine RN ?_
 refine GS ?_
 refine TL ?_
 refine RM rfl ?_
 refine RS (ok_call (isNaN_u32_fn a) (A1 rfl)) ?_
 refine RA rfl ?_
 refine RN ?_
 refine GS ?_
 refine TL ?_
 refine RM rfl ?_
 refine RS (ok_call (isNaN_u32_fn b) (A1 rfl)) ?_
 refine RA rfl ?_
 refine RN ?_
 refine A.seq ?_
 refine GS ?_
 refine TL ?_
 refine RM rfl ?_
 refine RN ?_
 refine A.no rfl ?_
 refine A.skip ?_
 refine EN ?_
 refine A.seq ?_
 refine GS ?_
 refine TL ?_
 refine RM rfl ?_
 refine RN ?_
 refine A.no rfl ?_
 refine A.skip ?_
 refine EN ?_
 refine A.seq ?_
 refine GS ?_
 refine TL ?_
 refine RM rfl ?_
 refine RM rfl ?_
 refine RB rfl rfl rfl ?_
 refine RN ?_
 refine A.cond rfl (fun hc16 => ?_) (fun hc16 => ?_)
 ·refine GS ?_
  refine TL ?_
  refine RA rfl ?_
  refine RN ?_
  refine A.ret ?_
  refine End.ret_then ?_
  first | exact End.ret1 rfl rfl (Le.v (by simp at hc16; rw [cmp1, if_pos (by omega)])) | exact End.ret1 rfl rfl (Le.v (by simp at hc16 hc19; rw [cmp1, if_neg (by omega), if_pos (by omega)])) | exact End.ret1 rfl rfl (Le.v (by simp at hc16 hc19; rw [cmp1, if_neg (by omega), if_neg (by omega)]))
 ·refine A.skip ?_
  refine EN ?_
  refine A.seq ?_
  refine GS ?_
  refine TL ?_
  refine RM rfl ?_
  refine RM rfl ?_
  refine RB rfl rfl rfl ?_
  refine RN ?_
  refine A.cond rfl (fun hc19 => ?_) (fun hc19 => ?_)
  ·refine GS ?_
   refine TL ?_
   refine RA rfl ?_
   refine RN ?_
   refine A.ret ?_
   refine End.ret_then ?_
   first | exact End.ret1 rfl rfl (Le.v (by simp at hc16; rw [cmp1, if_pos (by omega)])) | exact End.ret1 rfl rfl (Le.v (by simp at hc16 hc19; rw [cmp1, if_neg (by omega), if_pos (by omega)])) | exact End.ret1 rfl rfl (Le.v (by simp at hc16 hc19; rw [cmp1, if_neg (by omega), if_neg (by omega)]))
  ·refine A.skip ?_
   refine EN ?_
   refine GS ?_
   refine TL ?_
   refine RA rfl ?_
   refine RN ?_
   refine A.ret ?_
   first | exact End.ret1 rfl rfl (Le.v (by simp at hc16; rw [cmp1, if_pos (by omega)])) | exact End.ret1 rfl rfl (Le.v (by simp at hc16 hc19; rw [cmp1, if_neg (by omega), if_pos (by omega)])) | exact End.ret1 rfl rfl (Le.v (by simp at hc16 hc19; rw [cmp1, if_neg (by omega), if_neg (by omega)]))
theorem isNaN_u64_fn (a : Nat) : Fn Try.prog 43 [.v (nQ a)] (.v (.bool false)) := by
 refine Fn.of Try.func43 rfl (by kernel_rfl) Try.ntmps43 (by simp) (fun w => [(0, .v (nQ a))]) (fun w => (Start.v rfl Start.nil)) fun w₀ => ?_
 refine GS ?_
 refine TL ?_
 refine RA rfl ?_
 refine RN ?_
 refine GS ?_
 refine TL ?_
 refine RM rfl ?_
 refine RM rfl ?_
 refine RBS rfl rfl rfl (.bool false) (by simp) ?_
 refine RA rfl ?_
 refine RN ?_
 refine A.ret ?_
 exact End.ret1 rfl rfl (by first | exact Le.refl _ | exact Le.old _ _)
theorem cmp_u64_fn (a b : Nat) : Fn Try.prog 32 [.v (nQ a), .v (nQ b)] (.v (.int .i64 (cmp1 a b))) := by
 refine Fn.of Try.func32 rfl (by kernel_rfl) Try.ntmps32 (by simp) (fun w => [(0, .v (nQ a)), (1, .v (nQ b))]) (fun w => (Start.v rfl (Start.v rfl Start.nil))) fun w₀ => ?_
 refine GS ?_
 refine TL ?_
 refine RA rfl ?_
 refine RN ?_
 refine GS ?_
 refine TL ?_
 refine RM rfl ?_
 refine RS (ok_call (isNaN_u64_fn a) (A1 rfl)) ?_
 refine RA rfl ?_
 refine RN ?_
 refine GS ?_
 refine TL ?_
 refine RM rfl ?_
 refine RS (ok_call (isNaN_u64_fn b) (A1 rfl)) ?_
 refine RA rfl ?_
 refine RN ?_
 refine A.seq ?_
 refine GS ?_
 refine TL ?_
 refine RM rfl ?_
 refine RN ?_
 refine A.no rfl ?_
 refine A.skip ?_
 refine EN ?_
 refine A.seq ?_
 refine GS ?_
 refine TL ?_
 refine RM rfl ?_
 refine RN ?_
 refine A.no rfl ?_
 refine A.skip ?_
 refine EN ?_
 refine A.seq ?_
 refine GS ?_
 refine TL ?_
 refine RM rfl ?_
 refine RM rfl ?_
 refine RB rfl rfl rfl ?_
 refine RN ?_
 refine A.cond rfl (fun hc16 => ?_) (fun hc16 => ?_)
 ·refine GS ?_
  refine TL ?_
  refine RA rfl ?_
  refine RN ?_
  refine A.ret ?_
  refine End.ret_then ?_
  first | exact End.ret1 rfl rfl (Le.v (by simp at hc16; rw [cmp1, if_pos (by omega)])) | exact End.ret1 rfl rfl (Le.v (by simp at hc16 hc19; rw [cmp1, if_neg (by omega), if_pos (by omega)])) | exact End.ret1 rfl rfl (Le.v (by simp at hc16 hc19; rw [cmp1, if_neg (by omega), if_neg (by omega)]))
 ·refine A.skip ?_
  refine EN ?_
  refine A.seq ?_
  refine GS ?_
  refine TL ?_
  refine RM rfl ?_
  refine RM rfl ?_
  refine RB rfl rfl rfl ?_
  refine RN ?_
  refine A.cond rfl (fun hc19 => ?_) (fun hc19 => ?_)
  ·refine GS ?_
   refine TL ?_
   refine RA rfl ?_
   refine RN ?_
   refine A.ret ?_
   refine End.ret_then ?_
   first | exact End.ret1 rfl rfl (Le.v (by simp at hc16; rw [cmp1, if_pos (by omega)])) | exact End.ret1 rfl rfl (Le.v (by simp at hc16 hc19; rw [cmp1, if_neg (by omega), if_pos (by omega)])) | exact End.ret1 rfl rfl (Le.v (by simp at hc16 hc19; rw [cmp1, if_neg (by omega), if_neg (by omega)]))
  ·refine A.skip ?_
   refine EN ?_
   refine GS ?_
   refine TL ?_
   refine RA rfl ?_
   refine RN ?_
   refine A.ret ?_
   first | exact End.ret1 rfl rfl (Le.v (by simp at hc16; rw [cmp1, if_pos (by omega)])) | exact End.ret1 rfl rfl (Le.v (by simp at hc16 hc19; rw [cmp1, if_neg (by omega), if_pos (by omega)])) | exact End.ret1 rfl rfl (Le.v (by simp at hc16 hc19; rw [cmp1, if_neg (by omega), if_neg (by omega)]))
theorem or_get {x y : Int} {i : Nat} (h : i < 2) : ([.int .i64 x, .int .i64 y] : List Value)[i]? = some (.int .i64 (if i = 0 then x else y)) := by
 obtain rfl | rfl : i = 0 ∨ i = 1 := by omega
 ·rfl
 ·rfl
theorem or_next {x y : Int} {i : Nat} (h : i ≤ 2 ∧ (1 ≤ i → x = 0) ∧ (2 ≤ i → y = 0)) (h2 : i < 2) (hz : (if i = 0 then x else y) = 0) : i + 1 ≤ 2 ∧ (1 ≤ i + 1 → x = 0) ∧ (2 ≤ i + 1 → y = 0) := by
 obtain rfl | rfl : i = 0 ∨ i = 1 := by omega
 ·exact ⟨by omega, fun _ => by simpa using hz, by omega⟩
 ·exact ⟨by omega, fun _ => h.2.1 (by omega), fun _ => by simpa using hz⟩
theorem or_found {x y : Int} {i : Nat} (h : i ≤ 2 ∧ (1 ≤ i → x = 0) ∧ (2 ≤ i → y = 0)) (h2 : i < 2) (hz : (if i = 0 then x else y) ≠ 0) : (if i = 0 then x else y) = (if x = 0 then y else x) := by
 obtain rfl | rfl : i = 0 ∨ i = 1 := by omega
 ·have : x ≠ 0 := by simpa using hz
  simp [this]
 ·simp [h.2.1 (by omega)]
theorem or_none {x y : Int} {i : Nat} (h : i ≤ 2 ∧ (1 ≤ i → x = 0) ∧ (2 ≤ i → y = 0)) (h2 : 2 ≤ i) : (0 : Int) = (if x = 0 then y else x) := by
 simp [h.2.1 (by omega), h.2.2 h2]
theorem Or_fn (x y : Int) : Fn Try.prog 30 [vlst [.int .i64 x, .int .i64 y]] (.v (.int .i64 (if x = 0 then y else x))) := by
 refine Fn.of Try.func30 rfl (by kernel_rfl) Try.ntmps30 (by simp) (fun w => [(0, old w.heap.size (vlst [.int .i64 x, .int .i64 y]))]) (fun w => (Start.old rfl Start.nil)) fun w₀ => ?_
 refine GS ?_
 refine TL ?_
 refine RA rfl ?_
 refine RN ?_
 refine GS ?_
 refine TL ?_
 refine RA rfl ?_
 refine RN ?_
 refine A.seq ?_
 refine GS ?_
 refine TL ?_
 refine RM rfl ?_
 refine RS (ok_lenU 2 Try.underlying76 rfl LA rfl) ?_
 refine RM rfl ?_
 refine RN ?_
 refine A.block ?_
 refine A.loop (ι := Nat) (fun i => i ≤ 2 ∧ (1 ≤ i → x = 0) ∧ (2 ≤ i → y = 0)) (fun i => [(3, .v (.int .i64 0)), (6, old w₀.heap.size (vlst [.int .i64 x, .int .i64 y])), (7, .v (.int .i64 2)), (8, .v (nI i))]) (fun i => 2 - i) 0 ?_ ?_ ?_
 ·exact ⟨by omega, by omega, by omega⟩
 ·exact (KC 3 rfl (KC 6 rfl (KC 7 rfl (KC 8 rfl KN))))
 intro i hi'
 refine GS ?_
 refine TL ?_
 refine RB rfl rfl rfl ?_
 refine RN ?_
 refine A.seq ?_
 refine A.cond rfl (fun hc9 => ?_) (fun hc9 => ?_)
 ·have hi2 : i < 2 := by simp at hc9; omega
  refine A.skip ?_
  refine EN ?_
  refine A.seq ?_
  refine A.block ?_
  refine GS ?_
  refine TL ?_
  refine RS (ok_indexU i Try.underlying76 info3 rfl LA rfl (or_get hi2)) ?_
  refine RS (ok_load Try.underlying3 rfl rfl) ?_
  refine RA rfl ?_
  refine RN ?_
  refine GS ?_
  refine TL ?_
  refine RM rfl ?_
  refine RM rfl ?_
  refine RB rfl rfl rfl ?_
  refine RN ?_
  refine A.cond rfl (fun hc14 => ?_) (fun hc14 => ?_)
  ·refine GS ?_
   refine TL ?_
   refine RM rfl ?_
   refine RA rfl ?_
   refine RN ?_
   refine A.ret ?_
   refine End.ret_block ?_
   refine End.ret_then ?_
   refine End.ret_then ?_
   refine End.ret_block ?_
   refine End.ret_then ?_
   first | exact End.ret1 rfl rfl (Le.v (congrArg (Value.int .i64) (or_found hi' hi2 (by simpa using hc14)))) | exact End.ret1 rfl rfl (Le.v (congrArg (Value.int .i64) (or_none hi' (by simp at hc9; omega))))
  ·refine A.skip ?_
   refine End.normal_block ?_
   refine EN ?_
   refine GE ?_
   refine TL ?_
   refine RBS rfl rfl rfl (nI (i + 1)) (by rw [wrap_i64 (by omega) (by omega)]; exact congrArg (Value.int .i64) (by omega)) ?_
   refine RM rfl ?_
   refine RN ?_
   refine End.normal_then ?_
   refine End.again (i + 1) ?_ ?_ ?_
   ·exact or_next hi' hi2 (by simpa using hc14)
   ·show _ - _ < _ - _; omega
   ·exact (KC 3 rfl (KC 6 rfl (KC 7 rfl (KC 8 rfl KN))))
 ·refine A.exit ?_
  refine End.exit_then ?_
  refine End.exit_then ?_
  refine End.exit_here ?_
  refine EN ?_
  refine GS ?_
  refine TL ?_
  refine RM rfl ?_
  refine RA rfl ?_
  refine RN ?_
  refine A.ret ?_
  first | exact End.ret1 rfl rfl (Le.v (congrArg (Value.int .i64) (or_found hi' hi2 (by simpa using hc14)))) | exact End.ret1 rfl rfl (Le.v (congrArg (Value.int .i64) (or_none hi' (by simp at hc9; omega))))
theorem Compare_fn (s c s' c' : Nat) : Fn Try.prog 12 [.v (aggV ([nW s, nQ c])), .v (aggV ([nW s', nQ c']))] (.v (.int .i64 (cmpN s c s' c'))) := by
 refine Fn.of Try.func12 rfl (by kernel_rfl) Try.ntmps12 (by simp) (fun w => [(0, .v (aggV ([nW s, nQ c]))), (1, .v (aggV ([nW s', nQ c'])))]) (fun w => (Start.v rfl (Start.v rfl Start.nil))) fun w₀ => ?_
 refine GS ?_
 refine TN 0 ?_
 refine RN ?_
 refine ⟨_, _, eff_box (n := 17) (d := 2) (k := 1000002) rfl (by decide), fun b2 hb2 => ?_⟩
 have hBb2 := hb2.1
 refine TN 1 ?_
 refine RN ?_
 refine ⟨_, _, eff_box (n := 17) (d := 3) (k := 1000003) rfl (by decide), fun b3 hb3 => ?_⟩
 have hBb3 := hb3.1
 have hlt_b2_b3 : b2 < b3 := hb3.2 1000002 _ _ _ rfl
 refine TL ?_
 refine RA rfl ?_
 refine RN ?_
 refine GD ?_
 refine TL ?_
 refine RS (ok_field field25_0 (by decide) rfl) ?_
 refine RS (ok_loadV (s := 1000002) (by decide) Try.underlying22 rfl rfl rfl (rfl)) ?_
 refine RS (ok_field field25_0 (by decide) rfl) ?_
 refine RS (ok_loadV (s := 1000003) (by decide) Try.underlying22 rfl rfl rfl (rfl)) ?_
 refine RS (ok_call (cmp_u32_fn s s') (A2 rfl rfl)) ?_
 refine RS (ok_field field25_1 (by decide) rfl) ?_
 refine RS (ok_loadV (s := 1000002) (by decide) Try.underlying23 rfl rfl rfl (rfl)) ?_
 refine RS (ok_field field25_1 (by decide) rfl) ?_
 refine RS (ok_loadV (s := 1000003) (by decide) Try.underlying23 rfl rfl rfl (rfl)) ?_
 refine RS (ok_call (cmp_u64_fn c c') (A2 rfl rfl)) ?_
 refine RS (ok_build [.v (.int .i64 (cmp1 s s')), .v (.int .i64 (cmp1 c c'))] Try.underlying76 info3 rfl (by decide) (by decide) rfl ⟨rfl, rfl, rfl, rfl, trivial⟩ (fun d hd w x h => by simp only [List.mem_cons, List.not_mem_nil, or_false] at hd; rcases hd with rfl | rfl <;> exact v_one rfl h)) ?_
 refine RS (ok_call (Or_fn (cmp1 s s') (cmp1 c c')) (Args.cons rfl (le_lst _ 2) Args.nil)) ?_; refine RZ (.int .i64 (cmpN s c s' c')) (by rfl) ?_
 refine RA rfl ?_
 refine RN ?_
 refine A.ret ?_
 exact End.ret1 rfl rfl (by first | exact Le.refl _ | exact Le.old _ _)
theorem allowed_lo (n : Int) (h : n < 1) : Fn Try.prog 33 [.v (.int .i64 n)] (.v (.bool false)) := by
 refine Fn.of Try.func33 rfl (by kernel_rfl) Try.ntmps33 (by simp) (fun w => [(0, .v (.int .i64 n))]) (fun w => (Start.v rfl Start.nil)) fun w₀ => ?_
 refine GS ?_
 refine TL ?_
 refine RA rfl ?_
 refine RN ?_
 refine GS ?_
 refine TL ?_
 refine RM rfl ?_
 refine RBS rfl rfl rfl (.bool false) (by simp; omega) ?_
 refine RM rfl ?_
 refine RK ?_
 refine RK ?_
 refine RP rfl rfl ?_
 refine RA rfl ?_
 refine RN ?_
 refine A.ret ?_
 exact End.ret1 rfl rfl (by first | exact Le.refl _ | exact Le.old _ _)
theorem allowed_hi (n : Int) (h : 8 < n) : Fn Try.prog 33 [.v (.int .i64 n)] (.v (.bool false)) := by
 refine Fn.of Try.func33 rfl (by kernel_rfl) Try.ntmps33 (by simp) (fun w => [(0, .v (.int .i64 n))]) (fun w => (Start.v rfl Start.nil)) fun w₀ => ?_
 refine GS ?_
 refine TL ?_
 refine RA rfl ?_
 refine RN ?_
 refine GS ?_
 refine TL ?_
 refine RM rfl ?_
 refine RBS rfl rfl rfl (.bool true) (by simp; omega) ?_
 refine RM rfl ?_
 refine RQ (ok_move rfl) ?_
 refine RQ (ok_bin rfl rfl rfl) ?_; refine RZ (.bool false) (by simp; omega) ?_
 refine RP rfl rfl ?_
 refine RA rfl ?_
 refine RN ?_
 refine A.ret ?_
 exact End.ret1 rfl rfl (by first | exact Le.refl _ | exact Le.old _ _)
theorem allowed_yes (n : Int) (h : 1 ≤ n) (h2 : n ≤ 8) : Fn Try.prog 33 [.v (.int .i64 n)] (.v (.bool true)) := by
 refine Fn.of Try.func33 rfl (by kernel_rfl) Try.ntmps33 (by simp) (fun w => [(0, .v (.int .i64 n))]) (fun w => (Start.v rfl Start.nil)) fun w₀ => ?_
 refine GS ?_
 refine TL ?_
 refine RA rfl ?_
 refine RN ?_
 refine GS ?_
 refine TL ?_
 refine RM rfl ?_
 refine RBS rfl rfl rfl (.bool true) (by simp; omega) ?_
 refine RM rfl ?_
 refine RQ (ok_move rfl) ?_
 refine RQ (ok_bin rfl rfl rfl) ?_; refine RZ (.bool true) (by simp; omega) ?_
 refine RP rfl rfl ?_
 refine RA rfl ?_
 refine RN ?_
 refine A.ret ?_
 exact End.ret1 rfl rfl (by first | exact Le.refl _ | exact Le.old _ _)
theorem allowed_no (n : Int) (h : ¬ (1 ≤ n ∧ n ≤ 8)) : Fn Try.prog 33 [.v (.int .i64 n)] (.v (.bool false)) := by
 by_cases h1 : n < 1
 ·exact allowed_lo n h1
 ·exact allowed_hi n (by omega)
theorem Max_fn (cs : List Nat) (h : 1 ≤ cs.length) (hb : cs.length ≤ 1000) : Fn Try.prog 34 [vlst (rowQ cs)] (.v (nQ (mx cs))) := by
 refine Fn.of Try.func34 rfl (by kernel_rfl) Try.ntmps34 (by simp) (fun w => [(0, old w.heap.size (vlst (rowQ cs)))]) (fun w => (Start.old rfl Start.nil)) fun w₀ => ?_
 refine GS ?_
 refine TL ?_
 refine RA rfl ?_
 refine RN ?_
 refine A.seq ?_
 refine GS ?_
 refine TL ?_
 refine RM rfl ?_
 refine RS (ok_lenU cs.length Try.underlying34 rfl LA (rowQ_length cs)) ?_
 refine RBS rfl rfl rfl (.bool false) (by simp; omega) ?_
 refine RN ?_
 refine A.no rfl ?_
 refine A.skip ?_
 refine EN ?_
 refine GS ?_
 refine TL ?_
 refine RM rfl ?_
 refine RS (ok_indexU 0 Try.underlying34 info23 rfl LA rfl (rowQ_get (by omega))) ?_
 refine RS (ok_load Try.underlying23 rfl rfl) ?_; refine RZ (nQ (mx (cs.take 1))) (by rw [mx_succ (by omega)]; simp [mx]) ?_
 refine RA rfl ?_
 refine RN ?_
 refine A.seq ?_
 refine GS ?_
 refine TL ?_
 refine RA rfl ?_
 refine RN ?_
 refine A.block ?_
 refine A.loop (ι := Nat) (fun i => 1 ≤ i ∧ i ≤ cs.length) (fun i => [(0, old w₀.heap.size (vlst (rowQ cs))), (3, .v (nQ (mx (cs.take i)))), (4, .v (nI i))]) (fun i => cs.length - i) 1 ?_ ?_ ?_
 ·exact ⟨Nat.le_refl _, h⟩
 ·exact (KC 0 rfl (KC 3 rfl (KE 4 rfl (by rfl) KN)))
 intro i hi'
 refine A.seq ?_
 refine GS ?_
 refine TL ?_
 refine RM rfl ?_
 refine RM rfl ?_
 refine RS (ok_lenU cs.length Try.underlying34 rfl LA (rowQ_length cs)) ?_
 refine RB rfl rfl rfl ?_
 refine RN ?_
 refine A.cond rfl (fun hc15 => ?_) (fun hc15 => ?_)
 ·have hlt : i < cs.length := by simp at hc15; omega
  refine A.skip ?_
  refine EN ?_
  refine A.seq ?_
  refine A.block ?_
  refine GE ?_
  refine TL ?_
  refine RM rfl ?_
  refine RM rfl ?_
  refine RM rfl ?_
  refine RS (ok_indexU i Try.underlying34 info23 rfl LA rfl (rowQ_get hlt)) ?_
  refine RS (ok_load Try.underlying23 rfl rfl) ?_
  refine RS (ok_maxI rfl rfl) ?_; refine RZ (nQ (mx (cs.take (i + 1)))) (by rw [mx_succ hlt]; exact congrArg (Value.int .u64) (by omega)) ?_
  refine RA rfl ?_
  refine RN ?_
  refine End.normal_block ?_
  refine EN ?_
  refine GE ?_
  refine TL ?_
  refine RM rfl ?_
  refine RBS rfl rfl rfl (nI (i + 1)) (by rw [wrap_i64 (by omega) (by omega)]; exact congrArg (Value.int .i64) (by omega)) ?_
  refine RA rfl ?_
  refine RN ?_
  refine End.normal_then ?_
  refine End.again (i + 1) ?_ ?_ ?_
  ·exact ⟨by omega, by omega⟩
  ·show _ - _ < _ - _; omega
  ·exact (KC 0 rfl (KC 3 rfl (KC 4 rfl KN)))
 ·have hi2 : i = cs.length := by simp at hc15; omega
  refine A.exit ?_
  refine End.exit_then ?_
  refine End.exit_then ?_
  refine End.exit_here ?_
  refine EN ?_
  refine GS ?_
  refine TL ?_
  refine RM rfl ?_
  refine RA rfl ?_
  refine RN ?_
  refine A.ret ?_
  exact End.ret1 rfl rfl (Le.v (by rw [hi2, List.take_of_length_le (Nat.le_refl _)]))
theorem Check_A (cs : List Nat) (m l r : Nat) (h : ¬ (1 ≤ cs.length ∧ cs.length ≤ 8)) : Fn Try.prog 15 [hdD (vlst (rowQ cs)) (alR m l r)] (.v (.int .i64 1)) := by
 refine Fn.of Try.func15 rfl (by kernel_rfl) Try.ntmps15 (by simp) (fun w => [(0, old w.heap.size (hdD (vlst (rowQ cs)) (alR m l r)))]) (fun w => (Start.old rfl Start.nil)) fun w₀ => ?_
 refine A.nameHd (t := 0) (k := 1000200) rfl fun v hv => ?_
 refine GS ?_
 refine TN 0 ?_
 refine RN ?_
 refine ⟨_, _, eff_box (n := 35) (d := 1) (k := 1000001) rfl (by decide), fun b1 hb1 => ?_⟩
 have hBb1 := hb1.1
 refine TL ?_
 refine RA rfl ?_
 refine RN ?_
 refine A.seq ?_
 refine A.block ?_
 refine GS ?_
 refine TL ?_
 refine RS (ok_field field36_0 (by decide) rfl) ?_
 refine RS (OpOk.valO (ok_loadV (s := 1000001) (by decide) Try.underlying34 rfl rfl rfl (rfl)) (k := 1000200) (by decide) rfl) ?_
 refine RS (ok_lenU cs.length Try.underlying34 rfl LA (rowQ_length cs)) ?_
 refine RS (ok_call (allowed_no (cs.length : Int) (by omega)) (A1 rfl)) ?_
 refine RS (ok_not rfl) ?_; refine RZ (.bool true) (by rfl) ?_
 refine RA rfl ?_
 refine RN ?_
 refine A.yes rfl ?_
 refine GS ?_
 refine TL ?_
 refine RA rfl ?_
 refine RN ?_
 refine A.ret ?_
 refine End.ret_block ?_
 refine End.ret_then ?_
 exact End.ret1 rfl rfl (by first | exact Le.refl _ | exact Le.old _ _)
theorem Check_B (cs : List Nat) (m l r : Nat) (h1 : 1 ≤ cs.length) (h2 : cs.length ≤ 8) (h3 : m < mx cs) : Fn Try.prog 15 [hdD (vlst (rowQ cs)) (alR m l r)] (.v (.int .i64 1)) := by
 refine Fn.of Try.func15 rfl (by kernel_rfl) Try.ntmps15 (by simp) (fun w => [(0, old w.heap.size (hdD (vlst (rowQ cs)) (alR m l r)))]) (fun w => (Start.old rfl Start.nil)) fun w₀ => ?_
 refine A.nameHd (t := 0) (k := 1000200) rfl fun v hv => ?_
 refine GS ?_
 refine TN 0 ?_
 refine RN ?_
 refine ⟨_, _, eff_box (n := 35) (d := 1) (k := 1000001) rfl (by decide), fun b1 hb1 => ?_⟩
 have hBb1 := hb1.1
 refine TL ?_
 refine RA rfl ?_
 refine RN ?_
 refine A.seq ?_
 refine A.block ?_
 refine GS ?_
 refine TL ?_
 refine RS (ok_field field36_0 (by decide) rfl) ?_
 refine RS (OpOk.valO (ok_loadV (s := 1000001) (by decide) Try.underlying34 rfl rfl rfl (rfl)) (k := 1000200) (by decide) rfl) ?_
 refine RS (ok_lenU cs.length Try.underlying34 rfl LA (rowQ_length cs)) ?_
 refine RS (ok_call (allowed_yes (cs.length : Int) (by omega) (by omega)) (A1 rfl)) ?_
 refine RS (ok_not rfl) ?_; refine RZ (.bool false) (by rfl) ?_
 refine RA rfl ?_
 refine RN ?_
 refine A.no rfl ?_
 refine GD ?_
 refine TL ?_
 refine RS (ok_field field36_0 (by decide) rfl) ?_
 refine RS (OpOk.valO (ok_loadV (s := 1000001) (by decide) Try.underlying34 rfl rfl rfl (rfl)) (k := 1000200) (by decide) rfl) ?_
 refine RS (ok_call (Max_fn cs h1 (by omega)) (Args.cons rfl (Le.old _ _) Args.nil)) ?_
 refine RS (ok_field field36_1 (by decide) rfl) ?_
 refine RS (ok_loadV (s := 1000001) (by decide) Try.underlying23 rfl rfl rfl (rfl)) ?_
 refine RBS rfl rfl rfl (.bool true) (by simp; omega) ?_
 refine RM rfl ?_
 refine RK ?_
 refine RK ?_
 refine RK ?_
 refine RK ?_
 refine RK ?_
 refine RP rfl rfl ?_
 refine RA rfl ?_
 refine RN ?_
 refine A.yes rfl ?_
 refine GS ?_
 refine TL ?_
 refine RA rfl ?_
 refine RN ?_
 refine A.ret ?_
 refine End.ret_block ?_
 refine End.ret_then ?_
 exact End.ret1 rfl rfl (by first | exact Le.refl _ | exact Le.old _ _)
theorem Check_C (cs : List Nat) (m l r : Nat) (h1 : 1 ≤ cs.length) (h2 : cs.length ≤ 8) (h3 : mx cs ≤ m) (h4 : l < m) : Fn Try.prog 15 [hdD (vlst (rowQ cs)) (alR m l r)] (.v (.int .i64 1)) := by
 refine Fn.of Try.func15 rfl (by kernel_rfl) Try.ntmps15 (by simp) (fun w => [(0, old w.heap.size (hdD (vlst (rowQ cs)) (alR m l r)))]) (fun w => (Start.old rfl Start.nil)) fun w₀ => ?_
 refine A.nameHd (t := 0) (k := 1000200) rfl fun v hv => ?_
 refine GS ?_
 refine TN 0 ?_
 refine RN ?_
 refine ⟨_, _, eff_box (n := 35) (d := 1) (k := 1000001) rfl (by decide), fun b1 hb1 => ?_⟩
 have hBb1 := hb1.1
 refine TL ?_
 refine RA rfl ?_
 refine RN ?_
 refine A.seq ?_
 refine A.block ?_
 refine GS ?_
 refine TL ?_
 refine RS (ok_field field36_0 (by decide) rfl) ?_
 refine RS (OpOk.valO (ok_loadV (s := 1000001) (by decide) Try.underlying34 rfl rfl rfl (rfl)) (k := 1000200) (by decide) rfl) ?_
 refine RS (ok_lenU cs.length Try.underlying34 rfl LA (rowQ_length cs)) ?_
 refine RS (ok_call (allowed_yes (cs.length : Int) (by omega) (by omega)) (A1 rfl)) ?_
 refine RS (ok_not rfl) ?_; refine RZ (.bool false) (by rfl) ?_
 refine RA rfl ?_
 refine RN ?_
 refine A.no rfl ?_
 refine GD ?_
 refine TL ?_
 refine RS (ok_field field36_0 (by decide) rfl) ?_
 refine RS (OpOk.valO (ok_loadV (s := 1000001) (by decide) Try.underlying34 rfl rfl rfl (rfl)) (k := 1000200) (by decide) rfl) ?_
 refine RS (ok_call (Max_fn cs h1 (by omega)) (Args.cons rfl (Le.old _ _) Args.nil)) ?_
 refine RS (ok_field field36_1 (by decide) rfl) ?_
 refine RS (ok_loadV (s := 1000001) (by decide) Try.underlying23 rfl rfl rfl (rfl)) ?_
 refine RBS rfl rfl rfl (.bool false) (by simp; omega) ?_
 refine RM rfl ?_
 refine RQ (ok_field field36_1 (by decide) rfl) ?_
 refine RQ (ok_loadV (s := 1000001) (by decide) Try.underlying23 rfl rfl rfl (rfl)) ?_
 refine RQ (ok_field field36_2 (by decide) rfl) ?_
 refine RQ (ok_loadV (s := 1000001) (by decide) Try.underlying23 rfl rfl rfl (rfl)) ?_
 refine RQ (ok_bin rfl rfl rfl) ?_; refine RZ (.bool true) (by simp; omega) ?_
 refine RP rfl rfl ?_
 refine RA rfl ?_
 refine RN ?_
 refine A.yes rfl ?_
 refine GS ?_
 refine TL ?_
 refine RA rfl ?_
 refine RN ?_
 refine A.ret ?_
 refine End.ret_block ?_
 refine End.ret_then ?_
 exact End.ret1 rfl rfl (by first | exact Le.refl _ | exact Le.old _ _)
theorem Check_D (cs : List Nat) (m l r : Nat) (h1 : 1 ≤ cs.length) (h2 : cs.length ≤ 8) (h3 : mx cs ≤ m) (h4 : m ≤ l) (h5 : r < 1) : Fn Try.prog 15 [hdD (vlst (rowQ cs)) (alR m l r)] (.v (.int .i64 1)) := by
 refine Fn.of Try.func15 rfl (by kernel_rfl) Try.ntmps15 (by simp) (fun w => [(0, old w.heap.size (hdD (vlst (rowQ cs)) (alR m l r)))]) (fun w => (Start.old rfl Start.nil)) fun w₀ => ?_
 refine A.nameHd (t := 0) (k := 1000200) rfl fun v hv => ?_
 refine GS ?_
 refine TN 0 ?_
 refine RN ?_
 refine ⟨_, _, eff_box (n := 35) (d := 1) (k := 1000001) rfl (by decide), fun b1 hb1 => ?_⟩
 have hBb1 := hb1.1
 refine TL ?_
 refine RA rfl ?_
 refine RN ?_
 refine A.seq ?_
 refine A.block ?_
 refine GS ?_
 refine TL ?_
 refine RS (ok_field field36_0 (by decide) rfl) ?_
 refine RS (OpOk.valO (ok_loadV (s := 1000001) (by decide) Try.underlying34 rfl rfl rfl (rfl)) (k := 1000200) (by decide) rfl) ?_
 refine RS (ok_lenU cs.length Try.underlying34 rfl LA (rowQ_length cs)) ?_
 refine RS (ok_call (allowed_yes (cs.length : Int) (by omega) (by omega)) (A1 rfl)) ?_
 refine RS (ok_not rfl) ?_; refine RZ (.bool false) (by rfl) ?_
 refine RA rfl ?_
 refine RN ?_
 refine A.no rfl ?_
 refine GD ?_
 refine TL ?_
 refine RS (ok_field field36_0 (by decide) rfl) ?_
 refine RS (OpOk.valO (ok_loadV (s := 1000001) (by decide) Try.underlying34 rfl rfl rfl (rfl)) (k := 1000200) (by decide) rfl) ?_
 refine RS (ok_call (Max_fn cs h1 (by omega)) (Args.cons rfl (Le.old _ _) Args.nil)) ?_
 refine RS (ok_field field36_1 (by decide) rfl) ?_
 refine RS (ok_loadV (s := 1000001) (by decide) Try.underlying23 rfl rfl rfl (rfl)) ?_
 refine RBS rfl rfl rfl (.bool false) (by simp; omega) ?_
 refine RM rfl ?_
 refine RQ (ok_field field36_1 (by decide) rfl) ?_
 refine RQ (ok_loadV (s := 1000001) (by decide) Try.underlying23 rfl rfl rfl (rfl)) ?_
 refine RQ (ok_field field36_2 (by decide) rfl) ?_
 refine RQ (ok_loadV (s := 1000001) (by decide) Try.underlying23 rfl rfl rfl (rfl)) ?_
 refine RQ (ok_bin rfl rfl rfl) ?_; refine RZ (.bool false) (by simp; omega) ?_
 refine RP rfl rfl ?_
 refine RA rfl ?_
 refine RN ?_
 refine A.no rfl ?_
 refine GS ?_
 refine TL ?_
 refine RS (ok_field field36_3 (by decide) rfl) ?_
 refine RS (ok_loadV (s := 1000001) (by decide) Try.underlying23 rfl rfl rfl (rfl)) ?_
 refine RBS rfl rfl rfl (.bool true) (by simp; omega) ?_
 refine RM rfl ?_
 refine RK ?_
 refine RK ?_
 refine RK ?_
 refine RK ?_
 refine RK ?_
 refine RK ?_
 refine RP rfl rfl ?_
 refine RA rfl ?_
 refine RN ?_
 refine A.sub (KC 23 rfl (KC 1000001 rfl (KC 1000200 rfl KN))) ?_
 refine A.yes rfl ?_
 refine GS ?_
 refine TL ?_
 refine RA rfl ?_
 refine RN ?_
 refine A.ret ?_
 refine End.ret_block ?_
 refine End.ret_then ?_
 exact End.ret1 rfl rfl (by first | exact Le.refl _ | exact Le.old _ _)
theorem Check_E (cs : List Nat) (m l r : Nat) (h1 : 1 ≤ cs.length) (h2 : cs.length ≤ 8) (h3 : mx cs ≤ m) (h4 : m ≤ l) (h5 : 1 ≤ r) (h6 : min 4294967296 l < r) : Fn Try.prog 15 [hdD (vlst (rowQ cs)) (alR m l r)] (.v (.int .i64 1)) := by
 refine Fn.of Try.func15 rfl (by kernel_rfl) Try.ntmps15 (by simp) (fun w => [(0, old w.heap.size (hdD (vlst (rowQ cs)) (alR m l r)))]) (fun w => (Start.old rfl Start.nil)) fun w₀ => ?_
 refine A.nameHd (t := 0) (k := 1000200) rfl fun v hv => ?_
 refine GS ?_
 refine TN 0 ?_
 refine RN ?_
 refine ⟨_, _, eff_box (n := 35) (d := 1) (k := 1000001) rfl (by decide), fun b1 hb1 => ?_⟩
 have hBb1 := hb1.1
 refine TL ?_
 refine RA rfl ?_
 refine RN ?_
 refine A.seq ?_
 refine A.block ?_
 refine GS ?_
 refine TL ?_
 refine RS (ok_field field36_0 (by decide) rfl) ?_
 refine RS (OpOk.valO (ok_loadV (s := 1000001) (by decide) Try.underlying34 rfl rfl rfl (rfl)) (k := 1000200) (by decide) rfl) ?_
 refine RS (ok_lenU cs.length Try.underlying34 rfl LA (rowQ_length cs)) ?_
 refine RS (ok_call (allowed_yes (cs.length : Int) (by omega) (by omega)) (A1 rfl)) ?_
 refine RS (ok_not rfl) ?_; refine RZ (.bool false) (by rfl) ?_
 refine RA rfl ?_
 refine RN ?_
 refine A.no rfl ?_
 refine GD ?_
 refine TL ?_
 refine RS (ok_field field36_0 (by decide) rfl) ?_
 refine RS (OpOk.valO (ok_loadV (s := 1000001) (by decide) Try.underlying34 rfl rfl rfl (rfl)) (k := 1000200) (by decide) rfl) ?_
 refine RS (ok_call (Max_fn cs h1 (by omega)) (Args.cons rfl (Le.old _ _) Args.nil)) ?_
 refine RS (ok_field field36_1 (by decide) rfl) ?_
 refine RS (ok_loadV (s := 1000001) (by decide) Try.underlying23 rfl rfl rfl (rfl)) ?_
 refine RBS rfl rfl rfl (.bool false) (by simp; omega) ?_
 refine RM rfl ?_
 refine RQ (ok_field field36_1 (by decide) rfl) ?_
 refine RQ (ok_loadV (s := 1000001) (by decide) Try.underlying23 rfl rfl rfl (rfl)) ?_
 refine RQ (ok_field field36_2 (by decide) rfl) ?_
 refine RQ (ok_loadV (s := 1000001) (by decide) Try.underlying23 rfl rfl rfl (rfl)) ?_
 refine RQ (ok_bin rfl rfl rfl) ?_; refine RZ (.bool false) (by simp; omega) ?_
 refine RP rfl rfl ?_
 refine RA rfl ?_
 refine RN ?_
 refine A.no rfl ?_
 refine GS ?_
 refine TL ?_
 refine RS (ok_field field36_3 (by decide) rfl) ?_
 refine RS (ok_loadV (s := 1000001) (by decide) Try.underlying23 rfl rfl rfl (rfl)) ?_
 refine RBS rfl rfl rfl (.bool false) (by simp; omega) ?_
 refine RM rfl ?_
 refine RQ (ok_field field36_3 (by decide) rfl) ?_
 refine RQ (ok_loadV (s := 1000001) (by decide) Try.underlying23 rfl rfl rfl (rfl)) ?_
 refine RQ (ok_field field36_2 (by decide) rfl) ?_
 refine RQ (ok_loadV (s := 1000001) (by decide) Try.underlying23 rfl rfl rfl (rfl)) ?_
 refine RQ (ok_minI rfl rfl) ?_; refine RZ (nQ (min 4294967296 l)) (congrArg (Value.int .u64) (by omega)) ?_
 refine RQ (ok_bin rfl rfl rfl) ?_; refine RZ (.bool true) (by simp; omega) ?_
 refine RP rfl rfl ?_
 refine RA rfl ?_
 refine RN ?_
 refine A.sub (KC 23 rfl (KC 1000001 rfl (KC 1000200 rfl KN))) ?_
 refine A.yes rfl ?_
 refine GS ?_
 refine TL ?_
 refine RA rfl ?_
 refine RN ?_
 refine A.ret ?_
 refine End.ret_block ?_
 refine End.ret_then ?_
 exact End.ret1 rfl rfl (by first | exact Le.refl _ | exact Le.old _ _)
theorem Check_F (cs : List Nat) (m l r : Nat) (h1 : 1 ≤ cs.length) (h2 : cs.length ≤ 8) (h3 : mx cs ≤ m) (h4 : m ≤ l) (h5 : 1 ≤ r) (h6 : r ≤ min 4294967296 l) : Fn Try.prog 15 [hdD (vlst (rowQ cs)) (alR m l r)] (.v (.int .i64 0)) := by
 refine Fn.of Try.func15 rfl (by kernel_rfl) Try.ntmps15 (by simp) (fun w => [(0, old w.heap.size (hdD (vlst (rowQ cs)) (alR m l r)))]) (fun w => (Start.old rfl Start.nil)) fun w₀ => ?_
 refine A.nameHd (t := 0) (k := 1000200) rfl fun v hv => ?_
 refine GS ?_
 refine TN 0 ?_
 refine RN ?_
 refine ⟨_, _, eff_box (n := 35) (d := 1) (k := 1000001) rfl (by decide), fun b1 hb1 => ?_⟩
 have hBb1 := hb1.1
 refine TL ?_
 refine RA rfl ?_
 refine RN ?_
 refine A.seq ?_
 refine A.block ?_
 refine GS ?_
 refine TL ?_
 refine RS (ok_field field36_0 (by decide) rfl) ?_
 refine RS (OpOk.valO (ok_loadV (s := 1000001) (by decide) Try.underlying34 rfl rfl rfl (rfl)) (k := 1000200) (by decide) rfl) ?_
 refine RS (ok_lenU cs.length Try.underlying34 rfl LA (rowQ_length cs)) ?_
 refine RS (ok_call (allowed_yes (cs.length : Int) (by omega) (by omega)) (A1 rfl)) ?_
 refine RS (ok_not rfl) ?_; refine RZ (.bool false) (by rfl) ?_
 refine RA rfl ?_
 refine RN ?_
 refine A.no rfl ?_
 refine GD ?_
 refine TL ?_
 refine RS (ok_field field36_0 (by decide) rfl) ?_
 refine RS (OpOk.valO (ok_loadV (s := 1000001) (by decide) Try.underlying34 rfl rfl rfl (rfl)) (k := 1000200) (by decide) rfl) ?_
 refine RS (ok_call (Max_fn cs h1 (by omega)) (Args.cons rfl (Le.old _ _) Args.nil)) ?_
 refine RS (ok_field field36_1 (by decide) rfl) ?_
 refine RS (ok_loadV (s := 1000001) (by decide) Try.underlying23 rfl rfl rfl (rfl)) ?_
 refine RBS rfl rfl rfl (.bool false) (by simp; omega) ?_
 refine RM rfl ?_
 refine RQ (ok_field field36_1 (by decide) rfl) ?_
 refine RQ (ok_loadV (s := 1000001) (by decide) Try.underlying23 rfl rfl rfl (rfl)) ?_
 refine RQ (ok_field field36_2 (by decide) rfl) ?_
 refine RQ (ok_loadV (s := 1000001) (by decide) Try.underlying23 rfl rfl rfl (rfl)) ?_
 refine RQ (ok_bin rfl rfl rfl) ?_; refine RZ (.bool false) (by simp; omega) ?_
 refine RP rfl rfl ?_
 refine RA rfl ?_
 refine RN ?_
 refine A.no rfl ?_
 refine GS ?_
 refine TL ?_
 refine RS (ok_field field36_3 (by decide) rfl) ?_
 refine RS (ok_loadV (s := 1000001) (by decide) Try.underlying23 rfl rfl rfl (rfl)) ?_
 refine RBS rfl rfl rfl (.bool false) (by simp; omega) ?_
 refine RM rfl ?_
 refine RQ (ok_field field36_3 (by decide) rfl) ?_
 refine RQ (ok_loadV (s := 1000001) (by decide) Try.underlying23 rfl rfl rfl (rfl)) ?_
 refine RQ (ok_field field36_2 (by decide) rfl) ?_
 refine RQ (ok_loadV (s := 1000001) (by decide) Try.underlying23 rfl rfl rfl (rfl)) ?_
 refine RQ (ok_minI rfl rfl) ?_; refine RZ (nQ (min 4294967296 l)) (congrArg (Value.int .u64) (by omega)) ?_
 refine RQ (ok_bin rfl rfl rfl) ?_; refine RZ (.bool false) (by simp; omega) ?_
 refine RP rfl rfl ?_
 refine RA rfl ?_
 refine RN ?_
 refine A.sub (KC 23 rfl (KC 1000001 rfl (KC 1000200 rfl KN))) ?_
 refine A.no rfl ?_
 refine A.skip ?_
 refine End.normal_block ?_
 refine EN ?_
 refine GS ?_
 refine TL ?_
 refine RA rfl ?_
 refine RN ?_
 refine A.ret ?_
 exact End.ret1 rfl rfl (by first | exact Le.refl _ | exact Le.old _ _)
theorem Check_ok (cs : List Nat) (m l r : Nat) (h : Valid cs m l r) : Fn Try.prog 15 [hdD (vlst (rowQ cs)) (alR m l r)] (.v (.int .i64 0)) := by
 obtain ⟨h1, h2, h3, h4, h5, h6, h7⟩ := h
 exact Check_F cs m l r h1 h2 (mx_le.2 h3) h4 h5 (by omega)
theorem Check_bad (cs : List Nat) (m l r : Nat) (h : ¬ Valid cs m l r) : Fn Try.prog 15 [hdD (vlst (rowQ cs)) (alR m l r)] (.v (.int .i64 1)) := by
 by_cases h1 : 1 ≤ cs.length ∧ cs.length ≤ 8
 ·by_cases h3 : mx cs ≤ m
  ·by_cases h4 : m ≤ l
   ·by_cases h5 : 1 ≤ r
    ·by_cases h6 : r ≤ min 4294967296 l
     ·exact (h ⟨h1.1, h1.2, mx_le.1 h3, h4, h5, by omega, by omega⟩).elim
     ·exact Check_E cs m l r h1.1 h1.2 h3 h4 h5 (by omega)
    ·exact Check_D cs m l r h1.1 h1.2 h3 h4 (by omega)
   ·exact Check_C cs m l r h1.1 h1.2 h3 (by omega)
  ·exact Check_B cs m l r h1.1 h1.2 (by omega)
 ·exact Check_A cs m l r h1
end Go.Proofs.Ytmedljdbamnoiaa
