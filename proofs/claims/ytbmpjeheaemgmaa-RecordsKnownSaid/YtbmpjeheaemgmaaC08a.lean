/-
 The contracts of caissonref08 and of package nonces, part one: the bytes of nonces, their order, what makes an allocator valid.
-/
import Derived.Test.YtbmpjeheaemgmaaShort
import Derived.Test.YtbmpjeheaemgmaaC01d
import Derived.Test.YtbmpjeheaemgmaaNonce
namespace Go.Proofs.Ytbmpjeheaemgmaa
open Go Go.RowKit
set_option linter.unusedVariables false
set_option maxRecDepth 20000

theorem info23 : InfoIs Try.prog 23 (.int .u64 0) 8 := by unfold InfoIs; kernel_rfl
theorem zero25 : ZeroIs Try.prog 25 ([.int .u32 0] ++ [.int .u64 0]) := by unfold ZeroIs; kernel_rfl
theorem size25 : SizeIs Try.prog 25 2 := by unfold SizeIs; kernel_rfl
theorem field25_0 : FieldIs Try.prog 25 0 0 1 := by unfold FieldIs; kernel_rfl
theorem field25_1 : FieldIs Try.prog 25 1 1 1 := by unfold FieldIs; kernel_rfl

theorem buildN1 (c : Nat) : Try.prog.built 25 [(1, .int .u64 (c : Int))] = some ([.int .u32 0, .int .u64 (c : Int)] : List Value).toArray := by kernel_rfl
theorem buildN0 (s : Nat) : Try.prog.built 25 [(0, .int .u32 (s : Int))] = some ([.int .u32 (s : Int), .int .u64 0] : List Value).toArray := by kernel_rfl
theorem ref8Put_fn (s c : Nat) (hs : s < 4294967296) (hc : c < 18446744073709551616) : Fn Try.prog 35 [.v (aggV ([nW s, nQ c]))] (byt (nonceL s c)) := by
 refine Fn.of Try.func35 rfl (by kernel_rfl) Try.ntmps35 (by simp) (fun w => [(0, .v (aggV ([nW s, nQ c])))]) (fun w => (Start.v rfl Start.nil)) fun w₀ => ?_
 refine GS ?_
 refine TN 0 ?_
 refine RN ?_
 refine ⟨_, _, eff_box (n := 10) (d := 1) (k := 1000001) rfl (by decide), fun b1 hb1 => ?_⟩
 have hBb1 := hb1.1
 refine TL ?_
 refine RA rfl ?_
 refine RN ?_
 refine GD ?_
 refine TL ?_
 refine RS (ok_field field25_0 (by decide) rfl) ?_
 refine RS (ok_loadV (s := 1000001) (by decide) Try.underlying22 rfl rfl rfl (rfl)) ?_
 refine RS (ok_call ((refPut32_fn ((s : Nat) : Int) (by omega) (by omega)).le (d' := bytes (be 4 s) 4) (Le.refl _)) (A1 rfl)) ?_
 refine RS (ok_field field25_1 (by decide) rfl) ?_
 refine RS (ok_loadV (s := 1000001) (by decide) Try.underlying23 rfl rfl rfl (rfl)) ?_
 refine RS (ok_call ((refPut64_fn ((c : Nat) : Int) (by omega) (by omega)).le (d' := bytes (be 8 c) 8) (Le.refl _)) (A1 rfl)) ?_
 refine RS (ok_appendFull (l := be 4 s) (m := be 8 c) Try.underlying31 info5 (by decide) rfl rfl (Le.eq (by rw [be_length])) rfl (le_byt _ _) (by rw [be_length]; decide) (by rw [be_length]; decide) (by rw [be_length, be_length]; decide)) ?_
 refine RA rfl ?_
 refine RN ?_
 refine A.ret ?_
 exact End.ret1 rfl rfl (own_byt (B := w₀.heap.size) (e := 5) (n := (be 4 s).length + (be 8 c).length) (l := nonceL s c) (by rw [nonceL_length, be_length, be_length]))
theorem Put_fn (s c : Nat) (hs : s < 4294967296) (hc : c < 18446744073709551616) : Fn Try.prog 29 [.v (aggV ([nW s, nQ c]))] (bytes (nonceL s c) 12) := by
 refine Fn.of Try.func29 rfl (by kernel_rfl) Try.ntmps29 (by simp) (fun w => [(0, .v (aggV ([nW s, nQ c])))]) (fun w => (Start.v rfl Start.nil)) fun w₀ => ?_
 refine GS ?_
 refine TN 0 ?_
 refine RN ?_
 refine ⟨_, _, eff_box (n := 11) (d := 1) (k := 1000001) rfl (by decide), fun b1 hb1 => ?_⟩
 have hBb1 := hb1.1
 refine TL ?_
 refine RA rfl ?_
 refine RN ?_
 refine GD ?_
 refine TL ?_
 refine RS (ok_field field25_0 (by decide) rfl) ?_
 refine RS (ok_loadV (s := 1000001) (by decide) Try.underlying22 rfl rfl rfl (rfl)) ?_
 refine RS (ok_call ((Put32_fn ((s : Nat) : Int) (by omega) (by omega)).le (d' := bytes (be 4 s) 4) (Le.refl _)) (A1 rfl)) ?_
 refine RS (ok_field field25_1 (by decide) rfl) ?_
 refine RS (ok_loadV (s := 1000001) (by decide) Try.underlying23 rfl rfl rfl (rfl)) ?_
 refine RS (ok_call ((Put64_fn ((c : Nat) : Int) (by omega) (by omega)).le (d' := bytes (be 8 c) 8) (Le.refl _)) (A1 rfl)) ?_
 refine RS (ok_build [bytes (be 4 s) 4, bytes (be 8 c) 8] Try.underlying77 info31 rfl (by decide) (by decide) rfl ⟨rfl, rfl, rfl, rfl, trivial⟩ (fun d hd w x h => by simp only [List.mem_cons, List.not_mem_nil, or_false] at hd; rcases hd with rfl | rfl <;> exact list_one h)) ?_
 refine RS ((ok_call (Join_fn [be 4 s, be 8 c] (by simp) (by simp [be_length])) (Args.cons rfl (list_lst2 (le_byt _ 4) (le_byt _ 8)) Args.nil)).le (d' := bytes (nonceL s c) 12) (Le.eq (by simp [be_length]; rfl))) ?_
 refine RA rfl ?_
 refine RN ?_
 refine A.ret ?_
 exact End.ret1 rfl rfl (by first | exact Le.refl _ | exact Le.old _ _)
theorem chk_lo {n : Nat} {k : Int} (h : (n : Int) < k) : chk n k = 6 := by
 unfold chk
 repeat' split
 all_goals omega
theorem chk_hi {n : Nat} {k : Int} (h : k < (n : Int)) : chk n k = 5 := by
 unfold chk
 repeat' split
 all_goals omega
theorem chk_eq {n : Nat} {k : Int} (h : (n : Int) = k) : chk n k = 0 := by
 unfold chk
 repeat' split
 all_goals omega
theorem Get_lo (l : List UInt8) (h : l.length < 4) : Fn Try.prog 34 [byt l] (tup [.v (aggV [.int .u32 0, .int .u64 0]), .v (.int .i64 6)]) := by
 refine Fn.of Try.func34 rfl (by kernel_rfl) Try.ntmps34 (by simp) (fun w => [(0, old w.heap.size (byt l))]) (fun w => (Start.old rfl Start.nil)) fun w₀ => ?_
 refine GS ?_
 refine TN 0 ?_
 refine RN ?_
 refine ⟨_, _, eff_alloc (n := 36) (d := 2) (k := 1000002) zero25 (by decide), fun b2 hb2 => ?_⟩
 have hBb2 := hb2.1
 refine TL ?_
 refine RA rfl ?_
 refine RN ?_
 refine GS ?_
 refine TL ?_
 refine RM rfl ?_
 refine RS (ok_lenB Try.underlying31 rfl LA) ?_
 refine RS (ok_min rfl rfl) ?_; refine RZ (nI (l.length)) (congrArg (Value.int .i64) (by omega)) ?_
 refine RA rfl ?_
 refine RN ?_
 refine GS ?_
 refine TL ?_
 refine RM rfl ?_
 refine RM rfl ?_
 refine RS ((ok_slice (ds := l.map byteD) 0 (l.length) Try.underlying31 info5 rfl (Le.old _ _) (.inr ⟨rfl, rfl⟩) (.inl ⟨_, _, rfl, rfl⟩) (by omega) (by first | (simp; done) | (simp; omega))).le (d' := byt (l.take (l.length))) (Le.eq (by rw [List.drop_zero, ← List.map_take]; rfl))) ?_
 refine RS (ok_call (Get32_fn (l.take (l.length))) (A1 rfl)) ?_
 refine RM rfl ?_
 refine RS (ok_extract rfl rfl) ?_
 refine RS (ok_extract rfl rfl) ?_; refine RZ (.int .i64 6) (congrArg (Value.int .i64) (chk_lo (by first | (simp; done) | (simp; omega)))) ?_
 refine RA rfl ?_
 refine RA rfl ?_
 refine RN ?_
 refine A.seq ?_
 refine GS ?_
 refine TL ?_
 refine RM rfl ?_
 refine RBS rfl rfl rfl (.bool true) (by rfl) ?_
 refine RN ?_
 refine A.yes rfl ?_
 refine GS ?_
 refine TF 2 ?_
 refine RS (ok_lit [] ([.int .u32 0] ++ [.int .u64 0]) (fun _ _ => rfl) (by kernel_rfl)) ?_
 refine RM rfl ?_
 refine RN ?_
 refine ⟨_, eff_storeA (n := 36) (s := 1000002) (size25.of (rfl)) rfl rfl (rfl) hBb2 rfl (rfl) (LV 2 rfl (LV 21 rfl LN)), ?_⟩
 refine TL ?_
 refine RA rfl ?_
 refine RN ?_
 refine A.ret ?_
 refine End.ret_then ?_
 exact End.cellT (s := 1000002) rfl Try.underlying25 rfl (size25.of (rfl)) rfl rfl (Le.refl _) rfl (Le.refl _)
theorem Get_short (l : List UInt8) (h : 4 ≤ l.length) (h2 : l.length < 12) : Fn Try.prog 34 [byt l] (tup [.v (aggV [.int .u32 0, .int .u64 0]), .v (.int .i64 6)]) := by
 refine Fn.of Try.func34 rfl (by kernel_rfl) Try.ntmps34 (by simp) (fun w => [(0, old w.heap.size (byt l))]) (fun w => (Start.old rfl Start.nil)) fun w₀ => ?_
 refine GS ?_
 refine TN 0 ?_
 refine RN ?_
 refine ⟨_, _, eff_alloc (n := 36) (d := 2) (k := 1000002) zero25 (by decide), fun b2 hb2 => ?_⟩
 have hBb2 := hb2.1
 refine TL ?_
 refine RA rfl ?_
 refine RN ?_
 refine GS ?_
 refine TL ?_
 refine RM rfl ?_
 refine RS (ok_lenB Try.underlying31 rfl LA) ?_
 refine RS (ok_min rfl rfl) ?_; refine RZ (nI 4) (congrArg (Value.int .i64) (by omega)) ?_
 refine RA rfl ?_
 refine RN ?_
 refine GS ?_
 refine TL ?_
 refine RM rfl ?_
 refine RM rfl ?_
 refine RS ((ok_slice (ds := l.map byteD) 0 (4) Try.underlying31 info5 rfl (Le.old _ _) (.inr ⟨rfl, rfl⟩) (.inl ⟨_, _, rfl, rfl⟩) (by omega) (by first | (simp; done) | (simp; omega))).le (d' := byt (l.take (4))) (Le.eq (by rw [List.drop_zero, ← List.map_take]; rfl))) ?_
 refine RS (ok_call (Get32_fn (l.take (4))) (A1 rfl)) ?_
 refine RM rfl ?_
 refine RS (ok_extract rfl rfl) ?_
 refine RS (ok_extract rfl rfl) ?_; refine RZ (.int .i64 0) (congrArg (Value.int .i64) (chk_eq (by first | (simp; done) | (simp; omega)))) ?_
 refine RA rfl ?_
 refine RA rfl ?_
 refine RN ?_
 refine A.seq ?_
 refine GS ?_
 refine TL ?_
 refine RM rfl ?_
 refine RBS rfl rfl rfl (.bool false) (by rfl) ?_
 refine RN ?_
 refine A.no rfl ?_
 refine A.skip ?_
 refine EN ?_
 refine GS ?_
 refine TL ?_
 refine RM rfl ?_
 refine RM rfl ?_
 refine RS ((ok_slice (ds := l.map byteD) 4 l.length Try.underlying31 info5 rfl (Le.old _ _) (.inl ⟨_, _, rfl, rfl⟩) (.inr ⟨rfl, by simp⟩) (by omega) (by simp)).le (d' := byt (l.drop 4)) (Le.eq (by rw [List.take_of_length_le (by simp), ← List.map_drop]; rfl))) ?_
 refine RS (ok_call (Get64_fn (l.drop 4)) (A1 rfl)) ?_
 refine RM rfl ?_
 refine RS (ok_extract rfl rfl) ?_
 refine RS (ok_extract rfl rfl) ?_; refine RZ (.int .i64 6) (congrArg (Value.int .i64) (chk_lo (by first | (simp; done) | (simp; omega)))) ?_
 refine RA rfl ?_
 refine RA rfl ?_
 refine RN ?_
 refine A.sub (KC 2 rfl (KC 5 rfl (KC 6 rfl (KC 7 rfl (KC 1000002 rfl KN))))) ?_
 refine A.seq ?_
 refine GS ?_
 refine TL ?_
 refine RM rfl ?_
 refine RBS rfl rfl rfl (.bool true) (by rfl) ?_
 refine RN ?_
 refine A.yes rfl ?_
 refine GS ?_
 refine TF 2 ?_
 refine RS (ok_lit [] ([.int .u32 0] ++ [.int .u64 0]) (fun _ _ => rfl) (by kernel_rfl)) ?_
 refine RM rfl ?_
 refine RN ?_
 refine ⟨_, eff_storeA (n := 36) (s := 1000002) (size25.of (rfl)) rfl rfl (rfl) hBb2 rfl (rfl) (LV 2 rfl (LV 32 rfl LN)), ?_⟩
 refine TL ?_
 refine RA rfl ?_
 refine RN ?_
 refine A.ret ?_
 refine End.ret_then ?_
 exact End.cellT (s := 1000002) rfl Try.underlying25 rfl (size25.of (rfl)) rfl rfl (Le.refl _) rfl (Le.refl _)
theorem Get_long (l : List UInt8) (h : 12 < l.length) : Fn Try.prog 34 [byt l] (tup [.v (aggV [.int .u32 0, .int .u64 0]), .v (.int .i64 5)]) := by
 refine Fn.of Try.func34 rfl (by kernel_rfl) Try.ntmps34 (by simp) (fun w => [(0, old w.heap.size (byt l))]) (fun w => (Start.old rfl Start.nil)) fun w₀ => ?_
 refine GS ?_
 refine TN 0 ?_
 refine RN ?_
 refine ⟨_, _, eff_alloc (n := 36) (d := 2) (k := 1000002) zero25 (by decide), fun b2 hb2 => ?_⟩
 have hBb2 := hb2.1
 refine TL ?_
 refine RA rfl ?_
 refine RN ?_
 refine GS ?_
 refine TL ?_
 refine RM rfl ?_
 refine RS (ok_lenB Try.underlying31 rfl LA) ?_
 refine RS (ok_min rfl rfl) ?_; refine RZ (nI 4) (congrArg (Value.int .i64) (by omega)) ?_
 refine RA rfl ?_
 refine RN ?_
 refine GS ?_
 refine TL ?_
 refine RM rfl ?_
 refine RM rfl ?_
 refine RS ((ok_slice (ds := l.map byteD) 0 (4) Try.underlying31 info5 rfl (Le.old _ _) (.inr ⟨rfl, rfl⟩) (.inl ⟨_, _, rfl, rfl⟩) (by omega) (by first | (simp; done) | (simp; omega))).le (d' := byt (l.take (4))) (Le.eq (by rw [List.drop_zero, ← List.map_take]; rfl))) ?_
 refine RS (ok_call (Get32_fn (l.take (4))) (A1 rfl)) ?_
 refine RM rfl ?_
 refine RS (ok_extract rfl rfl) ?_
 refine RS (ok_extract rfl rfl) ?_; refine RZ (.int .i64 0) (congrArg (Value.int .i64) (chk_eq (by first | (simp; done) | (simp; omega)))) ?_
 refine RA rfl ?_
 refine RA rfl ?_
 refine RN ?_
 refine A.seq ?_
 refine GS ?_
 refine TL ?_
 refine RM rfl ?_
 refine RBS rfl rfl rfl (.bool false) (by rfl) ?_
 refine RN ?_
 refine A.no rfl ?_
 refine A.skip ?_
 refine EN ?_
 refine GS ?_
 refine TL ?_
 refine RM rfl ?_
 refine RM rfl ?_
 refine RS ((ok_slice (ds := l.map byteD) 4 l.length Try.underlying31 info5 rfl (Le.old _ _) (.inl ⟨_, _, rfl, rfl⟩) (.inr ⟨rfl, by simp⟩) (by omega) (by simp)).le (d' := byt (l.drop 4)) (Le.eq (by rw [List.take_of_length_le (by simp), ← List.map_drop]; rfl))) ?_
 refine RS (ok_call (Get64_fn (l.drop 4)) (A1 rfl)) ?_
 refine RM rfl ?_
 refine RS (ok_extract rfl rfl) ?_
 refine RS (ok_extract rfl rfl) ?_; refine RZ (.int .i64 5) (congrArg (Value.int .i64) (chk_hi (by first | (simp; done) | (simp; omega)))) ?_
 refine RA rfl ?_
 refine RA rfl ?_
 refine RN ?_
 refine A.sub (KC 2 rfl (KC 5 rfl (KC 6 rfl (KC 7 rfl (KC 1000002 rfl KN))))) ?_
 refine A.seq ?_
 refine GS ?_
 refine TL ?_
 refine RM rfl ?_
 refine RBS rfl rfl rfl (.bool true) (by rfl) ?_
 refine RN ?_
 refine A.yes rfl ?_
 refine GS ?_
 refine TF 2 ?_
 refine RS (ok_lit [] ([.int .u32 0] ++ [.int .u64 0]) (fun _ _ => rfl) (by kernel_rfl)) ?_
 refine RM rfl ?_
 refine RN ?_
 refine ⟨_, eff_storeA (n := 36) (s := 1000002) (size25.of (rfl)) rfl rfl (rfl) hBb2 rfl (rfl) (LV 2 rfl (LV 32 rfl LN)), ?_⟩
 refine TL ?_
 refine RA rfl ?_
 refine RN ?_
 refine A.ret ?_
 refine End.ret_then ?_
 exact End.cellT (s := 1000002) rfl Try.underlying25 rfl (size25.of (rfl)) rfl rfl (Le.refl _) rfl (Le.refl _)
theorem Get_good (l : List UInt8) (h : l.length = 12) : Fn Try.prog 34 [byt l] (tup [.v (aggV [.int .u32 (getV (l.take 4) 4), .int .u64 (getV (l.drop 4) 8)]), .v (.int .i64 0)]) := by
 refine Fn.of Try.func34 rfl (by kernel_rfl) Try.ntmps34 (by simp) (fun w => [(0, old w.heap.size (byt l))]) (fun w => (Start.old rfl Start.nil)) fun w₀ => ?_
 refine GS ?_
 refine TN 0 ?_
 refine RN ?_
 refine ⟨_, _, eff_alloc (n := 36) (d := 2) (k := 1000002) zero25 (by decide), fun b2 hb2 => ?_⟩
 have hBb2 := hb2.1
 refine TL ?_
 refine RA rfl ?_
 refine RN ?_
 refine GS ?_
 refine TL ?_
 refine RM rfl ?_
 refine RS (ok_lenB Try.underlying31 rfl LA) ?_
 refine RS (ok_min rfl rfl) ?_; refine RZ (nI 4) (congrArg (Value.int .i64) (by omega)) ?_
 refine RA rfl ?_
 refine RN ?_
 refine GS ?_
 refine TL ?_
 refine RM rfl ?_
 refine RM rfl ?_
 refine RS ((ok_slice (ds := l.map byteD) 0 (4) Try.underlying31 info5 rfl (Le.old _ _) (.inr ⟨rfl, rfl⟩) (.inl ⟨_, _, rfl, rfl⟩) (by omega) (by first | (simp; done) | (simp; omega))).le (d' := byt (l.take (4))) (Le.eq (by rw [List.drop_zero, ← List.map_take]; rfl))) ?_
 refine RS (ok_call (Get32_fn (l.take (4))) (A1 rfl)) ?_
 refine RM rfl ?_
 refine RS (ok_extract rfl rfl) ?_
 refine RS (ok_extract rfl rfl) ?_; refine RZ (.int .i64 0) (congrArg (Value.int .i64) (chk_eq (by first | (simp; done) | (simp; omega)))) ?_
 refine RA rfl ?_
 refine RA rfl ?_
 refine RN ?_
 refine A.seq ?_
 refine GS ?_
 refine TL ?_
 refine RM rfl ?_
 refine RBS rfl rfl rfl (.bool false) (by rfl) ?_
 refine RN ?_
 refine A.no rfl ?_
 refine A.skip ?_
 refine EN ?_
 refine GS ?_
 refine TL ?_
 refine RM rfl ?_
 refine RM rfl ?_
 refine RS ((ok_slice (ds := l.map byteD) 4 l.length Try.underlying31 info5 rfl (Le.old _ _) (.inl ⟨_, _, rfl, rfl⟩) (.inr ⟨rfl, by simp⟩) (by omega) (by simp)).le (d' := byt (l.drop 4)) (Le.eq (by rw [List.take_of_length_le (by simp), ← List.map_drop]; rfl))) ?_
 refine RS (ok_call (Get64_fn (l.drop 4)) (A1 rfl)) ?_
 refine RM rfl ?_
 refine RS (ok_extract rfl rfl) ?_
 refine RS (ok_extract rfl rfl) ?_; refine RZ (.int .i64 0) (congrArg (Value.int .i64) (chk_eq (by first | (simp; done) | (simp; omega)))) ?_
 refine RA rfl ?_
 refine RA rfl ?_
 refine RN ?_
 refine A.sub (KC 2 rfl (KC 5 rfl (KC 6 rfl (KC 7 rfl (KC 1000002 rfl KN))))) ?_
 refine A.seq ?_
 refine GS ?_
 refine TL ?_
 refine RM rfl ?_
 refine RBS rfl rfl rfl (.bool false) (by rfl) ?_
 refine RN ?_
 refine A.no rfl ?_
 refine A.skip ?_
 refine EN ?_
 refine GS ?_
 refine TF 3 ?_
 refine RM rfl ?_
 refine RM rfl ?_
 refine RS (ok_litS [(0, .int .u32 (getV (l.take 4) 4)), (1, .int .u64 (getV (l.drop 4) 8))] [.int .u32 (getV (l.take 4) 4), .int .u64 (getV (l.drop 4) 8)] ⟨rfl, rfl, rfl, rfl, trivial⟩ (by kernel_rfl)) ?_
 refine RN ?_
 refine ⟨_, eff_storeA (n := 36) (s := 1000002) (size25.of (rfl)) rfl rfl (rfl) hBb2 rfl (rfl) (LV 2 rfl LN), ?_⟩
 refine TL ?_
 refine RA rfl ?_
 refine RN ?_
 refine A.ret ?_
 exact End.cellT (s := 1000002) rfl Try.underlying25 rfl (size25.of (rfl)) rfl rfl (Le.refl _) rfl (Le.refl _)
/-- What is read of any bytes. -/
def gS (l : List UInt8) : Nat := if l.length = 12 then (getV (l.take 4) 4).toNat else 0
def gC (l : List UInt8) : Nat := if l.length = 12 then (getV (l.drop 4) 8).toNat else 0
def gE (n : Nat) : Int := if n < 12 then 6 else if n = 12 then 0 else 5
theorem getV_nat (l : List UInt8) (k : Nat) : ((getV l k).toNat : Int) = getV l k := by unfold getV; split <;> simp
theorem Get_fn (l : List UInt8) : Fn Try.prog 34 [byt l] (tup [.v (aggV [nW (gS l), nQ (gC l)]), .v (.int .i64 (gE l.length))]) := by
 by_cases h4 : l.length < 4
 ·rw [gS, gC, gE, if_neg (by omega), if_neg (by omega), if_pos (by omega)]; exact Get_lo l h4
 by_cases h12 : l.length < 12
 ·rw [gS, gC, gE, if_neg (by omega), if_neg (by omega), if_pos h12]; exact Get_short l (by omega) h12
 by_cases h : l.length = 12
 ·rw [gS, gC, gE, if_pos h, if_pos h, if_neg (by omega), if_pos h]; simp only [nW, nQ, getV_nat]; exact Get_good l h
 ·rw [gS, gC, gE, if_neg h, if_neg h, if_neg (by omega), if_neg h]; exact Get_long l (by omega)
theorem gS_lt (l : List UInt8) : gS l < 4294967296 := by
 unfold gS
 split
 ·unfold getV
  split
  ·rename_i h; have := num_lt (l.take 4); rw [h] at this; omega
  ·decide
 ·decide
theorem gC_lt (l : List UInt8) : gC l < 18446744073709551616 := by
 unfold gC
 split
 ·unfold getV
  split
  ·rename_i h; have := num_lt (l.drop 4); rw [h] at this; omega
  ·decide
 ·decide
theorem be_getV {l : List UInt8} {k : Nat} (h : l.length = k) : be k (getV l k).toNat = l := by
 rw [getV, if_pos h, Int.toNat_natCast, be_num h]
theorem nonce_back {l : List UInt8} (h : l.length = 12) : nonceL (gS l) (gC l) = l := by
 rw [nonceL, gS, gC, if_pos h, if_pos h, be_getV (by simp; omega), be_getV (by simp; omega), List.take_append_drop]
theorem gS_nonce {s c : Nat} (hs : s < 4294967296) : gS (nonceL s c) = s := by
 rw [gS, if_pos (nonceL_length s c), show (nonceL s c).take 4 = be 4 s from by rw [nonceL, List.take_left' (be_length 4 s)], getV, if_pos (be_length 4 s), num_be, Nat.mod_eq_of_lt (by omega), Int.toNat_natCast]
theorem gC_nonce {s c : Nat} (hc : c < 18446744073709551616) : gC (nonceL s c) = c := by
 rw [gC, if_pos (nonceL_length s c), show (nonceL s c).drop 4 = be 8 c from by rw [nonceL, List.drop_left' (be_length 4 s)], getV, if_pos (be_length 8 c), num_be, Nat.mod_eq_of_lt (by omega), Int.toNat_natCast]
end Go.Proofs.Ytbmpjeheaemgmaa
