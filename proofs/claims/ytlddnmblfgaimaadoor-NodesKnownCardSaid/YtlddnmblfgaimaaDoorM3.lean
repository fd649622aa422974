/-
  OWN TEXTS of this seat, put together, part 3: C10a, C10b, Keep, Pair, Use, PredF, Text, RangeX, Shape, C12a, Late, Node.
-/
import Derived.Test.YtlddnmblfgaimaaDoorM1
import Derived.Test.YtlddnmblfgaimaaDoorM2
import Derived.Test.YtlddnmblfgaimaaDoorProg
namespace Go.Proofs.YtlddnmblfgaimaaDoor
open Go Go.RowKit
set_option linter.unusedVariables false
set_option maxRecDepth 20000

theorem zero35 : ZeroIs Tryd.prog 35 ([.int .u8 0] ++ [.int .u32 0] ++ [.int .u64 0] ++ List.replicate 32 (.int .u8 0)) := by unfold ZeroIs; kernel_rfl
theorem size35 : SizeIs Tryd.prog 35 35 := by unfold SizeIs; kernel_rfl
theorem field35_0 : FieldIs Tryd.prog 35 0 0 1 := by unfold FieldIs; kernel_rfl
theorem field35_1 : FieldIs Tryd.prog 35 1 1 2 := by unfold FieldIs; kernel_rfl
theorem field35_2 : FieldIs Tryd.prog 35 2 3 32 := by unfold FieldIs; kernel_rfl
theorem zero38 : ZeroIs Tryd.prog 38 ([.int .u8 0] ++ List.replicate 32 (.int .u8 0)) := by unfold ZeroIs; kernel_rfl
theorem size38 : SizeIs Tryd.prog 38 33 := by unfold SizeIs; kernel_rfl
theorem field38_0 : FieldIs Tryd.prog 38 0 0 1 := by unfold FieldIs; kernel_rfl
theorem field38_1 : FieldIs Tryd.prog 38 1 1 32 := by unfold FieldIs; kernel_rfl
theorem field156_0 : FieldIs Tryd.prog 156 0 0 1 := by unfold FieldIs; kernel_rfl
theorem zero33 : ZeroIs Tryd.prog 33 (List.replicate 32 (.int .u8 0)) := by unfold ZeroIs; kernel_rfl
theorem size33 : SizeIs Tryd.prog 33 32 := by unfold SizeIs; kernel_rfl
theorem flat35 : flat Tryd.prog 4 35 = some (.u8 :: .u32 :: .u64 :: List.replicate 32 .u8) := by kernel_rfl
theorem flat38 : flat Tryd.prog 4 38 = some (.u8 :: List.replicate 32 .u8) := by kernel_rfl
theorem flat33r : flat Tryd.prog 4 33 = some (List.replicate 32 .u8) := by kernel_rfl
/-- The nonce's bytes in a record's. -/
def pN (l : List UInt8) : List UInt8 := (l.drop 1).take 12
def pT (l : List UInt8) : List UInt8 := ((l.drop 1).drop 12).take 32
def pD (l : List UInt8) : List UInt8 := (l.drop 1).take 32
theorem pT_len {l : List UInt8} (h : l.length = 45) : (pT l).length = 32 := by simp [pT, h]
theorem pD_len {l : List UInt8} (h : l.length = 33) : (pD l).length = 32 := by simp [pD, h]
theorem pN_len {l : List UInt8} (h : l.length = 45) : (pN l).length = 12 := by simp [pN, h]
theorem rec_back {l : List UInt8} (h : l.length = 45) : recL (pX l) (gS (pN l)) (gC (pN l)) (pT l) = l := by
 unfold recL
 rw [nonce_back (pN_len h), pN, pT, List.take_of_length_le (l := (l.drop 1).drop 12) (by simp [h]), List.take_append_drop, ← pX_drop (by omega)]
theorem ent_back {l : List UInt8} (h : l.length = 33) : entL (pX l) (pD l) = l := by
 unfold entL
 rw [pD, List.take_of_length_le (by simp [h]), ← pX_drop (by omega)]
theorem zN : nonceL 0 0 = List.replicate 12 0 := by decide
theorem rest_rec {l : List UInt8} (h : l.length = 45) : rest l = 0 ↔ gS (pN l) = 0 ∧ gC (pN l) = 0 ∧ pT l = zD := by
 have h1 : l.drop 1 = pN l ++ pT l := by rw [pN, pT, List.take_of_length_le (l := (l.drop 1).drop 12) (by simp [h]), List.take_append_drop]
 rw [rest, h1, sumL_append]
 have h2 : sumL (pN l) = 0 ↔ gS (pN l) = 0 ∧ gC (pN l) = 0 := by
  rw [sumL_zero, pN_len h]
  refine ⟨fun h => by rw [h]; exact ⟨by decide, by decide⟩, fun ⟨h3, h4⟩ => ?_⟩
  rw [← nonce_back (pN_len h), h3, h4, zN]
 have h3 : sumL (pT l) = 0 ↔ pT l = zD := by rw [sumL_zero, pT_len h]; rfl
 rw [← h3, ← and_assoc, ← h2]
 omega
theorem rest_ent {l : List UInt8} (h : l.length = 33) : rest l = 0 ↔ pD l = zD := by
 have h1 : l.drop 1 = pD l := by rw [pD, List.take_of_length_le (by simp [h])]
 rw [rest, h1, sumL_zero, pD_len h]; rfl
theorem badR_iff {l : List UInt8} (h : l.length = 45) : BadR (pX l) (gS (pN l)) (gC (pN l)) (pT l) ↔ BadL l := by
 unfold BadR BadL
 rw [← rest_rec h]
 omega
theorem badE_iff {l : List UInt8} (h : l.length = 33) : BadE (pX l) (pD l) ↔ BadL l := by
 unfold BadE BadL
 rw [← rest_ent h]
 omega
theorem rec_front {x : UInt8} {s c : Nat} {t : List UInt8} (ht : t.length = 32) (hs : s < 4294967296) (hc : c < 18446744073709551616) : pX (recL x s c t) = x ∧ gS (pN (recL x s c t)) = s ∧ gC (pN (recL x s c t)) = c ∧ pT (recL x s c t) = t := by
 have h1 : pN (recL x s c t) = nonceL s c := by unfold pN recL; rw [List.drop_one, List.tail_cons, List.take_left' (nonceL_length s c)]
 refine ⟨rfl, by rw [h1, gS_nonce hs], by rw [h1, gC_nonce hc], ?_⟩
 unfold pT recL
 rw [List.drop_one, List.tail_cons, List.drop_left' (nonceL_length s c), List.take_of_length_le (by omega)]
theorem ent_front {x : UInt8} {t : List UInt8} (ht : t.length = 32) : pX (entL x t) = x ∧ pD (entL x t) = t := by
 refine ⟨rfl, ?_⟩
 unfold pD entL
 rw [List.drop_one, List.tail_cons, List.take_of_length_le (by omega)]
theorem rck_a1 (x : UInt8) (s c : Nat) (t : List UInt8) (ht : t.length = 32) (hx : x.toNat = 0) (hz : s ≠ 0) : Fn Tryd.prog 54 [.v (aggV (recV x s c t))] (.v (.int .i64 1)) := by
 refine Fn.of Tryd.func54 rfl (by kernel_rfl) Tryd.ntmps54 (by simp) (fun w => [(0, .v (aggV (recV x s c t)))]) (fun w => (Start.v rfl Start.nil)) fun w₀ => ?_
 refine GS ?_
 refine TN 0 ?_
 refine RN ?_
 refine ⟨_, _, eff_box (n := 36) (d := 1) (k := 1000001) rfl (by decide), fun b1 hb1 => ?_⟩
 have hBb1 := hb1.1
 refine TL ?_
 refine RA rfl ?_
 refine RN ?_
 refine GS ?_
 refine TL ?_
 refine RS (ok_field field35_1 (by decide) rfl) ?_
 refine RS (ok_field field31_0 (by decide) rfl) ?_
 refine RS (ok_loadV (s := 1000001) (by decide) Tryd.underlying28 rfl rfl rfl (rfl)) ?_
 refine RBS rfl rfl rfl (.bool false) (by simp [hz]) ?_
 refine RM rfl ?_
 refine RK ?_
 refine RK ?_
 refine RK ?_
 refine RK ?_
 refine RP rfl rfl ?_
 refine RM rfl ?_
 refine RK ?_
 refine RK ?_
 refine RK ?_
 refine RK ?_
 refine RP rfl rfl ?_
 refine RA rfl ?_
 refine RN ?_
 refine A.seq ?_
 refine GS ?_
 refine TL ?_
 refine RS (ok_field field35_0 (by decide) rfl) ?_
 refine RS (ok_loadV (s := 1000001) (by decide) Tryd.underlying5 rfl rfl rfl (rfl)) ?_
 refine RBS rfl rfl rfl (.bool true) (by simp [hx]) ?_
 refine RM rfl ?_
 refine RQ (ok_move rfl) ?_
 refine RP rfl rfl ?_
 refine RM rfl ?_
 refine RQ (ok_field field35_0 (by decide) rfl) ?_
 refine RQ (ok_loadV (s := 1000001) (by decide) Tryd.underlying5 rfl rfl rfl (rfl)) ?_
 refine RQ (ok_bin rfl rfl rfl) ?_; refine RZ (.bool false) (by simp; omega) ?_
 refine RP rfl rfl ?_
 refine RM rfl ?_
 refine RQ (ok_field field35_0 (by decide) rfl) ?_
 refine RQ (ok_loadV (s := 1000001) (by decide) Tryd.underlying5 rfl rfl rfl (rfl)) ?_
 refine RQ (ok_bin rfl rfl rfl) ?_; refine RZ (.bool false) (by simp; omega) ?_
 refine RP rfl rfl ?_
 refine RN ?_
 refine A.sub (KC 35 rfl (KC 1000001 rfl KN)) ?_
 refine A.no rfl ?_
 refine A.skip ?_
 refine EN ?_
 refine GS ?_
 refine TL ?_
 refine RA rfl ?_
 refine RN ?_
 refine A.ret ?_
 exact End.ret1 rfl rfl (by first | exact Le.refl _ | exact Le.old _ _)
theorem rck_a2 (x : UInt8) (s c : Nat) (t : List UInt8) (ht : t.length = 32) (hx : x.toNat = 0) (h0 : s = 0) (hz : c ≠ 0) : Fn Tryd.prog 54 [.v (aggV (recV x s c t))] (.v (.int .i64 1)) := by
 refine Fn.of Tryd.func54 rfl (by kernel_rfl) Tryd.ntmps54 (by simp) (fun w => [(0, .v (aggV (recV x s c t)))]) (fun w => (Start.v rfl Start.nil)) fun w₀ => ?_
 refine GS ?_
 refine TN 0 ?_
 refine RN ?_
 refine ⟨_, _, eff_box (n := 36) (d := 1) (k := 1000001) rfl (by decide), fun b1 hb1 => ?_⟩
 have hBb1 := hb1.1
 refine TL ?_
 refine RA rfl ?_
 refine RN ?_
 refine GS ?_
 refine TL ?_
 refine RS (ok_field field35_1 (by decide) rfl) ?_
 refine RS (ok_field field31_0 (by decide) rfl) ?_
 refine RS (ok_loadV (s := 1000001) (by decide) Tryd.underlying28 rfl rfl rfl (rfl)) ?_
 refine RBS rfl rfl rfl (.bool true) (by simp [h0]) ?_
 refine RM rfl ?_
 refine RQ (ok_field field35_1 (by decide) rfl) ?_
 refine RQ (ok_field field31_1 (by decide) rfl) ?_
 refine RQ (ok_loadV (s := 1000001) (by decide) Tryd.underlying29 rfl rfl rfl (rfl)) ?_
 refine RQ (ok_bin rfl rfl rfl) ?_; refine RZ (.bool false) (by simp [hz]) ?_
 refine RP rfl rfl ?_
 refine RM rfl ?_
 refine RK ?_
 refine RK ?_
 refine RK ?_
 refine RK ?_
 refine RP rfl rfl ?_
 refine RA rfl ?_
 refine RN ?_
 refine A.seq ?_
 refine GS ?_
 refine TL ?_
 refine RS (ok_field field35_0 (by decide) rfl) ?_
 refine RS (ok_loadV (s := 1000001) (by decide) Tryd.underlying5 rfl rfl rfl (rfl)) ?_
 refine RBS rfl rfl rfl (.bool true) (by simp [hx]) ?_
 refine RM rfl ?_
 refine RQ (ok_move rfl) ?_
 refine RP rfl rfl ?_
 refine RM rfl ?_
 refine RQ (ok_field field35_0 (by decide) rfl) ?_
 refine RQ (ok_loadV (s := 1000001) (by decide) Tryd.underlying5 rfl rfl rfl (rfl)) ?_
 refine RQ (ok_bin rfl rfl rfl) ?_; refine RZ (.bool false) (by simp; omega) ?_
 refine RP rfl rfl ?_
 refine RM rfl ?_
 refine RQ (ok_field field35_0 (by decide) rfl) ?_
 refine RQ (ok_loadV (s := 1000001) (by decide) Tryd.underlying5 rfl rfl rfl (rfl)) ?_
 refine RQ (ok_bin rfl rfl rfl) ?_; refine RZ (.bool false) (by simp; omega) ?_
 refine RP rfl rfl ?_
 refine RN ?_
 refine A.sub (KC 35 rfl (KC 1000001 rfl KN)) ?_
 refine A.no rfl ?_
 refine A.skip ?_
 refine EN ?_
 refine GS ?_
 refine TL ?_
 refine RA rfl ?_
 refine RN ?_
 refine A.ret ?_
 exact End.ret1 rfl rfl (by first | exact Le.refl _ | exact Le.old _ _)
theorem rck_a3 (x : UInt8) (s c : Nat) (t : List UInt8) (ht : t.length = 32) (hx : x.toNat = 0) (h0 : s = 0) (h1 : c = 0) (hz : t ≠ zD) : Fn Tryd.prog 54 [.v (aggV (recV x s c t))] (.v (.int .i64 1)) := by
 refine Fn.of Tryd.func54 rfl (by kernel_rfl) Tryd.ntmps54 (by simp) (fun w => [(0, .v (aggV (recV x s c t)))]) (fun w => (Start.v rfl Start.nil)) fun w₀ => ?_
 refine GS ?_
 refine TN 0 ?_
 refine RN ?_
 refine ⟨_, _, eff_box (n := 36) (d := 1) (k := 1000001) rfl (by decide), fun b1 hb1 => ?_⟩
 have hBb1 := hb1.1
 refine TL ?_
 refine RA rfl ?_
 refine RN ?_
 refine GS ?_
 refine TL ?_
 refine RS (ok_field field35_1 (by decide) rfl) ?_
 refine RS (ok_field field31_0 (by decide) rfl) ?_
 refine RS (ok_loadV (s := 1000001) (by decide) Tryd.underlying28 rfl rfl rfl (rfl)) ?_
 refine RBS rfl rfl rfl (.bool true) (by simp [h0]) ?_
 refine RM rfl ?_
 refine RQ (ok_field field35_1 (by decide) rfl) ?_
 refine RQ (ok_field field31_1 (by decide) rfl) ?_
 refine RQ (ok_loadV (s := 1000001) (by decide) Tryd.underlying29 rfl rfl rfl (rfl)) ?_
 refine RQ (ok_bin rfl rfl rfl) ?_; refine RZ (.bool true) (by simp [h1]) ?_
 refine RP rfl rfl ?_
 refine RM rfl ?_
 refine RQ (ok_field field35_2 (by decide) rfl) ?_
 refine RQ (ok_loadP (s := 1000001) (by decide) Tryd.underlying33 rfl size33 rfl rfl (by simp [recV, ht]) (rec_tag ht)) ?_
 refine RQ (ok_litP [] Tryd.underlying33 info5 zero33 (by decide) trivial rfl) ?_; refine RZ (aggV (zD.map byteV)) (by rfl) ?_
 refine RQ (ok_eqlT (n := 4) (decide (t = zD)) flat33r (by decide) (by kernel_rfl) (by kernel_rfl) rfl rfl (kinB ht) (kinB (l := zD) rfl) (decB _ _)) ?_; refine RZ (.bool false) (by simp [hz]) ?_
 refine RP rfl rfl ?_
 refine RA rfl ?_
 refine RN ?_
 refine A.seq ?_
 refine GS ?_
 refine TL ?_
 refine RS (ok_field field35_0 (by decide) rfl) ?_
 refine RS (ok_loadV (s := 1000001) (by decide) Tryd.underlying5 rfl rfl rfl (rfl)) ?_
 refine RBS rfl rfl rfl (.bool true) (by simp [hx]) ?_
 refine RM rfl ?_
 refine RQ (ok_move rfl) ?_
 refine RP rfl rfl ?_
 refine RM rfl ?_
 refine RQ (ok_field field35_0 (by decide) rfl) ?_
 refine RQ (ok_loadV (s := 1000001) (by decide) Tryd.underlying5 rfl rfl rfl (rfl)) ?_
 refine RQ (ok_bin rfl rfl rfl) ?_; refine RZ (.bool false) (by simp; omega) ?_
 refine RP rfl rfl ?_
 refine RM rfl ?_
 refine RQ (ok_field field35_0 (by decide) rfl) ?_
 refine RQ (ok_loadV (s := 1000001) (by decide) Tryd.underlying5 rfl rfl rfl (rfl)) ?_
 refine RQ (ok_bin rfl rfl rfl) ?_; refine RZ (.bool false) (by simp; omega) ?_
 refine RP rfl rfl ?_
 refine RN ?_
 refine A.sub (KC 35 rfl (KC 1000001 rfl KN)) ?_
 refine A.no rfl ?_
 refine A.skip ?_
 refine EN ?_
 refine GS ?_
 refine TL ?_
 refine RA rfl ?_
 refine RN ?_
 refine A.ret ?_
 exact End.ret1 rfl rfl (by first | exact Le.refl _ | exact Le.old _ _)
theorem rck_a4 (x : UInt8) (s c : Nat) (t : List UInt8) (ht : t.length = 32) (hx : x.toNat = 0) (h0 : s = 0) (h1 : c = 0) (hz : t = zD) : Fn Tryd.prog 54 [.v (aggV (recV x s c t))] (.v (.int .i64 0)) := by
 refine Fn.of Tryd.func54 rfl (by kernel_rfl) Tryd.ntmps54 (by simp) (fun w => [(0, .v (aggV (recV x s c t)))]) (fun w => (Start.v rfl Start.nil)) fun w₀ => ?_
 refine GS ?_
 refine TN 0 ?_
 refine RN ?_
 refine ⟨_, _, eff_box (n := 36) (d := 1) (k := 1000001) rfl (by decide), fun b1 hb1 => ?_⟩
 have hBb1 := hb1.1
 refine TL ?_
 refine RA rfl ?_
 refine RN ?_
 refine GS ?_
 refine TL ?_
 refine RS (ok_field field35_1 (by decide) rfl) ?_
 refine RS (ok_field field31_0 (by decide) rfl) ?_
 refine RS (ok_loadV (s := 1000001) (by decide) Tryd.underlying28 rfl rfl rfl (rfl)) ?_
 refine RBS rfl rfl rfl (.bool true) (by simp [h0]) ?_
 refine RM rfl ?_
 refine RQ (ok_field field35_1 (by decide) rfl) ?_
 refine RQ (ok_field field31_1 (by decide) rfl) ?_
 refine RQ (ok_loadV (s := 1000001) (by decide) Tryd.underlying29 rfl rfl rfl (rfl)) ?_
 refine RQ (ok_bin rfl rfl rfl) ?_; refine RZ (.bool true) (by simp [h1]) ?_
 refine RP rfl rfl ?_
 refine RM rfl ?_
 refine RQ (ok_field field35_2 (by decide) rfl) ?_
 refine RQ (ok_loadP (s := 1000001) (by decide) Tryd.underlying33 rfl size33 rfl rfl (by simp [recV, ht]) (rec_tag ht)) ?_
 refine RQ (ok_litP [] Tryd.underlying33 info5 zero33 (by decide) trivial rfl) ?_; refine RZ (aggV (zD.map byteV)) (by rfl) ?_
 refine RQ (ok_eqlT (n := 4) (decide (t = zD)) flat33r (by decide) (by kernel_rfl) (by kernel_rfl) rfl rfl (kinB ht) (kinB (l := zD) rfl) (decB _ _)) ?_; refine RZ (.bool true) (by simp [hz]) ?_
 refine RP rfl rfl ?_
 refine RA rfl ?_
 refine RN ?_
 refine A.seq ?_
 refine GS ?_
 refine TL ?_
 refine RS (ok_field field35_0 (by decide) rfl) ?_
 refine RS (ok_loadV (s := 1000001) (by decide) Tryd.underlying5 rfl rfl rfl (rfl)) ?_
 refine RBS rfl rfl rfl (.bool true) (by simp [hx]) ?_
 refine RM rfl ?_
 refine RQ (ok_move rfl) ?_
 refine RP rfl rfl ?_
 refine RM rfl ?_
 refine RK ?_
 refine RK ?_
 refine RK ?_
 refine RP rfl rfl ?_
 refine RM rfl ?_
 refine RK ?_
 refine RK ?_
 refine RK ?_
 refine RP rfl rfl ?_
 refine RN ?_
 refine A.sub (KC 35 rfl (KC 1000001 rfl KN)) ?_
 refine A.yes rfl ?_
 refine GS ?_
 refine TL ?_
 refine RA rfl ?_
 refine RN ?_
 refine A.ret ?_
 refine End.ret_then ?_
 exact End.ret1 rfl rfl (by first | exact Le.refl _ | exact Le.old _ _)
theorem rck_b1 (x : UInt8) (s c : Nat) (t : List UInt8) (ht : t.length = 32) (hx : x.toNat = 1) (hz : s ≠ 0) : Fn Tryd.prog 54 [.v (aggV (recV x s c t))] (.v (.int .i64 0)) := by
 refine Fn.of Tryd.func54 rfl (by kernel_rfl) Tryd.ntmps54 (by simp) (fun w => [(0, .v (aggV (recV x s c t)))]) (fun w => (Start.v rfl Start.nil)) fun w₀ => ?_
 refine GS ?_
 refine TN 0 ?_
 refine RN ?_
 refine ⟨_, _, eff_box (n := 36) (d := 1) (k := 1000001) rfl (by decide), fun b1 hb1 => ?_⟩
 have hBb1 := hb1.1
 refine TL ?_
 refine RA rfl ?_
 refine RN ?_
 refine GS ?_
 refine TL ?_
 refine RS (ok_field field35_1 (by decide) rfl) ?_
 refine RS (ok_field field31_0 (by decide) rfl) ?_
 refine RS (ok_loadV (s := 1000001) (by decide) Tryd.underlying28 rfl rfl rfl (rfl)) ?_
 refine RBS rfl rfl rfl (.bool false) (by simp [hz]) ?_
 refine RM rfl ?_
 refine RK ?_
 refine RK ?_
 refine RK ?_
 refine RK ?_
 refine RP rfl rfl ?_
 refine RM rfl ?_
 refine RK ?_
 refine RK ?_
 refine RK ?_
 refine RK ?_
 refine RP rfl rfl ?_
 refine RA rfl ?_
 refine RN ?_
 refine A.seq ?_
 refine GS ?_
 refine TL ?_
 refine RS (ok_field field35_0 (by decide) rfl) ?_
 refine RS (ok_loadV (s := 1000001) (by decide) Tryd.underlying5 rfl rfl rfl (rfl)) ?_
 refine RBS rfl rfl rfl (.bool false) (by simp; omega) ?_
 refine RM rfl ?_
 refine RK ?_
 refine RP rfl rfl ?_
 refine RM rfl ?_
 refine RQ (ok_field field35_0 (by decide) rfl) ?_
 refine RQ (ok_loadV (s := 1000001) (by decide) Tryd.underlying5 rfl rfl rfl (rfl)) ?_
 refine RQ (ok_bin rfl rfl rfl) ?_; refine RZ (.bool true) (by simp [hx]) ?_
 refine RP rfl rfl ?_
 refine RM rfl ?_
 refine RK ?_
 refine RK ?_
 refine RK ?_
 refine RP rfl rfl ?_
 refine RN ?_
 refine A.sub (KC 35 rfl (KC 1000001 rfl KN)) ?_
 refine A.yes rfl ?_
 refine GS ?_
 refine TL ?_
 refine RA rfl ?_
 refine RN ?_
 refine A.ret ?_
 refine End.ret_then ?_
 exact End.ret1 rfl rfl (by first | exact Le.refl _ | exact Le.old _ _)
theorem rck_b2 (x : UInt8) (s c : Nat) (t : List UInt8) (ht : t.length = 32) (hx : x.toNat = 1) (h0 : s = 0) (hz : c ≠ 0) : Fn Tryd.prog 54 [.v (aggV (recV x s c t))] (.v (.int .i64 0)) := by
 refine Fn.of Tryd.func54 rfl (by kernel_rfl) Tryd.ntmps54 (by simp) (fun w => [(0, .v (aggV (recV x s c t)))]) (fun w => (Start.v rfl Start.nil)) fun w₀ => ?_
 refine GS ?_
 refine TN 0 ?_
 refine RN ?_
 refine ⟨_, _, eff_box (n := 36) (d := 1) (k := 1000001) rfl (by decide), fun b1 hb1 => ?_⟩
 have hBb1 := hb1.1
 refine TL ?_
 refine RA rfl ?_
 refine RN ?_
 refine GS ?_
 refine TL ?_
 refine RS (ok_field field35_1 (by decide) rfl) ?_
 refine RS (ok_field field31_0 (by decide) rfl) ?_
 refine RS (ok_loadV (s := 1000001) (by decide) Tryd.underlying28 rfl rfl rfl (rfl)) ?_
 refine RBS rfl rfl rfl (.bool true) (by simp [h0]) ?_
 refine RM rfl ?_
 refine RQ (ok_field field35_1 (by decide) rfl) ?_
 refine RQ (ok_field field31_1 (by decide) rfl) ?_
 refine RQ (ok_loadV (s := 1000001) (by decide) Tryd.underlying29 rfl rfl rfl (rfl)) ?_
 refine RQ (ok_bin rfl rfl rfl) ?_; refine RZ (.bool false) (by simp [hz]) ?_
 refine RP rfl rfl ?_
 refine RM rfl ?_
 refine RK ?_
 refine RK ?_
 refine RK ?_
 refine RK ?_
 refine RP rfl rfl ?_
 refine RA rfl ?_
 refine RN ?_
 refine A.seq ?_
 refine GS ?_
 refine TL ?_
 refine RS (ok_field field35_0 (by decide) rfl) ?_
 refine RS (ok_loadV (s := 1000001) (by decide) Tryd.underlying5 rfl rfl rfl (rfl)) ?_
 refine RBS rfl rfl rfl (.bool false) (by simp; omega) ?_
 refine RM rfl ?_
 refine RK ?_
 refine RP rfl rfl ?_
 refine RM rfl ?_
 refine RQ (ok_field field35_0 (by decide) rfl) ?_
 refine RQ (ok_loadV (s := 1000001) (by decide) Tryd.underlying5 rfl rfl rfl (rfl)) ?_
 refine RQ (ok_bin rfl rfl rfl) ?_; refine RZ (.bool true) (by simp [hx]) ?_
 refine RP rfl rfl ?_
 refine RM rfl ?_
 refine RK ?_
 refine RK ?_
 refine RK ?_
 refine RP rfl rfl ?_
 refine RN ?_
 refine A.sub (KC 35 rfl (KC 1000001 rfl KN)) ?_
 refine A.yes rfl ?_
 refine GS ?_
 refine TL ?_
 refine RA rfl ?_
 refine RN ?_
 refine A.ret ?_
 refine End.ret_then ?_
 exact End.ret1 rfl rfl (by first | exact Le.refl _ | exact Le.old _ _)
theorem rck_b3 (x : UInt8) (s c : Nat) (t : List UInt8) (ht : t.length = 32) (hx : x.toNat = 1) (h0 : s = 0) (h1 : c = 0) (hz : t ≠ zD) : Fn Tryd.prog 54 [.v (aggV (recV x s c t))] (.v (.int .i64 0)) := by
 refine Fn.of Tryd.func54 rfl (by kernel_rfl) Tryd.ntmps54 (by simp) (fun w => [(0, .v (aggV (recV x s c t)))]) (fun w => (Start.v rfl Start.nil)) fun w₀ => ?_
 refine GS ?_
 refine TN 0 ?_
 refine RN ?_
 refine ⟨_, _, eff_box (n := 36) (d := 1) (k := 1000001) rfl (by decide), fun b1 hb1 => ?_⟩
 have hBb1 := hb1.1
 refine TL ?_
 refine RA rfl ?_
 refine RN ?_
 refine GS ?_
 refine TL ?_
 refine RS (ok_field field35_1 (by decide) rfl) ?_
 refine RS (ok_field field31_0 (by decide) rfl) ?_
 refine RS (ok_loadV (s := 1000001) (by decide) Tryd.underlying28 rfl rfl rfl (rfl)) ?_
 refine RBS rfl rfl rfl (.bool true) (by simp [h0]) ?_
 refine RM rfl ?_
 refine RQ (ok_field field35_1 (by decide) rfl) ?_
 refine RQ (ok_field field31_1 (by decide) rfl) ?_
 refine RQ (ok_loadV (s := 1000001) (by decide) Tryd.underlying29 rfl rfl rfl (rfl)) ?_
 refine RQ (ok_bin rfl rfl rfl) ?_; refine RZ (.bool true) (by simp [h1]) ?_
 refine RP rfl rfl ?_
 refine RM rfl ?_
 refine RQ (ok_field field35_2 (by decide) rfl) ?_
 refine RQ (ok_loadP (s := 1000001) (by decide) Tryd.underlying33 rfl size33 rfl rfl (by simp [recV, ht]) (rec_tag ht)) ?_
 refine RQ (ok_litP [] Tryd.underlying33 info5 zero33 (by decide) trivial rfl) ?_; refine RZ (aggV (zD.map byteV)) (by rfl) ?_
 refine RQ (ok_eqlT (n := 4) (decide (t = zD)) flat33r (by decide) (by kernel_rfl) (by kernel_rfl) rfl rfl (kinB ht) (kinB (l := zD) rfl) (decB _ _)) ?_; refine RZ (.bool false) (by simp [hz]) ?_
 refine RP rfl rfl ?_
 refine RA rfl ?_
 refine RN ?_
 refine A.seq ?_
 refine GS ?_
 refine TL ?_
 refine RS (ok_field field35_0 (by decide) rfl) ?_
 refine RS (ok_loadV (s := 1000001) (by decide) Tryd.underlying5 rfl rfl rfl (rfl)) ?_
 refine RBS rfl rfl rfl (.bool false) (by simp; omega) ?_
 refine RM rfl ?_
 refine RK ?_
 refine RP rfl rfl ?_
 refine RM rfl ?_
 refine RQ (ok_field field35_0 (by decide) rfl) ?_
 refine RQ (ok_loadV (s := 1000001) (by decide) Tryd.underlying5 rfl rfl rfl (rfl)) ?_
 refine RQ (ok_bin rfl rfl rfl) ?_; refine RZ (.bool true) (by simp [hx]) ?_
 refine RP rfl rfl ?_
 refine RM rfl ?_
 refine RK ?_
 refine RK ?_
 refine RK ?_
 refine RP rfl rfl ?_
 refine RN ?_
 refine A.sub (KC 35 rfl (KC 1000001 rfl KN)) ?_
 refine A.yes rfl ?_
 refine GS ?_
 refine TL ?_
 refine RA rfl ?_
 refine RN ?_
 refine A.ret ?_
 refine End.ret_then ?_
 exact End.ret1 rfl rfl (by first | exact Le.refl _ | exact Le.old _ _)
theorem rck_b4 (x : UInt8) (s c : Nat) (t : List UInt8) (ht : t.length = 32) (hx : x.toNat = 1) (h0 : s = 0) (h1 : c = 0) (hz : t = zD) : Fn Tryd.prog 54 [.v (aggV (recV x s c t))] (.v (.int .i64 0)) := by
 refine Fn.of Tryd.func54 rfl (by kernel_rfl) Tryd.ntmps54 (by simp) (fun w => [(0, .v (aggV (recV x s c t)))]) (fun w => (Start.v rfl Start.nil)) fun w₀ => ?_
 refine GS ?_
 refine TN 0 ?_
 refine RN ?_
 refine ⟨_, _, eff_box (n := 36) (d := 1) (k := 1000001) rfl (by decide), fun b1 hb1 => ?_⟩
 have hBb1 := hb1.1
 refine TL ?_
 refine RA rfl ?_
 refine RN ?_
 refine GS ?_
 refine TL ?_
 refine RS (ok_field field35_1 (by decide) rfl) ?_
 refine RS (ok_field field31_0 (by decide) rfl) ?_
 refine RS (ok_loadV (s := 1000001) (by decide) Tryd.underlying28 rfl rfl rfl (rfl)) ?_
 refine RBS rfl rfl rfl (.bool true) (by simp [h0]) ?_
 refine RM rfl ?_
 refine RQ (ok_field field35_1 (by decide) rfl) ?_
 refine RQ (ok_field field31_1 (by decide) rfl) ?_
 refine RQ (ok_loadV (s := 1000001) (by decide) Tryd.underlying29 rfl rfl rfl (rfl)) ?_
 refine RQ (ok_bin rfl rfl rfl) ?_; refine RZ (.bool true) (by simp [h1]) ?_
 refine RP rfl rfl ?_
 refine RM rfl ?_
 refine RQ (ok_field field35_2 (by decide) rfl) ?_
 refine RQ (ok_loadP (s := 1000001) (by decide) Tryd.underlying33 rfl size33 rfl rfl (by simp [recV, ht]) (rec_tag ht)) ?_
 refine RQ (ok_litP [] Tryd.underlying33 info5 zero33 (by decide) trivial rfl) ?_; refine RZ (aggV (zD.map byteV)) (by rfl) ?_
 refine RQ (ok_eqlT (n := 4) (decide (t = zD)) flat33r (by decide) (by kernel_rfl) (by kernel_rfl) rfl rfl (kinB ht) (kinB (l := zD) rfl) (decB _ _)) ?_; refine RZ (.bool true) (by simp [hz]) ?_
 refine RP rfl rfl ?_
 refine RA rfl ?_
 refine RN ?_
 refine A.seq ?_
 refine GS ?_
 refine TL ?_
 refine RS (ok_field field35_0 (by decide) rfl) ?_
 refine RS (ok_loadV (s := 1000001) (by decide) Tryd.underlying5 rfl rfl rfl (rfl)) ?_
 refine RBS rfl rfl rfl (.bool false) (by simp; omega) ?_
 refine RM rfl ?_
 refine RK ?_
 refine RP rfl rfl ?_
 refine RM rfl ?_
 refine RQ (ok_field field35_0 (by decide) rfl) ?_
 refine RQ (ok_loadV (s := 1000001) (by decide) Tryd.underlying5 rfl rfl rfl (rfl)) ?_
 refine RQ (ok_bin rfl rfl rfl) ?_; refine RZ (.bool true) (by simp [hx]) ?_
 refine RP rfl rfl ?_
 refine RM rfl ?_
 refine RK ?_
 refine RK ?_
 refine RK ?_
 refine RP rfl rfl ?_
 refine RN ?_
 refine A.sub (KC 35 rfl (KC 1000001 rfl KN)) ?_
 refine A.yes rfl ?_
 refine GS ?_
 refine TL ?_
 refine RA rfl ?_
 refine RN ?_
 refine A.ret ?_
 refine End.ret_then ?_
 exact End.ret1 rfl rfl (by first | exact Le.refl _ | exact Le.old _ _)
theorem rck_c1 (x : UInt8) (s c : Nat) (t : List UInt8) (ht : t.length = 32) (hx : x.toNat = 2) (hz : s ≠ 0) : Fn Tryd.prog 54 [.v (aggV (recV x s c t))] (.v (.int .i64 0)) := by
 refine Fn.of Tryd.func54 rfl (by kernel_rfl) Tryd.ntmps54 (by simp) (fun w => [(0, .v (aggV (recV x s c t)))]) (fun w => (Start.v rfl Start.nil)) fun w₀ => ?_
 refine GS ?_
 refine TN 0 ?_
 refine RN ?_
 refine ⟨_, _, eff_box (n := 36) (d := 1) (k := 1000001) rfl (by decide), fun b1 hb1 => ?_⟩
 have hBb1 := hb1.1
 refine TL ?_
 refine RA rfl ?_
 refine RN ?_
 refine GS ?_
 refine TL ?_
 refine RS (ok_field field35_1 (by decide) rfl) ?_
 refine RS (ok_field field31_0 (by decide) rfl) ?_
 refine RS (ok_loadV (s := 1000001) (by decide) Tryd.underlying28 rfl rfl rfl (rfl)) ?_
 refine RBS rfl rfl rfl (.bool false) (by simp [hz]) ?_
 refine RM rfl ?_
 refine RK ?_
 refine RK ?_
 refine RK ?_
 refine RK ?_
 refine RP rfl rfl ?_
 refine RM rfl ?_
 refine RK ?_
 refine RK ?_
 refine RK ?_
 refine RK ?_
 refine RP rfl rfl ?_
 refine RA rfl ?_
 refine RN ?_
 refine A.seq ?_
 refine GS ?_
 refine TL ?_
 refine RS (ok_field field35_0 (by decide) rfl) ?_
 refine RS (ok_loadV (s := 1000001) (by decide) Tryd.underlying5 rfl rfl rfl (rfl)) ?_
 refine RBS rfl rfl rfl (.bool false) (by simp; omega) ?_
 refine RM rfl ?_
 refine RK ?_
 refine RP rfl rfl ?_
 refine RM rfl ?_
 refine RQ (ok_field field35_0 (by decide) rfl) ?_
 refine RQ (ok_loadV (s := 1000001) (by decide) Tryd.underlying5 rfl rfl rfl (rfl)) ?_
 refine RQ (ok_bin rfl rfl rfl) ?_; refine RZ (.bool false) (by simp; omega) ?_
 refine RP rfl rfl ?_
 refine RM rfl ?_
 refine RQ (ok_field field35_0 (by decide) rfl) ?_
 refine RQ (ok_loadV (s := 1000001) (by decide) Tryd.underlying5 rfl rfl rfl (rfl)) ?_
 refine RQ (ok_bin rfl rfl rfl) ?_; refine RZ (.bool true) (by simp [hx]) ?_
 refine RP rfl rfl ?_
 refine RN ?_
 refine A.sub (KC 35 rfl (KC 1000001 rfl KN)) ?_
 refine A.yes rfl ?_
 refine GS ?_
 refine TL ?_
 refine RA rfl ?_
 refine RN ?_
 refine A.ret ?_
 refine End.ret_then ?_
 exact End.ret1 rfl rfl (by first | exact Le.refl _ | exact Le.old _ _)
theorem rck_c2 (x : UInt8) (s c : Nat) (t : List UInt8) (ht : t.length = 32) (hx : x.toNat = 2) (h0 : s = 0) (hz : c ≠ 0) : Fn Tryd.prog 54 [.v (aggV (recV x s c t))] (.v (.int .i64 0)) := by
 refine Fn.of Tryd.func54 rfl (by kernel_rfl) Tryd.ntmps54 (by simp) (fun w => [(0, .v (aggV (recV x s c t)))]) (fun w => (Start.v rfl Start.nil)) fun w₀ => ?_
 refine GS ?_
 refine TN 0 ?_
 refine RN ?_
 refine ⟨_, _, eff_box (n := 36) (d := 1) (k := 1000001) rfl (by decide), fun b1 hb1 => ?_⟩
 have hBb1 := hb1.1
 refine TL ?_
 refine RA rfl ?_
 refine RN ?_
 refine GS ?_
 refine TL ?_
 refine RS (ok_field field35_1 (by decide) rfl) ?_
 refine RS (ok_field field31_0 (by decide) rfl) ?_
 refine RS (ok_loadV (s := 1000001) (by decide) Tryd.underlying28 rfl rfl rfl (rfl)) ?_
 refine RBS rfl rfl rfl (.bool true) (by simp [h0]) ?_
 refine RM rfl ?_
 refine RQ (ok_field field35_1 (by decide) rfl) ?_
 refine RQ (ok_field field31_1 (by decide) rfl) ?_
 refine RQ (ok_loadV (s := 1000001) (by decide) Tryd.underlying29 rfl rfl rfl (rfl)) ?_
 refine RQ (ok_bin rfl rfl rfl) ?_; refine RZ (.bool false) (by simp [hz]) ?_
 refine RP rfl rfl ?_
 refine RM rfl ?_
 refine RK ?_
 refine RK ?_
 refine RK ?_
 refine RK ?_
 refine RP rfl rfl ?_
 refine RA rfl ?_
 refine RN ?_
 refine A.seq ?_
 refine GS ?_
 refine TL ?_
 refine RS (ok_field field35_0 (by decide) rfl) ?_
 refine RS (ok_loadV (s := 1000001) (by decide) Tryd.underlying5 rfl rfl rfl (rfl)) ?_
 refine RBS rfl rfl rfl (.bool false) (by simp; omega) ?_
 refine RM rfl ?_
 refine RK ?_
 refine RP rfl rfl ?_
 refine RM rfl ?_
 refine RQ (ok_field field35_0 (by decide) rfl) ?_
 refine RQ (ok_loadV (s := 1000001) (by decide) Tryd.underlying5 rfl rfl rfl (rfl)) ?_
 refine RQ (ok_bin rfl rfl rfl) ?_; refine RZ (.bool false) (by simp; omega) ?_
 refine RP rfl rfl ?_
 refine RM rfl ?_
 refine RQ (ok_field field35_0 (by decide) rfl) ?_
 refine RQ (ok_loadV (s := 1000001) (by decide) Tryd.underlying5 rfl rfl rfl (rfl)) ?_
 refine RQ (ok_bin rfl rfl rfl) ?_; refine RZ (.bool true) (by simp [hx]) ?_
 refine RP rfl rfl ?_
 refine RN ?_
 refine A.sub (KC 35 rfl (KC 1000001 rfl KN)) ?_
 refine A.yes rfl ?_
 refine GS ?_
 refine TL ?_
 refine RA rfl ?_
 refine RN ?_
 refine A.ret ?_
 refine End.ret_then ?_
 exact End.ret1 rfl rfl (by first | exact Le.refl _ | exact Le.old _ _)
theorem rck_c3 (x : UInt8) (s c : Nat) (t : List UInt8) (ht : t.length = 32) (hx : x.toNat = 2) (h0 : s = 0) (h1 : c = 0) (hz : t ≠ zD) : Fn Tryd.prog 54 [.v (aggV (recV x s c t))] (.v (.int .i64 0)) := by
 refine Fn.of Tryd.func54 rfl (by kernel_rfl) Tryd.ntmps54 (by simp) (fun w => [(0, .v (aggV (recV x s c t)))]) (fun w => (Start.v rfl Start.nil)) fun w₀ => ?_
 refine GS ?_
 refine TN 0 ?_
 refine RN ?_
 refine ⟨_, _, eff_box (n := 36) (d := 1) (k := 1000001) rfl (by decide), fun b1 hb1 => ?_⟩
 have hBb1 := hb1.1
 refine TL ?_
 refine RA rfl ?_
 refine RN ?_
 refine GS ?_
 refine TL ?_
 refine RS (ok_field field35_1 (by decide) rfl) ?_
 refine RS (ok_field field31_0 (by decide) rfl) ?_
 refine RS (ok_loadV (s := 1000001) (by decide) Tryd.underlying28 rfl rfl rfl (rfl)) ?_
 refine RBS rfl rfl rfl (.bool true) (by simp [h0]) ?_
 refine RM rfl ?_
 refine RQ (ok_field field35_1 (by decide) rfl) ?_
 refine RQ (ok_field field31_1 (by decide) rfl) ?_
 refine RQ (ok_loadV (s := 1000001) (by decide) Tryd.underlying29 rfl rfl rfl (rfl)) ?_
 refine RQ (ok_bin rfl rfl rfl) ?_; refine RZ (.bool true) (by simp [h1]) ?_
 refine RP rfl rfl ?_
 refine RM rfl ?_
 refine RQ (ok_field field35_2 (by decide) rfl) ?_
 refine RQ (ok_loadP (s := 1000001) (by decide) Tryd.underlying33 rfl size33 rfl rfl (by simp [recV, ht]) (rec_tag ht)) ?_
 refine RQ (ok_litP [] Tryd.underlying33 info5 zero33 (by decide) trivial rfl) ?_; refine RZ (aggV (zD.map byteV)) (by rfl) ?_
 refine RQ (ok_eqlT (n := 4) (decide (t = zD)) flat33r (by decide) (by kernel_rfl) (by kernel_rfl) rfl rfl (kinB ht) (kinB (l := zD) rfl) (decB _ _)) ?_; refine RZ (.bool false) (by simp [hz]) ?_
 refine RP rfl rfl ?_
 refine RA rfl ?_
 refine RN ?_
 refine A.seq ?_
 refine GS ?_
 refine TL ?_
 refine RS (ok_field field35_0 (by decide) rfl) ?_
 refine RS (ok_loadV (s := 1000001) (by decide) Tryd.underlying5 rfl rfl rfl (rfl)) ?_
 refine RBS rfl rfl rfl (.bool false) (by simp; omega) ?_
 refine RM rfl ?_
 refine RK ?_
 refine RP rfl rfl ?_
 refine RM rfl ?_
 refine RQ (ok_field field35_0 (by decide) rfl) ?_
 refine RQ (ok_loadV (s := 1000001) (by decide) Tryd.underlying5 rfl rfl rfl (rfl)) ?_
 refine RQ (ok_bin rfl rfl rfl) ?_; refine RZ (.bool false) (by simp; omega) ?_
 refine RP rfl rfl ?_
 refine RM rfl ?_
 refine RQ (ok_field field35_0 (by decide) rfl) ?_
 refine RQ (ok_loadV (s := 1000001) (by decide) Tryd.underlying5 rfl rfl rfl (rfl)) ?_
 refine RQ (ok_bin rfl rfl rfl) ?_; refine RZ (.bool true) (by simp [hx]) ?_
 refine RP rfl rfl ?_
 refine RN ?_
 refine A.sub (KC 35 rfl (KC 1000001 rfl KN)) ?_
 refine A.yes rfl ?_
 refine GS ?_
 refine TL ?_
 refine RA rfl ?_
 refine RN ?_
 refine A.ret ?_
 refine End.ret_then ?_
 exact End.ret1 rfl rfl (by first | exact Le.refl _ | exact Le.old _ _)
theorem rck_c4 (x : UInt8) (s c : Nat) (t : List UInt8) (ht : t.length = 32) (hx : x.toNat = 2) (h0 : s = 0) (h1 : c = 0) (hz : t = zD) : Fn Tryd.prog 54 [.v (aggV (recV x s c t))] (.v (.int .i64 0)) := by
 refine Fn.of Tryd.func54 rfl (by kernel_rfl) Tryd.ntmps54 (by simp) (fun w => [(0, .v (aggV (recV x s c t)))]) (fun w => (Start.v rfl Start.nil)) fun w₀ => ?_
 refine GS ?_
 refine TN 0 ?_
 refine RN ?_
 refine ⟨_, _, eff_box (n := 36) (d := 1) (k := 1000001) rfl (by decide), fun b1 hb1 => ?_⟩
 have hBb1 := hb1.1
 refine TL ?_
 refine RA rfl ?_
 refine RN ?_
 refine GS ?_
 refine TL ?_
 refine RS (ok_field field35_1 (by decide) rfl) ?_
 refine RS (ok_field field31_0 (by decide) rfl) ?_
 refine RS (ok_loadV (s := 1000001) (by decide) Tryd.underlying28 rfl rfl rfl (rfl)) ?_
 refine RBS rfl rfl rfl (.bool true) (by simp [h0]) ?_
 refine RM rfl ?_
 refine RQ (ok_field field35_1 (by decide) rfl) ?_
 refine RQ (ok_field field31_1 (by decide) rfl) ?_
 refine RQ (ok_loadV (s := 1000001) (by decide) Tryd.underlying29 rfl rfl rfl (rfl)) ?_
 refine RQ (ok_bin rfl rfl rfl) ?_; refine RZ (.bool true) (by simp [h1]) ?_
 refine RP rfl rfl ?_
 refine RM rfl ?_
 refine RQ (ok_field field35_2 (by decide) rfl) ?_
 refine RQ (ok_loadP (s := 1000001) (by decide) Tryd.underlying33 rfl size33 rfl rfl (by simp [recV, ht]) (rec_tag ht)) ?_
 refine RQ (ok_litP [] Tryd.underlying33 info5 zero33 (by decide) trivial rfl) ?_; refine RZ (aggV (zD.map byteV)) (by rfl) ?_
 refine RQ (ok_eqlT (n := 4) (decide (t = zD)) flat33r (by decide) (by kernel_rfl) (by kernel_rfl) rfl rfl (kinB ht) (kinB (l := zD) rfl) (decB _ _)) ?_; refine RZ (.bool true) (by simp [hz]) ?_
 refine RP rfl rfl ?_
 refine RA rfl ?_
 refine RN ?_
 refine A.seq ?_
 refine GS ?_
 refine TL ?_
 refine RS (ok_field field35_0 (by decide) rfl) ?_
 refine RS (ok_loadV (s := 1000001) (by decide) Tryd.underlying5 rfl rfl rfl (rfl)) ?_
 refine RBS rfl rfl rfl (.bool false) (by simp; omega) ?_
 refine RM rfl ?_
 refine RK ?_
 refine RP rfl rfl ?_
 refine RM rfl ?_
 refine RQ (ok_field field35_0 (by decide) rfl) ?_
 refine RQ (ok_loadV (s := 1000001) (by decide) Tryd.underlying5 rfl rfl rfl (rfl)) ?_
 refine RQ (ok_bin rfl rfl rfl) ?_; refine RZ (.bool false) (by simp; omega) ?_
 refine RP rfl rfl ?_
 refine RM rfl ?_
 refine RQ (ok_field field35_0 (by decide) rfl) ?_
 refine RQ (ok_loadV (s := 1000001) (by decide) Tryd.underlying5 rfl rfl rfl (rfl)) ?_
 refine RQ (ok_bin rfl rfl rfl) ?_; refine RZ (.bool true) (by simp [hx]) ?_
 refine RP rfl rfl ?_
 refine RN ?_
 refine A.sub (KC 35 rfl (KC 1000001 rfl KN)) ?_
 refine A.yes rfl ?_
 refine GS ?_
 refine TL ?_
 refine RA rfl ?_
 refine RN ?_
 refine A.ret ?_
 refine End.ret_then ?_
 exact End.ret1 rfl rfl (by first | exact Le.refl _ | exact Le.old _ _)
theorem rck_d1 (x : UInt8) (s c : Nat) (t : List UInt8) (ht : t.length = 32) (hx : 2 < x.toNat) (hz : s ≠ 0) : Fn Tryd.prog 54 [.v (aggV (recV x s c t))] (.v (.int .i64 1)) := by
 refine Fn.of Tryd.func54 rfl (by kernel_rfl) Tryd.ntmps54 (by simp) (fun w => [(0, .v (aggV (recV x s c t)))]) (fun w => (Start.v rfl Start.nil)) fun w₀ => ?_
 refine GS ?_
 refine TN 0 ?_
 refine RN ?_
 refine ⟨_, _, eff_box (n := 36) (d := 1) (k := 1000001) rfl (by decide), fun b1 hb1 => ?_⟩
 have hBb1 := hb1.1
 refine TL ?_
 refine RA rfl ?_
 refine RN ?_
 refine GS ?_
 refine TL ?_
 refine RS (ok_field field35_1 (by decide) rfl) ?_
 refine RS (ok_field field31_0 (by decide) rfl) ?_
 refine RS (ok_loadV (s := 1000001) (by decide) Tryd.underlying28 rfl rfl rfl (rfl)) ?_
 refine RBS rfl rfl rfl (.bool false) (by simp [hz]) ?_
 refine RM rfl ?_
 refine RK ?_
 refine RK ?_
 refine RK ?_
 refine RK ?_
 refine RP rfl rfl ?_
 refine RM rfl ?_
 refine RK ?_
 refine RK ?_
 refine RK ?_
 refine RK ?_
 refine RP rfl rfl ?_
 refine RA rfl ?_
 refine RN ?_
 refine A.seq ?_
 refine GS ?_
 refine TL ?_
 refine RS (ok_field field35_0 (by decide) rfl) ?_
 refine RS (ok_loadV (s := 1000001) (by decide) Tryd.underlying5 rfl rfl rfl (rfl)) ?_
 refine RBS rfl rfl rfl (.bool false) (by simp; omega) ?_
 refine RM rfl ?_
 refine RK ?_
 refine RP rfl rfl ?_
 refine RM rfl ?_
 refine RQ (ok_field field35_0 (by decide) rfl) ?_
 refine RQ (ok_loadV (s := 1000001) (by decide) Tryd.underlying5 rfl rfl rfl (rfl)) ?_
 refine RQ (ok_bin rfl rfl rfl) ?_; refine RZ (.bool false) (by simp; omega) ?_
 refine RP rfl rfl ?_
 refine RM rfl ?_
 refine RQ (ok_field field35_0 (by decide) rfl) ?_
 refine RQ (ok_loadV (s := 1000001) (by decide) Tryd.underlying5 rfl rfl rfl (rfl)) ?_
 refine RQ (ok_bin rfl rfl rfl) ?_; refine RZ (.bool false) (by simp; omega) ?_
 refine RP rfl rfl ?_
 refine RN ?_
 refine A.sub (KC 35 rfl (KC 1000001 rfl KN)) ?_
 refine A.no rfl ?_
 refine A.skip ?_
 refine EN ?_
 refine GS ?_
 refine TL ?_
 refine RA rfl ?_
 refine RN ?_
 refine A.ret ?_
 exact End.ret1 rfl rfl (by first | exact Le.refl _ | exact Le.old _ _)
theorem rck_d2 (x : UInt8) (s c : Nat) (t : List UInt8) (ht : t.length = 32) (hx : 2 < x.toNat) (h0 : s = 0) (hz : c ≠ 0) : Fn Tryd.prog 54 [.v (aggV (recV x s c t))] (.v (.int .i64 1)) := by
 refine Fn.of Tryd.func54 rfl (by kernel_rfl) Tryd.ntmps54 (by simp) (fun w => [(0, .v (aggV (recV x s c t)))]) (fun w => (Start.v rfl Start.nil)) fun w₀ => ?_
 refine GS ?_
 refine TN 0 ?_
 refine RN ?_
 refine ⟨_, _, eff_box (n := 36) (d := 1) (k := 1000001) rfl (by decide), fun b1 hb1 => ?_⟩
 have hBb1 := hb1.1
 refine TL ?_
 refine RA rfl ?_
 refine RN ?_
 refine GS ?_
 refine TL ?_
 refine RS (ok_field field35_1 (by decide) rfl) ?_
 refine RS (ok_field field31_0 (by decide) rfl) ?_
 refine RS (ok_loadV (s := 1000001) (by decide) Tryd.underlying28 rfl rfl rfl (rfl)) ?_
 refine RBS rfl rfl rfl (.bool true) (by simp [h0]) ?_
 refine RM rfl ?_
 refine RQ (ok_field field35_1 (by decide) rfl) ?_
 refine RQ (ok_field field31_1 (by decide) rfl) ?_
 refine RQ (ok_loadV (s := 1000001) (by decide) Tryd.underlying29 rfl rfl rfl (rfl)) ?_
 refine RQ (ok_bin rfl rfl rfl) ?_; refine RZ (.bool false) (by simp [hz]) ?_
 refine RP rfl rfl ?_
 refine RM rfl ?_
 refine RK ?_
 refine RK ?_
 refine RK ?_
 refine RK ?_
 refine RP rfl rfl ?_
 refine RA rfl ?_
 refine RN ?_
 refine A.seq ?_
 refine GS ?_
 refine TL ?_
 refine RS (ok_field field35_0 (by decide) rfl) ?_
 refine RS (ok_loadV (s := 1000001) (by decide) Tryd.underlying5 rfl rfl rfl (rfl)) ?_
 refine RBS rfl rfl rfl (.bool false) (by simp; omega) ?_
 refine RM rfl ?_
 refine RK ?_
 refine RP rfl rfl ?_
 refine RM rfl ?_
 refine RQ (ok_field field35_0 (by decide) rfl) ?_
 refine RQ (ok_loadV (s := 1000001) (by decide) Tryd.underlying5 rfl rfl rfl (rfl)) ?_
 refine RQ (ok_bin rfl rfl rfl) ?_; refine RZ (.bool false) (by simp; omega) ?_
 refine RP rfl rfl ?_
 refine RM rfl ?_
 refine RQ (ok_field field35_0 (by decide) rfl) ?_
 refine RQ (ok_loadV (s := 1000001) (by decide) Tryd.underlying5 rfl rfl rfl (rfl)) ?_
 refine RQ (ok_bin rfl rfl rfl) ?_; refine RZ (.bool false) (by simp; omega) ?_
 refine RP rfl rfl ?_
 refine RN ?_
 refine A.sub (KC 35 rfl (KC 1000001 rfl KN)) ?_
 refine A.no rfl ?_
 refine A.skip ?_
 refine EN ?_
 refine GS ?_
 refine TL ?_
 refine RA rfl ?_
 refine RN ?_
 refine A.ret ?_
 exact End.ret1 rfl rfl (by first | exact Le.refl _ | exact Le.old _ _)
theorem rck_d3 (x : UInt8) (s c : Nat) (t : List UInt8) (ht : t.length = 32) (hx : 2 < x.toNat) (h0 : s = 0) (h1 : c = 0) (hz : t ≠ zD) : Fn Tryd.prog 54 [.v (aggV (recV x s c t))] (.v (.int .i64 1)) := by
 refine Fn.of Tryd.func54 rfl (by kernel_rfl) Tryd.ntmps54 (by simp) (fun w => [(0, .v (aggV (recV x s c t)))]) (fun w => (Start.v rfl Start.nil)) fun w₀ => ?_
 refine GS ?_
 refine TN 0 ?_
 refine RN ?_
 refine ⟨_, _, eff_box (n := 36) (d := 1) (k := 1000001) rfl (by decide), fun b1 hb1 => ?_⟩
 have hBb1 := hb1.1
 refine TL ?_
 refine RA rfl ?_
 refine RN ?_
 refine GS ?_
 refine TL ?_
 refine RS (ok_field field35_1 (by decide) rfl) ?_
 refine RS (ok_field field31_0 (by decide) rfl) ?_
 refine RS (ok_loadV (s := 1000001) (by decide) Tryd.underlying28 rfl rfl rfl (rfl)) ?_
 refine RBS rfl rfl rfl (.bool true) (by simp [h0]) ?_
 refine RM rfl ?_
 refine RQ (ok_field field35_1 (by decide) rfl) ?_
 refine RQ (ok_field field31_1 (by decide) rfl) ?_
 refine RQ (ok_loadV (s := 1000001) (by decide) Tryd.underlying29 rfl rfl rfl (rfl)) ?_
 refine RQ (ok_bin rfl rfl rfl) ?_; refine RZ (.bool true) (by simp [h1]) ?_
 refine RP rfl rfl ?_
 refine RM rfl ?_
 refine RQ (ok_field field35_2 (by decide) rfl) ?_
 refine RQ (ok_loadP (s := 1000001) (by decide) Tryd.underlying33 rfl size33 rfl rfl (by simp [recV, ht]) (rec_tag ht)) ?_
 refine RQ (ok_litP [] Tryd.underlying33 info5 zero33 (by decide) trivial rfl) ?_; refine RZ (aggV (zD.map byteV)) (by rfl) ?_
 refine RQ (ok_eqlT (n := 4) (decide (t = zD)) flat33r (by decide) (by kernel_rfl) (by kernel_rfl) rfl rfl (kinB ht) (kinB (l := zD) rfl) (decB _ _)) ?_; refine RZ (.bool false) (by simp [hz]) ?_
 refine RP rfl rfl ?_
 refine RA rfl ?_
 refine RN ?_
 refine A.seq ?_
 refine GS ?_
 refine TL ?_
 refine RS (ok_field field35_0 (by decide) rfl) ?_
 refine RS (ok_loadV (s := 1000001) (by decide) Tryd.underlying5 rfl rfl rfl (rfl)) ?_
 refine RBS rfl rfl rfl (.bool false) (by simp; omega) ?_
 refine RM rfl ?_
 refine RK ?_
 refine RP rfl rfl ?_
 refine RM rfl ?_
 refine RQ (ok_field field35_0 (by decide) rfl) ?_
 refine RQ (ok_loadV (s := 1000001) (by decide) Tryd.underlying5 rfl rfl rfl (rfl)) ?_
 refine RQ (ok_bin rfl rfl rfl) ?_; refine RZ (.bool false) (by simp; omega) ?_
 refine RP rfl rfl ?_
 refine RM rfl ?_
 refine RQ (ok_field field35_0 (by decide) rfl) ?_
 refine RQ (ok_loadV (s := 1000001) (by decide) Tryd.underlying5 rfl rfl rfl (rfl)) ?_
 refine RQ (ok_bin rfl rfl rfl) ?_; refine RZ (.bool false) (by simp; omega) ?_
 refine RP rfl rfl ?_
 refine RN ?_
 refine A.sub (KC 35 rfl (KC 1000001 rfl KN)) ?_
 refine A.no rfl ?_
 refine A.skip ?_
 refine EN ?_
 refine GS ?_
 refine TL ?_
 refine RA rfl ?_
 refine RN ?_
 refine A.ret ?_
 exact End.ret1 rfl rfl (by first | exact Le.refl _ | exact Le.old _ _)
theorem rck_d4 (x : UInt8) (s c : Nat) (t : List UInt8) (ht : t.length = 32) (hx : 2 < x.toNat) (h0 : s = 0) (h1 : c = 0) (hz : t = zD) : Fn Tryd.prog 54 [.v (aggV (recV x s c t))] (.v (.int .i64 1)) := by
 refine Fn.of Tryd.func54 rfl (by kernel_rfl) Tryd.ntmps54 (by simp) (fun w => [(0, .v (aggV (recV x s c t)))]) (fun w => (Start.v rfl Start.nil)) fun w₀ => ?_
 refine GS ?_
 refine TN 0 ?_
 refine RN ?_
 refine ⟨_, _, eff_box (n := 36) (d := 1) (k := 1000001) rfl (by decide), fun b1 hb1 => ?_⟩
 have hBb1 := hb1.1
 refine TL ?_
 refine RA rfl ?_
 refine RN ?_
 refine GS ?_
 refine TL ?_
 refine RS (ok_field field35_1 (by decide) rfl) ?_
 refine RS (ok_field field31_0 (by decide) rfl) ?_
 refine RS (ok_loadV (s := 1000001) (by decide) Tryd.underlying28 rfl rfl rfl (rfl)) ?_
 refine RBS rfl rfl rfl (.bool true) (by simp [h0]) ?_
 refine RM rfl ?_
 refine RQ (ok_field field35_1 (by decide) rfl) ?_
 refine RQ (ok_field field31_1 (by decide) rfl) ?_
 refine RQ (ok_loadV (s := 1000001) (by decide) Tryd.underlying29 rfl rfl rfl (rfl)) ?_
 refine RQ (ok_bin rfl rfl rfl) ?_; refine RZ (.bool true) (by simp [h1]) ?_
 refine RP rfl rfl ?_
 refine RM rfl ?_
 refine RQ (ok_field field35_2 (by decide) rfl) ?_
 refine RQ (ok_loadP (s := 1000001) (by decide) Tryd.underlying33 rfl size33 rfl rfl (by simp [recV, ht]) (rec_tag ht)) ?_
 refine RQ (ok_litP [] Tryd.underlying33 info5 zero33 (by decide) trivial rfl) ?_; refine RZ (aggV (zD.map byteV)) (by rfl) ?_
 refine RQ (ok_eqlT (n := 4) (decide (t = zD)) flat33r (by decide) (by kernel_rfl) (by kernel_rfl) rfl rfl (kinB ht) (kinB (l := zD) rfl) (decB _ _)) ?_; refine RZ (.bool true) (by simp [hz]) ?_
 refine RP rfl rfl ?_
 refine RA rfl ?_
 refine RN ?_
 refine A.seq ?_
 refine GS ?_
 refine TL ?_
 refine RS (ok_field field35_0 (by decide) rfl) ?_
 refine RS (ok_loadV (s := 1000001) (by decide) Tryd.underlying5 rfl rfl rfl (rfl)) ?_
 refine RBS rfl rfl rfl (.bool false) (by simp; omega) ?_
 refine RM rfl ?_
 refine RK ?_
 refine RP rfl rfl ?_
 refine RM rfl ?_
 refine RQ (ok_field field35_0 (by decide) rfl) ?_
 refine RQ (ok_loadV (s := 1000001) (by decide) Tryd.underlying5 rfl rfl rfl (rfl)) ?_
 refine RQ (ok_bin rfl rfl rfl) ?_; refine RZ (.bool false) (by simp; omega) ?_
 refine RP rfl rfl ?_
 refine RM rfl ?_
 refine RQ (ok_field field35_0 (by decide) rfl) ?_
 refine RQ (ok_loadV (s := 1000001) (by decide) Tryd.underlying5 rfl rfl rfl (rfl)) ?_
 refine RQ (ok_bin rfl rfl rfl) ?_; refine RZ (.bool false) (by simp; omega) ?_
 refine RP rfl rfl ?_
 refine RN ?_
 refine A.sub (KC 35 rfl (KC 1000001 rfl KN)) ?_
 refine A.no rfl ?_
 refine A.skip ?_
 refine EN ?_
 refine GS ?_
 refine TL ?_
 refine RA rfl ?_
 refine RN ?_
 refine A.ret ?_
 exact End.ret1 rfl rfl (by first | exact Le.refl _ | exact Le.old _ _)
theorem refCheckR_fn (x : UInt8) (s c : Nat) (t : List UInt8) (ht : t.length = 32) : Fn Tryd.prog 54 [.v (aggV (recV x s c t))] (.v (.int .i64 (ckR x s c t))) := by
 by_cases hz : s = 0 ∧ c = 0 ∧ t = zD
 ·by_cases hx : x.toNat = 0
  ·rw [show ckR x s c t = 0 from ckR_ok (by unfold BadR; exact fun h => h.elim (fun h => by omega) fun h => h.2 hz)]; exact rck_a4 x s c t ht hx hz.1 hz.2.1 hz.2.2
  by_cases hx : x.toNat = 1
  ·rw [show ckR x s c t = 0 from ckR_ok (by unfold BadR; omega)]; exact rck_b4 x s c t ht hx hz.1 hz.2.1 hz.2.2
  by_cases hx : x.toNat = 2
  ·rw [show ckR x s c t = 0 from ckR_ok (by unfold BadR; omega)]; exact rck_c4 x s c t ht hx hz.1 hz.2.1 hz.2.2
  ·rw [show ckR x s c t = 1 from ckR_bad (by unfold BadR; omega)]; exact rck_d4 x s c t ht (by omega) hz.1 hz.2.1 hz.2.2
 ·by_cases h0 : s = 0
  ·by_cases h1 : c = 0
   ·have h2 : t ≠ zD := fun h => hz ⟨h0, h1, h⟩
    by_cases hx : x.toNat = 0
    ·rw [show ckR x s c t = 1 from ckR_bad (.inr ⟨hx, hz⟩)]; exact rck_a3 x s c t ht hx h0 h1 h2
    by_cases hx : x.toNat = 1
    ·rw [show ckR x s c t = 0 from ckR_ok (by unfold BadR; omega)]; exact rck_b3 x s c t ht hx h0 h1 h2
    by_cases hx : x.toNat = 2
    ·rw [show ckR x s c t = 0 from ckR_ok (by unfold BadR; omega)]; exact rck_c3 x s c t ht hx h0 h1 h2
    ·rw [show ckR x s c t = 1 from ckR_bad (by unfold BadR; omega)]; exact rck_d3 x s c t ht (by omega) h0 h1 h2
   ·by_cases hx : x.toNat = 0
    ·rw [show ckR x s c t = 1 from ckR_bad (.inr ⟨hx, hz⟩)]; exact rck_a2 x s c t ht hx h0 h1
    by_cases hx : x.toNat = 1
    ·rw [show ckR x s c t = 0 from ckR_ok (by unfold BadR; omega)]; exact rck_b2 x s c t ht hx h0 h1
    by_cases hx : x.toNat = 2
    ·rw [show ckR x s c t = 0 from ckR_ok (by unfold BadR; omega)]; exact rck_c2 x s c t ht hx h0 h1
    ·rw [show ckR x s c t = 1 from ckR_bad (by unfold BadR; omega)]; exact rck_d2 x s c t ht (by omega) h0 h1
  ·by_cases hx : x.toNat = 0
   ·rw [show ckR x s c t = 1 from ckR_bad (.inr ⟨hx, hz⟩)]; exact rck_a1 x s c t ht hx h0
   by_cases hx : x.toNat = 1
   ·rw [show ckR x s c t = 0 from ckR_ok (by unfold BadR; omega)]; exact rck_b1 x s c t ht hx h0
   by_cases hx : x.toNat = 2
   ·rw [show ckR x s c t = 0 from ckR_ok (by unfold BadR; omega)]; exact rck_c1 x s c t ht hx h0
   ·rw [show ckR x s c t = 1 from ckR_bad (by unfold BadR; omega)]; exact rck_d1 x s c t ht (by omega) h0
theorem eck_a3 (x : UInt8) (t : List UInt8) (ht : t.length = 32) (hx : x.toNat = 0) (hz : t ≠ zD) : Fn Tryd.prog 55 [.v (aggV (entV x t))] (.v (.int .i64 1)) := by
 refine Fn.of Tryd.func55 rfl (by kernel_rfl) Tryd.ntmps55 (by simp) (fun w => [(0, .v (aggV (entV x t)))]) (fun w => (Start.v rfl Start.nil)) fun w₀ => ?_
 refine GS ?_
 refine TN 0 ?_
 refine RN ?_
 refine ⟨_, _, eff_box (n := 22) (d := 1) (k := 1000001) rfl (by decide), fun b1 hb1 => ?_⟩
 have hBb1 := hb1.1
 refine TL ?_
 refine RA rfl ?_
 refine RN ?_
 refine A.seq ?_
 refine GS ?_
 refine TL ?_
 refine RS (ok_field field38_0 (by decide) rfl) ?_
 refine RS (ok_loadV (s := 1000001) (by decide) Tryd.underlying5 rfl rfl rfl (rfl)) ?_
 refine RBS rfl rfl rfl (.bool true) (by simp [hx]) ?_
 refine RM rfl ?_
 refine RQ (ok_field field38_1 (by decide) rfl) ?_
 refine RQ (ok_loadP (s := 1000001) (by decide) Tryd.underlying33 rfl size33 rfl rfl (by simp [entV, ht]) (ent_tag ht)) ?_
 refine RQ (ok_litP [] Tryd.underlying33 info5 zero33 (by decide) trivial rfl) ?_; refine RZ (aggV (zD.map byteV)) (by rfl) ?_
 refine RQ (ok_eqlT (n := 4) (decide (t = zD)) flat33r (by decide) (by kernel_rfl) (by kernel_rfl) rfl rfl (kinB ht) (kinB (l := zD) rfl) (decB _ _)) ?_; refine RZ (.bool false) (by simp [hz]) ?_
 refine RP rfl rfl ?_
 refine RM rfl ?_
 refine RQ (ok_field field38_0 (by decide) rfl) ?_
 refine RQ (ok_loadV (s := 1000001) (by decide) Tryd.underlying5 rfl rfl rfl (rfl)) ?_
 refine RQ (ok_bin rfl rfl rfl) ?_; refine RZ (.bool false) (by simp; omega) ?_
 refine RP rfl rfl ?_
 refine RM rfl ?_
 refine RQ (ok_field field38_0 (by decide) rfl) ?_
 refine RQ (ok_loadV (s := 1000001) (by decide) Tryd.underlying5 rfl rfl rfl (rfl)) ?_
 refine RQ (ok_bin rfl rfl rfl) ?_; refine RZ (.bool false) (by simp; omega) ?_
 refine RP rfl rfl ?_
 refine RN ?_
 refine A.no rfl ?_
 refine A.skip ?_
 refine EN ?_
 refine GS ?_
 refine TL ?_
 refine RA rfl ?_
 refine RN ?_
 refine A.ret ?_
 exact End.ret1 rfl rfl (by first | exact Le.refl _ | exact Le.old _ _)
theorem eck_a4 (x : UInt8) (t : List UInt8) (ht : t.length = 32) (hx : x.toNat = 0) (hz : t = zD) : Fn Tryd.prog 55 [.v (aggV (entV x t))] (.v (.int .i64 0)) := by
 refine Fn.of Tryd.func55 rfl (by kernel_rfl) Tryd.ntmps55 (by simp) (fun w => [(0, .v (aggV (entV x t)))]) (fun w => (Start.v rfl Start.nil)) fun w₀ => ?_
 refine GS ?_
 refine TN 0 ?_
 refine RN ?_
 refine ⟨_, _, eff_box (n := 22) (d := 1) (k := 1000001) rfl (by decide), fun b1 hb1 => ?_⟩
 have hBb1 := hb1.1
 refine TL ?_
 refine RA rfl ?_
 refine RN ?_
 refine A.seq ?_
 refine GS ?_
 refine TL ?_
 refine RS (ok_field field38_0 (by decide) rfl) ?_
 refine RS (ok_loadV (s := 1000001) (by decide) Tryd.underlying5 rfl rfl rfl (rfl)) ?_
 refine RBS rfl rfl rfl (.bool true) (by simp [hx]) ?_
 refine RM rfl ?_
 refine RQ (ok_field field38_1 (by decide) rfl) ?_
 refine RQ (ok_loadP (s := 1000001) (by decide) Tryd.underlying33 rfl size33 rfl rfl (by simp [entV, ht]) (ent_tag ht)) ?_
 refine RQ (ok_litP [] Tryd.underlying33 info5 zero33 (by decide) trivial rfl) ?_; refine RZ (aggV (zD.map byteV)) (by rfl) ?_
 refine RQ (ok_eqlT (n := 4) (decide (t = zD)) flat33r (by decide) (by kernel_rfl) (by kernel_rfl) rfl rfl (kinB ht) (kinB (l := zD) rfl) (decB _ _)) ?_; refine RZ (.bool true) (by simp [hz]) ?_
 refine RP rfl rfl ?_
 refine RM rfl ?_
 refine RK ?_
 refine RK ?_
 refine RK ?_
 refine RP rfl rfl ?_
 refine RM rfl ?_
 refine RK ?_
 refine RK ?_
 refine RK ?_
 refine RP rfl rfl ?_
 refine RN ?_
 refine A.yes rfl ?_
 refine GS ?_
 refine TL ?_
 refine RA rfl ?_
 refine RN ?_
 refine A.ret ?_
 refine End.ret_then ?_
 exact End.ret1 rfl rfl (by first | exact Le.refl _ | exact Le.old _ _)
theorem eck_b (x : UInt8) (t : List UInt8) (ht : t.length = 32) (hx : x.toNat = 1) : Fn Tryd.prog 55 [.v (aggV (entV x t))] (.v (.int .i64 0)) := by
 refine Fn.of Tryd.func55 rfl (by kernel_rfl) Tryd.ntmps55 (by simp) (fun w => [(0, .v (aggV (entV x t)))]) (fun w => (Start.v rfl Start.nil)) fun w₀ => ?_
 refine GS ?_
 refine TN 0 ?_
 refine RN ?_
 refine ⟨_, _, eff_box (n := 22) (d := 1) (k := 1000001) rfl (by decide), fun b1 hb1 => ?_⟩
 have hBb1 := hb1.1
 refine TL ?_
 refine RA rfl ?_
 refine RN ?_
 refine A.seq ?_
 refine GS ?_
 refine TL ?_
 refine RS (ok_field field38_0 (by decide) rfl) ?_
 refine RS (ok_loadV (s := 1000001) (by decide) Tryd.underlying5 rfl rfl rfl (rfl)) ?_
 refine RBS rfl rfl rfl (.bool false) (by simp; omega) ?_
 refine RM rfl ?_
 refine RK ?_
 refine RK ?_
 refine RK ?_
 refine RK ?_
 refine RP rfl rfl ?_
 refine RM rfl ?_
 refine RQ (ok_field field38_0 (by decide) rfl) ?_
 refine RQ (ok_loadV (s := 1000001) (by decide) Tryd.underlying5 rfl rfl rfl (rfl)) ?_
 refine RQ (ok_bin rfl rfl rfl) ?_; refine RZ (.bool true) (by simp [hx]) ?_
 refine RP rfl rfl ?_
 refine RM rfl ?_
 refine RK ?_
 refine RK ?_
 refine RK ?_
 refine RP rfl rfl ?_
 refine RN ?_
 refine A.yes rfl ?_
 refine GS ?_
 refine TL ?_
 refine RA rfl ?_
 refine RN ?_
 refine A.ret ?_
 refine End.ret_then ?_
 exact End.ret1 rfl rfl (by first | exact Le.refl _ | exact Le.old _ _)
theorem eck_c (x : UInt8) (t : List UInt8) (ht : t.length = 32) (hx : x.toNat = 2) : Fn Tryd.prog 55 [.v (aggV (entV x t))] (.v (.int .i64 0)) := by
 refine Fn.of Tryd.func55 rfl (by kernel_rfl) Tryd.ntmps55 (by simp) (fun w => [(0, .v (aggV (entV x t)))]) (fun w => (Start.v rfl Start.nil)) fun w₀ => ?_
 refine GS ?_
 refine TN 0 ?_
 refine RN ?_
 refine ⟨_, _, eff_box (n := 22) (d := 1) (k := 1000001) rfl (by decide), fun b1 hb1 => ?_⟩
 have hBb1 := hb1.1
 refine TL ?_
 refine RA rfl ?_
 refine RN ?_
 refine A.seq ?_
 refine GS ?_
 refine TL ?_
 refine RS (ok_field field38_0 (by decide) rfl) ?_
 refine RS (ok_loadV (s := 1000001) (by decide) Tryd.underlying5 rfl rfl rfl (rfl)) ?_
 refine RBS rfl rfl rfl (.bool false) (by simp; omega) ?_
 refine RM rfl ?_
 refine RK ?_
 refine RK ?_
 refine RK ?_
 refine RK ?_
 refine RP rfl rfl ?_
 refine RM rfl ?_
 refine RQ (ok_field field38_0 (by decide) rfl) ?_
 refine RQ (ok_loadV (s := 1000001) (by decide) Tryd.underlying5 rfl rfl rfl (rfl)) ?_
 refine RQ (ok_bin rfl rfl rfl) ?_; refine RZ (.bool false) (by simp; omega) ?_
 refine RP rfl rfl ?_
 refine RM rfl ?_
 refine RQ (ok_field field38_0 (by decide) rfl) ?_
 refine RQ (ok_loadV (s := 1000001) (by decide) Tryd.underlying5 rfl rfl rfl (rfl)) ?_
 refine RQ (ok_bin rfl rfl rfl) ?_; refine RZ (.bool true) (by simp [hx]) ?_
 refine RP rfl rfl ?_
 refine RN ?_
 refine A.yes rfl ?_
 refine GS ?_
 refine TL ?_
 refine RA rfl ?_
 refine RN ?_
 refine A.ret ?_
 refine End.ret_then ?_
 exact End.ret1 rfl rfl (by first | exact Le.refl _ | exact Le.old _ _)
theorem eck_d (x : UInt8) (t : List UInt8) (ht : t.length = 32) (hx : 2 < x.toNat) : Fn Tryd.prog 55 [.v (aggV (entV x t))] (.v (.int .i64 1)) := by
 refine Fn.of Tryd.func55 rfl (by kernel_rfl) Tryd.ntmps55 (by simp) (fun w => [(0, .v (aggV (entV x t)))]) (fun w => (Start.v rfl Start.nil)) fun w₀ => ?_
 refine GS ?_
 refine TN 0 ?_
 refine RN ?_
 refine ⟨_, _, eff_box (n := 22) (d := 1) (k := 1000001) rfl (by decide), fun b1 hb1 => ?_⟩
 have hBb1 := hb1.1
 refine TL ?_
 refine RA rfl ?_
 refine RN ?_
 refine A.seq ?_
 refine GS ?_
 refine TL ?_
 refine RS (ok_field field38_0 (by decide) rfl) ?_
 refine RS (ok_loadV (s := 1000001) (by decide) Tryd.underlying5 rfl rfl rfl (rfl)) ?_
 refine RBS rfl rfl rfl (.bool false) (by simp; omega) ?_
 refine RM rfl ?_
 refine RK ?_
 refine RK ?_
 refine RK ?_
 refine RK ?_
 refine RP rfl rfl ?_
 refine RM rfl ?_
 refine RQ (ok_field field38_0 (by decide) rfl) ?_
 refine RQ (ok_loadV (s := 1000001) (by decide) Tryd.underlying5 rfl rfl rfl (rfl)) ?_
 refine RQ (ok_bin rfl rfl rfl) ?_; refine RZ (.bool false) (by simp; omega) ?_
 refine RP rfl rfl ?_
 refine RM rfl ?_
 refine RQ (ok_field field38_0 (by decide) rfl) ?_
 refine RQ (ok_loadV (s := 1000001) (by decide) Tryd.underlying5 rfl rfl rfl (rfl)) ?_
 refine RQ (ok_bin rfl rfl rfl) ?_; refine RZ (.bool false) (by simp; omega) ?_
 refine RP rfl rfl ?_
 refine RN ?_
 refine A.no rfl ?_
 refine A.skip ?_
 refine EN ?_
 refine GS ?_
 refine TL ?_
 refine RA rfl ?_
 refine RN ?_
 refine A.ret ?_
 exact End.ret1 rfl rfl (by first | exact Le.refl _ | exact Le.old _ _)
theorem refCheckE_fn (x : UInt8) (t : List UInt8) (ht : t.length = 32) : Fn Tryd.prog 55 [.v (aggV (entV x t))] (.v (.int .i64 (ckE x t))) := by
 by_cases hx : x.toNat = 0
 ·by_cases hz : t = zD
  ·rw [show ckE x t = 0 from ckE_ok (by unfold BadE; simp [hz, hx])]; exact eck_a4 x t ht hx hz
  ·rw [show ckE x t = 1 from ckE_bad (.inr ⟨hx, hz⟩)]; exact eck_a3 x t ht hx hz
 by_cases hx : x.toNat = 1
 ·rw [show ckE x t = 0 from ckE_ok (by unfold BadE; omega)]; exact eck_b x t ht hx
 by_cases hx : x.toNat = 2
 ·rw [show ckE x t = 0 from ckE_ok (by unfold BadE; omega)]; exact eck_c x t ht hx
 ·rw [show ckE x t = 1 from ckE_bad (by unfold BadE; omega)]; exact eck_d x t ht (by omega)
set_option maxHeartbeats 1000000 in
theorem refRecord_fn (x : UInt8) (s c : Nat) (t : List UInt8) (ht : t.length = 32) (hs : s < 4294967296) (hc : c < 18446744073709551616)  : Fn Tryd.prog 42 [.v (aggV (recV x s c t))] (byt (recL x s c t)) := by
 refine Fn.of Tryd.func42 rfl (by kernel_rfl) Tryd.ntmps42 (by simp) (fun w => [(0, .v (aggV (recV x s c t)))]) (fun w => (Start.v rfl Start.nil)) fun w₀ => ?_
 refine GS ?_
 refine TN 0 ?_
 refine RN ?_
 refine ⟨_, _, eff_box (n := 13) (d := 1) (k := 1000001) rfl (by decide), fun b1 hb1 => ?_⟩
 have hBb1 := hb1.1
 refine TL ?_
 refine RA rfl ?_
 refine RN ?_
 refine GD ?_
 refine TD 9 ?_
 refine RS (ok_field field35_0 (by decide) rfl) ?_
 refine RS (ok_loadV (s := 1000001) (by decide) Tryd.underlying5 rfl rfl rfl (rfl)) ?_
 refine RS (ok_build [.v (byteV x)] Tryd.underlying44 info5 rfl (by decide) (by decide) rfl ⟨rfl, rfl, trivial⟩ (fun d hd w x h => by simp only [List.mem_cons, List.not_mem_nil, or_false] at hd; rcases hd with rfl; exact v_one rfl h)) ?_
 refine RS (ok_field field35_1 (by decide) rfl) ?_
 refine RS (ok_loadP (s := 1000001) (by decide) Tryd.underlying31 rfl size31 rfl rfl (by simp [recV]) (rfl)) ?_
 refine RS (ok_call (ref8Put_fn s c hs hc) (A1 rfl)) ?_
 refine RS (ok_appendFull (l := [x]) (m := nonceL s c) Tryd.underlying44 info5 (by decide) rfl rfl (Le.eq (by rfl)) rfl (Le.refl _) (Nat.succ_pos _) (by rw [nonceL_length]; decide) (by simp only [nonceL_length, List.length_cons, List.length_nil]; omega)) ?_
 refine RS (ok_field field35_2 (by decide) rfl) ?_
 refine RS (OpOk.fact (ok_sliceX (l := 0) (h := 32) (m := 32) Tryd.underlying33 info5 rfl (.inr ⟨rfl, rfl⟩) (.inr ⟨rfl, rfl, rfl⟩) (.inr ⟨rfl, rfl⟩) (by decide) (by decide) (by decide) (.inl (by decide))) (d := byt t) (s := 1000001) (by decide) rfl (slice_byt t ht.symm (by decide) (by decide) (rec_tag ht))) ?_
 refine RN ?_
 refine ⟨_, eff_appendS (vs := t.map byteV) Tryd.underlying44 info5 (by decide) rfl rfl rfl (Le.eq (byt_vals _)) (by simp [byteV, Value.oneCell']) (by simp only [List.length_map, nonceL_length, ht, List.length_cons, List.length_nil]; omega) (by decide) (fun g hg => (LT 1000001 rfl LN)), ?_⟩
 refine TL ?_
 refine RA rfl ?_
 refine RN ?_
 refine A.sub (KE 2 rfl (show own w₀.heap.size 5 _ _ = own w₀.heap.size 5 (1 + 12 + 32) (([x] ++ nonceL s c).map byteV ++ t.map byteV) from by rw [nonceL_length, List.length_map, ht]; rfl) (KC 1000001 rfl KN)) ?_
 refine A.ret ?_
 exact End.ret1 rfl rfl ((Le.eq (by rw [← List.map_append]; rfl)).trans (own_byt (B := w₀.heap.size) (e := 5) (n := 1 + 12 + 32) (l := recL x s c t) (recL_len x s c ht).symm))
theorem refEntry_fn (x : UInt8) (t : List UInt8) (ht : t.length = 32)  : Fn Tryd.prog 43 [.v (aggV (entV x t))] (byt (entL x t)) := by
 refine Fn.of Tryd.func43 rfl (by kernel_rfl) Tryd.ntmps43 (by simp) (fun w => [(0, .v (aggV (entV x t)))]) (fun w => (Start.v rfl Start.nil)) fun w₀ => ?_
 refine GS ?_
 refine TN 0 ?_
 refine RN ?_
 refine ⟨_, _, eff_box (n := 9) (d := 1) (k := 1000001) rfl (by decide), fun b1 hb1 => ?_⟩
 have hBb1 := hb1.1
 refine TL ?_
 refine RA rfl ?_
 refine RN ?_
 refine GD ?_
 refine TL ?_
 refine RS (ok_field field38_0 (by decide) rfl) ?_
 refine RS (ok_loadV (s := 1000001) (by decide) Tryd.underlying5 rfl rfl rfl (rfl)) ?_
 refine RS (ok_build [.v (byteV x)] Tryd.underlying44 info5 rfl (by decide) (by decide) rfl ⟨rfl, rfl, trivial⟩ (fun d hd w x h => by simp only [List.mem_cons, List.not_mem_nil, or_false] at hd; rcases hd with rfl; exact v_one rfl h)) ?_
 refine RS (ok_field field38_1 (by decide) rfl) ?_
 refine RS (OpOk.fact (ok_sliceX (l := 0) (h := 32) (m := 32) Tryd.underlying33 info5 rfl (.inr ⟨rfl, rfl⟩) (.inr ⟨rfl, rfl, rfl⟩) (.inr ⟨rfl, rfl⟩) (by decide) (by decide) (by decide) (.inl (by decide))) (d := byt t) (s := 1000001) (by decide) rfl (slice_byt t ht.symm (by decide) (by decide) (ent_tag ht))) ?_
 refine RS (ok_appendFull (l := [x]) (m := t) Tryd.underlying44 info5 (by decide) rfl rfl (Le.eq (by rfl)) rfl (Le.refl _) (Nat.succ_pos _) (by omega) (by simp only [ht, List.length_cons, List.length_nil]; omega)) ?_
 refine RA rfl ?_
 refine RN ?_
 refine A.ret ?_
 exact End.ret1 rfl rfl (own_byt (B := w₀.heap.size) (e := 5) (n := [x].length + t.length) (l := entL x t) (by rw [entL_len x ht, ht]; rfl))
end Go.Proofs.YtlddnmblfgaimaaDoor
namespace Go.Proofs.YtlddnmblfgaimaaDoor
open Go Go.RowKit
set_option linter.unusedVariables false
set_option maxRecDepth 20000
theorem buildS_ (A : Option Addr) (n c : Nat) : Tryd.prog.built 156 [(0, .slice A n c)] = some ([.slice A n c] : List Value).toArray := by kernel_rfl

theorem cks_A (x : UInt8) (z : Bool) (h : 2 < x.toNat) : Fn Tryd.prog 68 [.v (byteV x), .v (.bool z)] (.v (.int .i64 1)) := by
 refine Fn.of Tryd.func68 rfl (by kernel_rfl) Tryd.ntmps68 (by simp) (fun w => [(0, .v (byteV x)), (1, .v (.bool z))]) (fun w => (Start.v rfl (Start.v rfl Start.nil))) fun w₀ => ?_
 refine GS ?_
 refine TL ?_
 refine RA rfl ?_
 refine RN ?_
 refine A.seq ?_
 refine GS ?_
 refine TL ?_
 refine RM rfl ?_
 refine RBS rfl rfl rfl (.bool true) (by simp; omega) ?_
 refine RM rfl ?_
 refine RK ?_
 refine RK ?_
 refine RK ?_
 refine RunK.skippedU rfl rfl rfl rfl ?_
 refine RunK.skippedU rfl rfl rfl rfl ?_
 refine RK ?_
 refine RP rfl rfl ?_
 refine RN ?_
 refine A.yes rfl ?_
 refine GS ?_
 refine TL ?_
 refine RA rfl ?_
 refine RN ?_
 refine A.ret ?_
 refine End.ret_then ?_
 exact End.ret1 rfl rfl (by first | exact Le.refl _ | exact Le.old _ _)
theorem cks_B (x : UInt8) (h : x.toNat = 0) : Fn Tryd.prog 68 [.v (byteV x), .v (.bool true)] (.v (.int .i64 0)) := by
 refine Fn.of Tryd.func68 rfl (by kernel_rfl) Tryd.ntmps68 (by simp) (fun w => [(0, .v (byteV x)), (1, .v (.bool true))]) (fun w => (Start.v rfl (Start.v rfl Start.nil))) fun w₀ => ?_
 refine GS ?_
 refine TL ?_
 refine RA rfl ?_
 refine RN ?_
 refine A.seq ?_
 refine GS ?_
 refine TL ?_
 refine RM rfl ?_
 refine RBS rfl rfl rfl (.bool false) (by simp; omega) ?_
 refine RM rfl ?_
 refine RQ (ok_move rfl) ?_
 refine RQ (ok_bin rfl rfl rfl) ?_; refine RZ (.bool true) (by simp [h]) ?_
 refine RQ (ok_move rfl) ?_
 refine RQ (ok_move rfl) ?_
 refine RQ (ok_not rfl) ?_; refine RZ (.bool false) (by rfl) ?_
 refine RQ (ok_pick rfl rfl) ?_
 refine RP rfl rfl ?_
 refine RN ?_
 refine A.no rfl ?_
 refine A.skip ?_
 refine EN ?_
 refine GS ?_
 refine TL ?_
 refine RA rfl ?_
 refine RN ?_
 refine A.ret ?_
 exact End.ret1 rfl rfl (by first | exact Le.refl _ | exact Le.old _ _)
theorem cks_C (x : UInt8) (h : x.toNat = 0) : Fn Tryd.prog 68 [.v (byteV x), .v (.bool false)] (.v (.int .i64 1)) := by
 refine Fn.of Tryd.func68 rfl (by kernel_rfl) Tryd.ntmps68 (by simp) (fun w => [(0, .v (byteV x)), (1, .v (.bool false))]) (fun w => (Start.v rfl (Start.v rfl Start.nil))) fun w₀ => ?_
 refine GS ?_
 refine TL ?_
 refine RA rfl ?_
 refine RN ?_
 refine A.seq ?_
 refine GS ?_
 refine TL ?_
 refine RM rfl ?_
 refine RBS rfl rfl rfl (.bool false) (by simp; omega) ?_
 refine RM rfl ?_
 refine RQ (ok_move rfl) ?_
 refine RQ (ok_bin rfl rfl rfl) ?_; refine RZ (.bool true) (by simp [h]) ?_
 refine RQ (ok_move rfl) ?_
 refine RQ (ok_move rfl) ?_
 refine RQ (ok_not rfl) ?_; refine RZ (.bool true) (by rfl) ?_
 refine RQ (ok_pick rfl rfl) ?_
 refine RP rfl rfl ?_
 refine RN ?_
 refine A.yes rfl ?_
 refine GS ?_
 refine TL ?_
 refine RA rfl ?_
 refine RN ?_
 refine A.ret ?_
 refine End.ret_then ?_
 exact End.ret1 rfl rfl (by first | exact Le.refl _ | exact Le.old _ _)
theorem cks_D (x : UInt8) (z : Bool) (h : 1 ≤ x.toNat) (h2 : x.toNat ≤ 2) : Fn Tryd.prog 68 [.v (byteV x), .v (.bool z)] (.v (.int .i64 0)) := by
 refine Fn.of Tryd.func68 rfl (by kernel_rfl) Tryd.ntmps68 (by simp) (fun w => [(0, .v (byteV x)), (1, .v (.bool z))]) (fun w => (Start.v rfl (Start.v rfl Start.nil))) fun w₀ => ?_
 refine GS ?_
 refine TL ?_
 refine RA rfl ?_
 refine RN ?_
 refine A.seq ?_
 refine GS ?_
 refine TL ?_
 refine RM rfl ?_
 refine RBS rfl rfl rfl (.bool false) (by simp; omega) ?_
 refine RM rfl ?_
 refine RQ (ok_move rfl) ?_
 refine RQ (ok_bin rfl rfl rfl) ?_; refine RZ (.bool false) (by simp; omega) ?_
 refine RQ (ok_move rfl) ?_
 refine RK ?_
 refine RK ?_
 refine RQ (ok_pick rfl rfl) ?_
 refine RP rfl rfl ?_
 refine RN ?_
 refine A.no rfl ?_
 refine A.skip ?_
 refine EN ?_
 refine GS ?_
 refine TL ?_
 refine RA rfl ?_
 refine RN ?_
 refine A.ret ?_
 exact End.ret1 rfl rfl (by first | exact Le.refl _ | exact Le.old _ _)
theorem checkState_fn (x : UInt8) (z : Bool) : Fn Tryd.prog 68 [.v (byteV x), .v (.bool z)] (.v (.int .i64 (ckS x.toNat z))) := by
 unfold ckS
 by_cases h : 2 < x.toNat
 ·rw [if_pos (.inl h)]; exact cks_A x z h
 by_cases h0 : x.toNat = 0
 ·cases z with
  | true => rw [if_neg (by simp; omega)]; exact cks_B x h0
  | false => rw [if_pos (.inr ⟨h0, rfl⟩)]; exact cks_C x h0
 ·rw [if_neg (by omega)]; exact cks_D x z (by omega) (by omega)
theorem CheckR_fn (x : UInt8) (s c : Nat) (t : List UInt8) (ht : t.length = 32)  : Fn Tryd.prog 39 [.v (aggV (recV x s c t))] (.v (.int .i64 (ckR x s c t))) := by
 refine Fn.of Tryd.func39 rfl (by kernel_rfl) Tryd.ntmps39 (by simp) (fun w => [(0, .v (aggV (recV x s c t)))]) (fun w => (Start.v rfl Start.nil)) fun w₀ => ?_
 refine GS ?_
 refine TN 0 ?_
 refine RN ?_
 refine ⟨_, _, eff_box (n := 9) (d := 1) (k := 1000001) rfl (by decide), fun b1 hb1 => ?_⟩
 have hBb1 := hb1.1
 refine TL ?_
 refine RA rfl ?_
 refine RN ?_
 refine GD ?_
 refine TL ?_
 refine RS (ok_field field35_0 (by decide) rfl) ?_
 refine RS (ok_loadV (s := 1000001) (by decide) Tryd.underlying5 rfl rfl rfl (rfl)) ?_
 refine RS (ok_loadA (s := 1000001) (by decide) Tryd.underlying35 rfl (size35.of (rec_len x s c ht)) rfl rfl) ?_
 refine RS (ok_lit [] ([.int .u8 0] ++ [.int .u32 0] ++ [.int .u64 0] ++ List.replicate 32 (.int .u8 0)) (fun _ _ => rfl) (by kernel_rfl)) ?_
 refine RS (ok_eqlT (n := 4) (decide (x.toNat = 0 ∧ s = 0 ∧ c = 0 ∧ t = zD)) flat35 (by decide) (by kernel_rfl) (by kernel_rfl) rfl rfl (kinRec x s c ht) (kinRec 0 0 0 (t := zD) rfl) (dec_rec x s c t)) ?_
 refine RS (ok_call (checkState_fn x _) (A2 rfl rfl)) ?_; refine RZ (.int .i64 (ckR x s c t)) (congrArg (Value.int .i64) (ckS_rec x s c t)) ?_
 refine RA rfl ?_
 refine RN ?_
 refine A.ret ?_
 exact End.ret1 rfl rfl (by first | exact Le.refl _ | exact Le.old _ _)
theorem CheckE_fn (x : UInt8) (t : List UInt8) (ht : t.length = 32)  : Fn Tryd.prog 41 [.v (aggV (entV x t))] (.v (.int .i64 (ckE x t))) := by
 refine Fn.of Tryd.func41 rfl (by kernel_rfl) Tryd.ntmps41 (by simp) (fun w => [(0, .v (aggV (entV x t)))]) (fun w => (Start.v rfl Start.nil)) fun w₀ => ?_
 refine GS ?_
 refine TN 0 ?_
 refine RN ?_
 refine ⟨_, _, eff_box (n := 9) (d := 1) (k := 1000001) rfl (by decide), fun b1 hb1 => ?_⟩
 have hBb1 := hb1.1
 refine TL ?_
 refine RA rfl ?_
 refine RN ?_
 refine GD ?_
 refine TL ?_
 refine RS (ok_field field38_0 (by decide) rfl) ?_
 refine RS (ok_loadV (s := 1000001) (by decide) Tryd.underlying5 rfl rfl rfl (rfl)) ?_
 refine RS (ok_loadA (s := 1000001) (by decide) Tryd.underlying38 rfl (size38.of (ent_len x ht)) rfl rfl) ?_
 refine RS (ok_lit [] ([.int .u8 0] ++ List.replicate 32 (.int .u8 0)) (fun _ _ => rfl) (by kernel_rfl)) ?_
 refine RS (ok_eqlT (n := 4) (decide (x.toNat = 0 ∧ t = zD)) flat38 (by decide) (by kernel_rfl) (by kernel_rfl) rfl rfl (kinEnt x ht) (kinEnt 0 (t := zD) rfl) (dec_ent x t)) ?_
 refine RS (ok_call (checkState_fn x _) (A2 rfl rfl)) ?_; refine RZ (.int .i64 (ckE x t)) (congrArg (Value.int .i64) (ckS_ent x t)) ?_
 refine RA rfl ?_
 refine RN ?_
 refine A.ret ?_
 exact End.ret1 rfl rfl (by first | exact Le.refl _ | exact Le.old _ _)
theorem newD_tup {B e n : Nat} {l : List UInt8} (h : l.length = n) (hm : n ≤ maxLen := by decide) : Le (newD B e (fun b => .tuple #[.slice (some ⟨b, 0, none⟩) n n, .int .i64 0]) (l.map byteV)) (tup [bytes l n, .v (.int .i64 0)]) := fun B' w x ⟨b, h1, h2, h3, h4⟩ => by
 subst h1
 refine ⟨[.slice (some ⟨b, 0, none⟩) n n, .int .i64 0], rfl, rfl, fun j d u hd hu => ?_⟩
 match j with
 | 0 =>
  injection hd with hd; injection hu with hu; subst hd; subst hu
  exact slice_bytes l h.symm (Nat.le_refl _) hm (by rw [List.drop_zero, List.take_of_length_le (by simp [h])]) B' w h3 h4
 | 1 => injection hd with hd; injection hu with hu; subst hd; subst hu; rfl
 | j + 2 => cases hd
set_option maxHeartbeats 1000000 in
theorem PutRecord_okB (x : UInt8) (s c : Nat) (t : List UInt8) (ht : t.length = 32) (hs : s < 4294967296) (hc : c < 18446744073709551616) (hb : ¬ BadR x s c t)  : FnB Tryd.prog 35 [.v (aggV (recV x s c t))] (fun B => newD B 5 (fun b => .tuple #[.slice (some ⟨b, 0, none⟩) 45 45, .int .i64 0]) ((recL x s c t).map byteV)) := by
 refine FnB.of Tryd.func35 rfl (by kernel_rfl) Tryd.ntmps35 (by simp) (fun w => [(0, .v (aggV (recV x s c t)))]) (fun w => (Start.v rfl Start.nil)) fun w₀ => ?_
 refine GS ?_
 refine TN 0 ?_
 refine RN ?_
 refine ⟨_, _, eff_box (n := 20) (d := 1) (k := 1000001) rfl (by decide), fun b1 hb1 => ?_⟩
 have hBb1 := hb1.1
 refine TL ?_
 refine RA rfl ?_
 refine RA rfl ?_
 refine RN ?_
 refine A.seq ?_
 refine GS ?_
 refine TL ?_
 refine RS (ok_loadA (s := 1000001) (by decide) Tryd.underlying35 rfl (size35.of (rec_len x s c ht)) rfl rfl) ?_
 refine RS (ok_call (CheckR_fn x s c t ht) (A1 rfl)) ?_; refine RZ (.int .i64 0) (congrArg (Value.int .i64) (ckR_ok hb)) ?_
 refine RA rfl ?_
 refine RN ?_
 refine GS ?_
 refine TL ?_
 refine RM rfl ?_
 refine RBS rfl rfl rfl (.bool false) (by rfl) ?_
 refine RN ?_
 refine A.no rfl ?_
 refine A.skip ?_
 refine EN ?_
 refine GD ?_
 refine RunTK.new 9 (by decide) rfl (.inr (by kernel_rfl)) ?_
 refine RS (ok_field field35_0 (by decide) rfl) ?_
 refine RS (ok_loadV (s := 1000001) (by decide) Tryd.underlying5 rfl rfl rfl (rfl)) ?_
 refine RS (ok_build [.v (byteV x)] Tryd.underlying44 info5 rfl (by decide) (by decide) rfl ⟨rfl, rfl, trivial⟩ (fun d hd w x h => by simp only [List.mem_cons, List.not_mem_nil, or_false] at hd; rcases hd with rfl; exact v_one rfl h)) ?_
 refine RS (ok_field field35_1 (by decide) rfl) ?_
 refine RS (ok_loadP (s := 1000001) (by decide) Tryd.underlying31 rfl size31 rfl rfl (by simp [recV]) (rfl)) ?_
 refine RS (ok_call (Put_fn s c hs hc) (A1 rfl)) ?_
 refine RS (ok_field field35_2 (by decide) rfl) ?_
 refine RS (OpOk.fact (ok_sliceX (l := 0) (h := 32) (m := 32) Tryd.underlying33 info5 rfl (.inr ⟨rfl, rfl⟩) (.inr ⟨rfl, rfl, rfl⟩) (.inr ⟨rfl, rfl⟩) (by decide) (by decide) (by decide) (.inl (by decide))) (d := byt t) (s := 1000001) (by decide) rfl (slice_byt t ht.symm (by decide) (by decide) (rec_tag ht))) ?_
 refine RS (ok_build [bytes [x] 1, bytes (nonceL s c) 12, byt t] Tryd.underlying139 info44 rfl (by decide) (by decide) rfl ⟨rfl, rfl, rfl, rfl, rfl, rfl, trivial⟩ (fun d hd w x h => by simp only [List.mem_cons, List.not_mem_nil, or_false] at hd; rcases hd with rfl | rfl | rfl <;> first | exact list_one h | exact lst_one h)) ?_
 refine RN ?_
 refine ⟨_, _, eff_nameF (c := 45) (by simp [recL, nonceL_length, ht]) (n := 20) (d := 19) (k := 1000019) rfl rfl (fun B' => (ok_callB (Join_fnB [[x], nonceL s c, t] (by simp) (by simp [nonceL_length, ht])) (fun _ _ => fresh_mono _ _) (Args.cons rfl (list_lst3 (le_byt _ 1) (le_byt _ 12) (Le.refl _)) Args.nil)).le (d' := fresh _ 5 ((recL x s c t).map byteV) 45) (Le.eq (by simp [recL, nonceL_length, ht]))) (by decide) (by decide), fun b19 hb19 => ?_⟩
 have hBb19 := hb19.1
 have hlt_b1_b19 : b1 < b19 := hb19.2 1000001 _ _ _ rfl
 refine TL ?_
 refine RA rfl ?_
 refine RA rfl ?_
 refine RN ?_
 refine A.ret ?_
 first | exact End.newTT (kg := 1000019) rfl rfl rfl rfl hBb19 rfl rfl | exact End.ret2V rfl rfl rfl
theorem PutEntry_okB (x : UInt8) (t : List UInt8) (ht : t.length = 32) (hb : ¬ BadE x t)  : FnB Tryd.prog 37 [.v (aggV (entV x t))] (fun B => newD B 5 (fun b => .tuple #[.slice (some ⟨b, 0, none⟩) 33 33, .int .i64 0]) ((entL x t).map byteV)) := by
 refine FnB.of Tryd.func37 rfl (by kernel_rfl) Tryd.ntmps37 (by simp) (fun w => [(0, .v (aggV (entV x t)))]) (fun w => (Start.v rfl Start.nil)) fun w₀ => ?_
 refine GS ?_
 refine TN 0 ?_
 refine RN ?_
 refine ⟨_, _, eff_box (n := 17) (d := 1) (k := 1000001) rfl (by decide), fun b1 hb1 => ?_⟩
 have hBb1 := hb1.1
 refine TL ?_
 refine RA rfl ?_
 refine RA rfl ?_
 refine RN ?_
 refine A.seq ?_
 refine GS ?_
 refine TL ?_
 refine RS (ok_loadA (s := 1000001) (by decide) Tryd.underlying38 rfl (size38.of (ent_len x ht)) rfl rfl) ?_
 refine RS (ok_call (CheckE_fn x t ht) (A1 rfl)) ?_; refine RZ (.int .i64 0) (congrArg (Value.int .i64) (ckE_ok hb)) ?_
 refine RA rfl ?_
 refine RN ?_
 refine GS ?_
 refine TL ?_
 refine RM rfl ?_
 refine RBS rfl rfl rfl (.bool false) (by rfl) ?_
 refine RN ?_
 refine A.no rfl ?_
 refine A.skip ?_
 refine EN ?_
 refine GD ?_
 refine RunTK.new 6 (by decide) rfl (.inr (by kernel_rfl)) ?_
 refine RS (ok_field field38_0 (by decide) rfl) ?_
 refine RS (ok_loadV (s := 1000001) (by decide) Tryd.underlying5 rfl rfl rfl (rfl)) ?_
 refine RS (ok_build [.v (byteV x)] Tryd.underlying44 info5 rfl (by decide) (by decide) rfl ⟨rfl, rfl, trivial⟩ (fun d hd w x h => by simp only [List.mem_cons, List.not_mem_nil, or_false] at hd; rcases hd with rfl; exact v_one rfl h)) ?_
 refine RS (ok_field field38_1 (by decide) rfl) ?_
 refine RS (OpOk.fact (ok_sliceX (l := 0) (h := 32) (m := 32) Tryd.underlying33 info5 rfl (.inr ⟨rfl, rfl⟩) (.inr ⟨rfl, rfl, rfl⟩) (.inr ⟨rfl, rfl⟩) (by decide) (by decide) (by decide) (.inl (by decide))) (d := byt t) (s := 1000001) (by decide) rfl (slice_byt t ht.symm (by decide) (by decide) (ent_tag ht))) ?_
 refine RS (ok_build [bytes [x] 1, byt t] Tryd.underlying139 info44 rfl (by decide) (by decide) rfl ⟨rfl, rfl, rfl, rfl, trivial⟩ (fun d hd w x h => by simp only [List.mem_cons, List.not_mem_nil, or_false] at hd; rcases hd with rfl | rfl <;> first | exact list_one h | exact lst_one h)) ?_
 refine RN ?_
 refine ⟨_, _, eff_nameF (c := 33) (by simp [entL, ht]) (n := 17) (d := 16) (k := 1000016) rfl rfl (fun B' => (ok_callB (Join_fnB [[x], t] (by simp) (by simp [ht])) (fun _ _ => fresh_mono _ _) (Args.cons rfl (list_lst2 (le_byt _ 1) (Le.refl _)) Args.nil)).le (d' := fresh _ 5 ((entL x t).map byteV) 33) (Le.eq (by simp [entL, ht]))) (by decide) (by decide), fun b16 hb16 => ?_⟩
 have hBb16 := hb16.1
 have hlt_b1_b16 : b1 < b16 := hb16.2 1000001 _ _ _ rfl
 refine TL ?_
 refine RA rfl ?_
 refine RA rfl ?_
 refine RN ?_
 refine A.ret ?_
 first | exact End.newTT (kg := 1000016) rfl rfl rfl rfl hBb16 rfl rfl | exact End.ret2V rfl rfl rfl
theorem csz_lo (l : List UInt8) (n : Nat) (h : l.length < n) : Fn Tryd.prog 74 [byt l, .v (nI n)] (.v (.int .i64 6)) := by
 refine Fn.of Tryd.func74 rfl (by kernel_rfl) Tryd.ntmps74 (by simp) (fun w => [(0, old w.heap.size (byt l)), (1, .v (nI n))]) (fun w => (Start.old rfl (Start.v rfl Start.nil))) fun w₀ => ?_
 refine GS ?_
 refine TL ?_
 refine RA rfl ?_
 refine RN ?_
 refine A.seq ?_
 refine A.block ?_
 refine GS ?_
 refine TL ?_
 refine RM rfl ?_
 refine RS (ok_lenB Tryd.underlying44 rfl LA) ?_
 refine RM rfl ?_
 refine RBS rfl rfl rfl (.bool true) (by simp; omega) ?_
 refine RA rfl ?_
 refine RN ?_
 refine A.yes rfl ?_
 refine GS ?_
 refine TL ?_
 refine RA rfl ?_
 refine RN ?_
 refine A.ret ?_
 refine End.ret_block ?_
 refine End.ret_then ?_
 exact End.ret1 rfl rfl (by first | exact Le.refl _ | exact Le.old _ _)
theorem csz_hi (l : List UInt8) (n : Nat) (h : n < l.length) : Fn Tryd.prog 74 [byt l, .v (nI n)] (.v (.int .i64 5)) := by
 refine Fn.of Tryd.func74 rfl (by kernel_rfl) Tryd.ntmps74 (by simp) (fun w => [(0, old w.heap.size (byt l)), (1, .v (nI n))]) (fun w => (Start.old rfl (Start.v rfl Start.nil))) fun w₀ => ?_
 refine GS ?_
 refine TL ?_
 refine RA rfl ?_
 refine RN ?_
 refine A.seq ?_
 refine A.block ?_
 refine GS ?_
 refine TL ?_
 refine RM rfl ?_
 refine RS (ok_lenB Tryd.underlying44 rfl LA) ?_
 refine RM rfl ?_
 refine RBS rfl rfl rfl (.bool false) (by simp; omega) ?_
 refine RA rfl ?_
 refine RN ?_
 refine A.no rfl ?_
 refine GS ?_
 refine TL ?_
 refine RM rfl ?_
 refine RS (ok_lenB Tryd.underlying44 rfl LA) ?_
 refine RM rfl ?_
 refine RBS rfl rfl rfl (.bool true) (by simp; omega) ?_
 refine RA rfl ?_
 refine RN ?_
 refine A.yes rfl ?_
 refine GS ?_
 refine TL ?_
 refine RA rfl ?_
 refine RN ?_
 refine A.ret ?_
 refine End.ret_block ?_
 refine End.ret_then ?_
 exact End.ret1 rfl rfl (by first | exact Le.refl _ | exact Le.old _ _)
theorem csz_eq (l : List UInt8) (n : Nat) (h : l.length = n) : Fn Tryd.prog 74 [byt l, .v (nI n)] (.v (.int .i64 0)) := by
 refine Fn.of Tryd.func74 rfl (by kernel_rfl) Tryd.ntmps74 (by simp) (fun w => [(0, old w.heap.size (byt l)), (1, .v (nI n))]) (fun w => (Start.old rfl (Start.v rfl Start.nil))) fun w₀ => ?_
 refine GS ?_
 refine TL ?_
 refine RA rfl ?_
 refine RN ?_
 refine A.seq ?_
 refine A.block ?_
 refine GS ?_
 refine TL ?_
 refine RM rfl ?_
 refine RS (ok_lenB Tryd.underlying44 rfl LA) ?_
 refine RM rfl ?_
 refine RBS rfl rfl rfl (.bool false) (by simp; omega) ?_
 refine RA rfl ?_
 refine RN ?_
 refine A.no rfl ?_
 refine GS ?_
 refine TL ?_
 refine RM rfl ?_
 refine RS (ok_lenB Tryd.underlying44 rfl LA) ?_
 refine RM rfl ?_
 refine RBS rfl rfl rfl (.bool false) (by simp; omega) ?_
 refine RA rfl ?_
 refine RN ?_
 refine A.no rfl ?_
 refine A.skip ?_
 refine End.normal_block ?_
 refine EN ?_
 refine GS ?_
 refine TL ?_
 refine RA rfl ?_
 refine RN ?_
 refine A.ret ?_
 exact End.ret1 rfl rfl (by first | exact Le.refl _ | exact Le.old _ _)
theorem checkSize_fn (l : List UInt8) (n : Nat) : Fn Tryd.prog 74 [byt l, .v (nI n)] (.v (.int .i64 (szE l.length n))) := by
 by_cases h : l.length < n
 ·rw [szE_lo h]; exact csz_lo l n h
 by_cases h2 : n < l.length
 ·rw [szE_hi h2]; exact csz_hi l n h2
 ·rw [szE_eq (by omega)]; exact csz_eq l n (by omega)
theorem front_fnB (A₀ : Option Addr) (n m : Nat) : FnB Tryd.prog 75 [.v (.slice A₀ n m)] (fun B => newD B 156 (fun b => ptr b) [.slice A₀ n m]) := by
 refine FnB.of Tryd.func75 rfl (by kernel_rfl) Tryd.ntmps75 (by simp) (fun w => [(0, .v (.slice A₀ n m))]) (fun w => (Start.v rfl Start.nil)) fun w₀ => ?_
 refine GS ?_
 refine TL ?_
 refine RA rfl ?_
 refine RN ?_
 refine GS ?_
 refine TN 2 ?_
 refine RM rfl ?_
 refine RS (ok_litS [(0, .slice A₀ n m)] [.slice A₀ n m] ⟨rfl, rfl, trivial⟩ (buildS_ A₀ n m)) ?_
 refine RN ?_
 refine ⟨_, _, eff_box (n := 6) (d := 5) (k := 1000005) rfl (by decide), fun b5 hb5 => ?_⟩
 have hBb5 := hb5.1
 refine TL ?_
 refine RA rfl ?_
 refine RN ?_
 refine A.ret ?_
 exact End.newF (kg := 1000005) rfl rfl rfl hBb5 rfl rfl
theorem cut_fnWR (g n m k : Nat) (A₀ : Option Addr) (hk : k ≤ n) (hn : n ≤ m) (h0 : 0 < m) : FnWR Tryd.prog 76 [] 156 g [.slice A₀ n m] [.slice (cutA m k A₀) (n - k) (m - k)] ([ptr g].map D.v ++ [.v (nI k)]) (.slice A₀ k m) := by
 refine FnWR.of (us := [ptr g, (nI k)]) (n := 22) (kb := 1000080) (kw := 1000081) Tryd.func76 rfl (by kernel_rfl) Tryd.ntmps76 (by simp) (by decide) (fun p hp => by cases hp) (by decide) (by decide) [(0, .v (ptr g)), (1, .v (nI k))]
  (fun p hp => by simp only [List.mem_cons, List.not_mem_nil, or_false] at hp; rcases hp with rfl | rfl <;> exact ⟨_, rfl, rfl⟩) fun w₀ w₁ hw => ?_
 have hBg : w₀.heap.size ≤ g := Nat.le_of_eq hw
 refine GS ?_
 refine TL ?_
 refine RA rfl ?_
 refine RN ?_
 refine GS ?_
 refine TL ?_
 refine RM rfl ?_
 refine RS (ok_nilCheck rfl) ?_
 refine RS (ok_field field156_0 (by decide) rfl) ?_
 refine RS (ok_loadV (s := 1000080) (by decide) Tryd.underlying44 rfl rfl rfl (rfl)) ?_
 refine RM rfl ?_
 refine RS (ok_sliceHi k Tryd.underlying44 info5 rfl rfl (by omega) h0) ?_
 refine RA rfl ?_
 refine RN ?_
 refine GS ?_
 refine TF 9 ?_
 refine RM rfl ?_
 refine RM rfl ?_
 refine RS (ok_nilCheck rfl) ?_
 refine RS (ok_field field156_0 (by decide) rfl) ?_
 refine RS (ok_loadV (s := 1000080) (by decide) Tryd.underlying44 rfl rfl rfl (rfl)) ?_
 refine RM rfl ?_
 refine RS (ok_sliceLo k Tryd.underlying44 info5 rfl rfl hk hn) ?_
 refine RS (ok_nilCheck rfl) ?_
 refine RS (ok_field field156_0 (by decide) rfl) ?_
 refine RN ?_
 refine ⟨_, eff_storeS (n := 22) (s := 1000080) info44 rfl rfl rfl hBg rfl (by simp) (LV 5 rfl (LeftS.cons (t := 1000081) rfl (Surv.wrote) LN)), ?_⟩
 refine TL ?_
 refine RN ?_
 refine GS ?_
 refine TL ?_
 refine RM rfl ?_
 refine RA rfl ?_
 refine RN ?_
 refine A.ret ?_
 exact End.wroteR (kb := 1000080) (kw := 1000081) (.inl rfl) rfl rfl rfl rfl rfl
theorem Eff.upM {P : Program} {n B : Nat} {ops : Array Oper} {o : Oper} {E E' : Env} {t k B' : Nat} {v : Value} {d : D} (ht : E'.look t = some (.v v)) (hk : E'.look k = some (old B' (valM v d))) (h : Eff P n B ops o E E') : Eff P n B ops o E ((t, old B' d) :: E') :=
 fun κ a w K Q hs hK => h κ a w K Q hs fun a' w' hb hs' => hK a' w' hb (hs'.push (d := old B' d) (by
  have h1 := hs'.of t _ ht
  have h2 := hs'.of k _ hk
  rw [show a'.tmps.getD t undef = v from h1]
  exact h2))
set_option maxHeartbeats 1000000 in
theorem GetRecord_bad (l : List UInt8) (h : l.length = 45) (hb : BadR (pX l) (gS (pN l)) (gC (pN l)) (pT l)) : Fn Tryd.prog 51 [byt l] (.v (.tuple #[aggV (recV 0 0 0 zD), .int .i64 1])) := by
 refine Fn.of Tryd.func51 rfl (by kernel_rfl) Tryd.ntmps51 (by simp) (fun w => [(0, old w.heap.size (byt l))]) (fun w => (Start.old rfl Start.nil)) fun w₀ => ?_
 refine A.nameC (t := 0) (k := 1000200) rfl fun A₀ m₀ hm1 hm2 => ?_
 refine A.cut (k₀ := 1000200) (k₁ := 1000211) (k₂ := 1000201) (i := 1) rfl (by omega) ?_
 refine A.cut (k₀ := 1000201) (k₁ := 1000212) (k₂ := 1000202) (i := 12) rfl (by omega) ?_
 refine A.cut (k₀ := 1000202) (k₁ := 1000213) (k₂ := 1000203) (i := 32) rfl (by omega) ?_
 refine GS ?_
 refine TN 0 ?_
 refine RN ?_
 refine ⟨_, _, eff_alloc (n := 41) (d := 2) (k := 1000002) zero35 (by decide), fun b2 hb2 => ?_⟩
 have hBb2 := hb2.1
 refine TL ?_
 refine RA rfl ?_
 refine RN ?_
 refine A.seq ?_
 refine GS ?_
 refine TL ?_
 refine RS (OpOk.valO (ok_move rfl) (k := 1000200) (by decide) rfl) ?_
 refine RS (ok_call (checkSize_fn l 45) (Args.cons rfl (Le.old _ _) (A1 rfl))) ?_; refine RZ (.int .i64 0) (congrArg (Value.int .i64) (szE_eq h)) ?_
 refine RA rfl ?_
 refine RN ?_
 refine GS ?_
 refine TL ?_
 refine RM rfl ?_
 refine RBS rfl rfl rfl (.bool false) (by rfl) ?_
 refine RN ?_
 refine A.no rfl ?_
 refine A.skip ?_
 refine EN ?_
 refine GS ?_
 refine TN 1 ?_
 refine RM rfl ?_
 refine RN ?_
 refine ⟨_, _, eff_name (n := 41) (d := 15) (k := 1000015) rfl rfl (fun B' => ok_callB (front_fnB A₀ l.length m₀) newD_mono (A1 rfl)) (by decide) (by decide), fun b15 hb15 => ?_⟩
 have hBb15 := hb15.1
 have hlt_b2_b15 : b2 < b15 := hb15.2 1000002 _ _ _ rfl
 refine TL ?_
 refine RS (ok_makeFuncM rfl) ?_
 refine RA rfl ?_
 refine RN ?_
 refine GS ?_
 refine TN 0 ?_
 refine RN ?_
 refine ⟨_, _, eff_alloc (n := 41) (d := 6) (k := 1000006) zero35 (by decide), fun b6 hb6 => ?_⟩
 have hBb6 := hb6.1
 have hlt_b2_b6 : b2 < b6 := hb6.2 1000002 _ _ _ rfl
 refine TL ?_
 refine RN ?_
 refine GS ?_
 refine TF 1 ?_
 refine RM rfl ?_
 refine RN ?_
 refine ⟨_, Eff.upM (t := 18) (k := 1000211) rfl rfl (eff_callBR (n := 41) (s := 1000015) (us := [ptr b15]) (ds := [.v (nI ((1 : Nat)))]) (cut_fnWR b15 (l.length) (m₀) 1 (A₀) (by omega) (by omega) (by omega)) (fun p hp => by cases hp) rfl (A1 rfl) hBb15 rfl (by decide) (by decide) (LV 2 rfl (LV 5 rfl (LV 6 rfl (LT 1000002 rfl (LT 1000006 rfl (LO 1000200 rfl (LO 1000201 rfl (LO 1000202 rfl (LO 1000203 rfl (LO 1000211 rfl (LO 1000212 rfl (LO 1000213 rfl LN))))))))))))), ?_⟩
 refine TF 5 ?_
 refine RS (ok_index (d := byteD (pX l)) Tryd.underlying44 info5 rfl LA rfl (by decide) (by cases l with | nil => simp at h | cons a l => rfl)) ?_
 refine RS (ok_load Tryd.underlying5 rfl rfl) ?_
 refine RS (ok_field field35_0 (by decide) rfl) ?_
 refine RN ?_
 refine ⟨_, eff_storeS (n := 41) (s := 1000006) info5 rfl rfl rfl hBb6 rfl (by simp) (LV 2 rfl (LV 5 rfl (LV 6 rfl (LB 1000002 rfl (LT 1000015 rfl (LO 1000200 rfl (LO 1000201 rfl (LO 1000202 rfl (LO 1000203 rfl (LO 1000211 rfl (LO 1000212 rfl (LO 1000213 rfl LN)))))))))))), ?_⟩
 refine TL ?_
 refine RN ?_
 refine A.sub (KC 2 rfl (KC 5 rfl (KC 6 rfl (KC 1000002 rfl (KE 1000006 rfl (show _ = blk b6 35 (recV (pX l) 0 0 zD) from by rfl) (KC 1000015 rfl (KC 1000200 rfl (KC 1000201 rfl (KC 1000202 rfl (KC 1000203 rfl (KC 1000211 rfl (KC 1000212 rfl (KC 1000213 rfl KN))))))))))))) ?_
 refine GS ?_
 refine TF 1 ?_
 refine RM rfl ?_
 refine RN ?_
 refine ⟨_, Eff.upM (t := 24) (k := 1000212) rfl rfl (eff_callBR (n := 41) (s := 1000015) (us := [ptr b15]) (ds := [.v (nI ((12 : Nat)))]) (cut_fnWR b15 (l.length - 1) (m₀ - 1) 12 (cutA (m₀) 1 (A₀)) (by omega) (by omega) (by omega)) (fun p hp => by cases hp) rfl (A1 rfl) hBb15 rfl (by decide) (by decide) (LV 2 rfl (LV 5 rfl (LV 6 rfl (LT 1000002 rfl (LT 1000006 rfl (LO 1000200 rfl (LO 1000201 rfl (LO 1000202 rfl (LO 1000203 rfl (LO 1000211 rfl (LO 1000212 rfl (LO 1000213 rfl LN))))))))))))), ?_⟩
 refine TF 7 ?_
 refine RS (ok_call (Get_fn (pN l)) (Args.cons rfl LA Args.nil)) ?_
 refine RM rfl ?_
 refine RS (ok_extract rfl rfl) ?_
 refine RS (ok_extract rfl rfl) ?_
 refine RS (ok_field field35_1 (by decide) rfl) ?_
 refine RN ?_
 refine ⟨_, eff_storeP (n := 41) (s := 1000006) (size31.of (rfl)) rfl rfl (rfl) hBb6 rfl (by rw [rec_len _ _ _ (t := zD) rfl]; exact Nat.le_of_ble_eq_true rfl) (LV 2 rfl (LV 5 rfl (LV 6 rfl (LB 1000002 rfl (LT 1000015 rfl (LO 1000200 rfl (LO 1000201 rfl (LO 1000202 rfl (LO 1000203 rfl (LO 1000211 rfl (LO 1000212 rfl (LO 1000213 rfl LN)))))))))))), ?_⟩
 refine TL ?_
 refine RN ?_
 refine A.sub (KC 2 rfl (KC 5 rfl (KC 6 rfl (KC 1000002 rfl (KE 1000006 rfl (show _ = blk b6 35 (recV (pX l) (gS (pN l)) (gC (pN l)) zD) from by rfl) (KC 1000015 rfl (KC 1000200 rfl (KC 1000201 rfl (KC 1000202 rfl (KC 1000203 rfl (KC 1000211 rfl (KC 1000212 rfl (KC 1000213 rfl KN))))))))))))) ?_
 refine GS ?_
 refine TF 1 ?_
 refine RM rfl ?_
 refine RN ?_
 refine ⟨_, Eff.upM (t := 30) (k := 1000213) rfl rfl (eff_callBR (n := 41) (s := 1000015) (us := [ptr b15]) (ds := [.v (nI ((32 : Nat)))]) (cut_fnWR b15 (l.length - 1 - 12) (m₀ - 1 - 12) 32 (cutA (m₀ - 1) 12 (cutA (m₀) 1 (A₀))) (by omega) (by omega) (by omega)) (fun p hp => by cases hp) rfl (A1 rfl) hBb15 rfl (by decide) (by decide) (LV 2 rfl (LV 6 rfl (LT 1000002 rfl (LT 1000006 rfl (LO 1000200 rfl (LO 1000201 rfl (LO 1000202 rfl (LO 1000203 rfl (LO 1000211 rfl (LO 1000212 rfl (LO 1000213 rfl LN)))))))))))), ?_⟩
 refine TF 5 ?_
 refine RS (ok_arrayB (pT l) (by rw [pT_len h]; exact Tryd.underlying33) rfl LA (by rw [pT_len h]; decide)) ?_
 refine RS (ok_loadB Tryd.underlying33 rfl (size33.of (pT_len h)) rfl) ?_
 refine RS (ok_field field35_2 (by decide) rfl) ?_
 refine RN ?_
 refine ⟨_, eff_storeP (n := 41) (s := 1000006) (size33.of (by rw [List.length_map, pT_len h])) rfl rfl (all_byte _) hBb6 rfl (by simp [recV, zD, pT_len h]) (LV 2 rfl (LV 6 rfl (LB 1000002 rfl (LT 1000015 rfl (LO 1000200 rfl (LO 1000201 rfl (LO 1000202 rfl (LO 1000203 rfl (LO 1000211 rfl (LO 1000212 rfl (LO 1000213 rfl LN))))))))))), ?_⟩
 refine TL ?_
 refine RN ?_
 refine A.sub (KC 2 rfl (KC 6 rfl (KC 1000002 rfl (KE 1000006 rfl (show _ = blk b6 35 (recV (pX l) (gS (pN l)) (gC (pN l)) (pT l)) from congrArg _ (rec_set3 _ _ _ (pT_len h) (t' := zD) rfl)) (KC 1000015 rfl (KC 1000200 rfl (KC 1000201 rfl (KC 1000202 rfl (KC 1000203 rfl (KC 1000211 rfl (KC 1000212 rfl (KC 1000213 rfl KN)))))))))))) ?_
 refine A.seq ?_
 refine GS ?_
 refine TL ?_
 refine RS (ok_loadA (s := 1000006) (by decide) Tryd.underlying35 rfl (size35.of (rec_len _ _ _ (pT_len h))) rfl rfl) ?_
 refine RS (ok_call (CheckR_fn (pX l) (gS (pN l)) (gC (pN l)) (pT l) (pT_len h)) (A1 rfl)) ?_; refine RZ (.int .i64 1) (congrArg (Value.int .i64) (ckR_bad hb)) ?_
 refine RA rfl ?_
 refine RN ?_
 refine GS ?_
 refine TL ?_
 refine RM rfl ?_
 refine RBS rfl rfl rfl (.bool true) (by rfl) ?_
 refine RN ?_
 refine A.yes rfl ?_
 refine GS ?_
 refine TF 2 ?_
 refine RS (ok_lit [] ([.int .u8 0] ++ [.int .u32 0] ++ [.int .u64 0] ++ List.replicate 32 (.int .u8 0)) (fun _ _ => rfl) (by kernel_rfl)) ?_
 refine RM rfl ?_
 refine RN ?_
 refine ⟨_, eff_storeA (n := 41) (s := 1000002) (size35.of (rfl)) rfl rfl (rfl) hBb2 rfl (rfl) (LV 2 rfl (LV 39 rfl (LB 1000006 rfl (LT 1000015 rfl (LO 1000200 rfl (LO 1000201 rfl (LO 1000202 rfl (LO 1000203 rfl (LO 1000211 rfl (LO 1000212 rfl (LO 1000213 rfl LN))))))))))), ?_⟩
 refine TL ?_
 refine RA rfl ?_
 refine RN ?_
 refine A.ret ?_
 refine End.ret_then ?_
 exact End.cellV (s := 1000002) rfl Tryd.underlying35 rfl (size35.of (rfl)) rfl rfl rfl
set_option maxHeartbeats 1000000 in
theorem GetRecord_ok (l : List UInt8) (h : l.length = 45) (hb : ¬ BadR (pX l) (gS (pN l)) (gC (pN l)) (pT l)) : Fn Tryd.prog 51 [byt l] (.v (.tuple #[aggV (recV (pX l) (gS (pN l)) (gC (pN l)) (pT l)), .int .i64 0])) := by
 refine Fn.of Tryd.func51 rfl (by kernel_rfl) Tryd.ntmps51 (by simp) (fun w => [(0, old w.heap.size (byt l))]) (fun w => (Start.old rfl Start.nil)) fun w₀ => ?_
 refine A.nameC (t := 0) (k := 1000200) rfl fun A₀ m₀ hm1 hm2 => ?_
 refine A.cut (k₀ := 1000200) (k₁ := 1000211) (k₂ := 1000201) (i := 1) rfl (by omega) ?_
 refine A.cut (k₀ := 1000201) (k₁ := 1000212) (k₂ := 1000202) (i := 12) rfl (by omega) ?_
 refine A.cut (k₀ := 1000202) (k₁ := 1000213) (k₂ := 1000203) (i := 32) rfl (by omega) ?_
 refine GS ?_
 refine TN 0 ?_
 refine RN ?_
 refine ⟨_, _, eff_alloc (n := 41) (d := 2) (k := 1000002) zero35 (by decide), fun b2 hb2 => ?_⟩
 have hBb2 := hb2.1
 refine TL ?_
 refine RA rfl ?_
 refine RN ?_
 refine A.seq ?_
 refine GS ?_
 refine TL ?_
 refine RS (OpOk.valO (ok_move rfl) (k := 1000200) (by decide) rfl) ?_
 refine RS (ok_call (checkSize_fn l 45) (Args.cons rfl (Le.old _ _) (A1 rfl))) ?_; refine RZ (.int .i64 0) (congrArg (Value.int .i64) (szE_eq h)) ?_
 refine RA rfl ?_
 refine RN ?_
 refine GS ?_
 refine TL ?_
 refine RM rfl ?_
 refine RBS rfl rfl rfl (.bool false) (by rfl) ?_
 refine RN ?_
 refine A.no rfl ?_
 refine A.skip ?_
 refine EN ?_
 refine GS ?_
 refine TN 1 ?_
 refine RM rfl ?_
 refine RN ?_
 refine ⟨_, _, eff_name (n := 41) (d := 15) (k := 1000015) rfl rfl (fun B' => ok_callB (front_fnB A₀ l.length m₀) newD_mono (A1 rfl)) (by decide) (by decide), fun b15 hb15 => ?_⟩
 have hBb15 := hb15.1
 have hlt_b2_b15 : b2 < b15 := hb15.2 1000002 _ _ _ rfl
 refine TL ?_
 refine RS (ok_makeFuncM rfl) ?_
 refine RA rfl ?_
 refine RN ?_
 refine GS ?_
 refine TN 0 ?_
 refine RN ?_
 refine ⟨_, _, eff_alloc (n := 41) (d := 6) (k := 1000006) zero35 (by decide), fun b6 hb6 => ?_⟩
 have hBb6 := hb6.1
 have hlt_b2_b6 : b2 < b6 := hb6.2 1000002 _ _ _ rfl
 refine TL ?_
 refine RN ?_
 refine GS ?_
 refine TF 1 ?_
 refine RM rfl ?_
 refine RN ?_
 refine ⟨_, Eff.upM (t := 18) (k := 1000211) rfl rfl (eff_callBR (n := 41) (s := 1000015) (us := [ptr b15]) (ds := [.v (nI ((1 : Nat)))]) (cut_fnWR b15 (l.length) (m₀) 1 (A₀) (by omega) (by omega) (by omega)) (fun p hp => by cases hp) rfl (A1 rfl) hBb15 rfl (by decide) (by decide) (LV 2 rfl (LV 5 rfl (LV 6 rfl (LT 1000002 rfl (LT 1000006 rfl (LO 1000200 rfl (LO 1000201 rfl (LO 1000202 rfl (LO 1000203 rfl (LO 1000211 rfl (LO 1000212 rfl (LO 1000213 rfl LN))))))))))))), ?_⟩
 refine TF 5 ?_
 refine RS (ok_index (d := byteD (pX l)) Tryd.underlying44 info5 rfl LA rfl (by decide) (by cases l with | nil => simp at h | cons a l => rfl)) ?_
 refine RS (ok_load Tryd.underlying5 rfl rfl) ?_
 refine RS (ok_field field35_0 (by decide) rfl) ?_
 refine RN ?_
 refine ⟨_, eff_storeS (n := 41) (s := 1000006) info5 rfl rfl rfl hBb6 rfl (by simp) (LV 2 rfl (LV 5 rfl (LV 6 rfl (LB 1000002 rfl (LT 1000015 rfl (LO 1000200 rfl (LO 1000201 rfl (LO 1000202 rfl (LO 1000203 rfl (LO 1000211 rfl (LO 1000212 rfl (LO 1000213 rfl LN)))))))))))), ?_⟩
 refine TL ?_
 refine RN ?_
 refine A.sub (KC 2 rfl (KC 5 rfl (KC 6 rfl (KC 1000002 rfl (KE 1000006 rfl (show _ = blk b6 35 (recV (pX l) 0 0 zD) from by rfl) (KC 1000015 rfl (KC 1000200 rfl (KC 1000201 rfl (KC 1000202 rfl (KC 1000203 rfl (KC 1000211 rfl (KC 1000212 rfl (KC 1000213 rfl KN))))))))))))) ?_
 refine GS ?_
 refine TF 1 ?_
 refine RM rfl ?_
 refine RN ?_
 refine ⟨_, Eff.upM (t := 24) (k := 1000212) rfl rfl (eff_callBR (n := 41) (s := 1000015) (us := [ptr b15]) (ds := [.v (nI ((12 : Nat)))]) (cut_fnWR b15 (l.length - 1) (m₀ - 1) 12 (cutA (m₀) 1 (A₀)) (by omega) (by omega) (by omega)) (fun p hp => by cases hp) rfl (A1 rfl) hBb15 rfl (by decide) (by decide) (LV 2 rfl (LV 5 rfl (LV 6 rfl (LT 1000002 rfl (LT 1000006 rfl (LO 1000200 rfl (LO 1000201 rfl (LO 1000202 rfl (LO 1000203 rfl (LO 1000211 rfl (LO 1000212 rfl (LO 1000213 rfl LN))))))))))))), ?_⟩
 refine TF 7 ?_
 refine RS (ok_call (Get_fn (pN l)) (Args.cons rfl LA Args.nil)) ?_
 refine RM rfl ?_
 refine RS (ok_extract rfl rfl) ?_
 refine RS (ok_extract rfl rfl) ?_
 refine RS (ok_field field35_1 (by decide) rfl) ?_
 refine RN ?_
 refine ⟨_, eff_storeP (n := 41) (s := 1000006) (size31.of (rfl)) rfl rfl (rfl) hBb6 rfl (by rw [rec_len _ _ _ (t := zD) rfl]; exact Nat.le_of_ble_eq_true rfl) (LV 2 rfl (LV 5 rfl (LV 6 rfl (LB 1000002 rfl (LT 1000015 rfl (LO 1000200 rfl (LO 1000201 rfl (LO 1000202 rfl (LO 1000203 rfl (LO 1000211 rfl (LO 1000212 rfl (LO 1000213 rfl LN)))))))))))), ?_⟩
 refine TL ?_
 refine RN ?_
 refine A.sub (KC 2 rfl (KC 5 rfl (KC 6 rfl (KC 1000002 rfl (KE 1000006 rfl (show _ = blk b6 35 (recV (pX l) (gS (pN l)) (gC (pN l)) zD) from by rfl) (KC 1000015 rfl (KC 1000200 rfl (KC 1000201 rfl (KC 1000202 rfl (KC 1000203 rfl (KC 1000211 rfl (KC 1000212 rfl (KC 1000213 rfl KN))))))))))))) ?_
 refine GS ?_
 refine TF 1 ?_
 refine RM rfl ?_
 refine RN ?_
 refine ⟨_, Eff.upM (t := 30) (k := 1000213) rfl rfl (eff_callBR (n := 41) (s := 1000015) (us := [ptr b15]) (ds := [.v (nI ((32 : Nat)))]) (cut_fnWR b15 (l.length - 1 - 12) (m₀ - 1 - 12) 32 (cutA (m₀ - 1) 12 (cutA (m₀) 1 (A₀))) (by omega) (by omega) (by omega)) (fun p hp => by cases hp) rfl (A1 rfl) hBb15 rfl (by decide) (by decide) (LV 2 rfl (LV 6 rfl (LT 1000002 rfl (LT 1000006 rfl (LO 1000200 rfl (LO 1000201 rfl (LO 1000202 rfl (LO 1000203 rfl (LO 1000211 rfl (LO 1000212 rfl (LO 1000213 rfl LN)))))))))))), ?_⟩
 refine TF 5 ?_
 refine RS (ok_arrayB (pT l) (by rw [pT_len h]; exact Tryd.underlying33) rfl LA (by rw [pT_len h]; decide)) ?_
 refine RS (ok_loadB Tryd.underlying33 rfl (size33.of (pT_len h)) rfl) ?_
 refine RS (ok_field field35_2 (by decide) rfl) ?_
 refine RN ?_
 refine ⟨_, eff_storeP (n := 41) (s := 1000006) (size33.of (by rw [List.length_map, pT_len h])) rfl rfl (all_byte _) hBb6 rfl (by simp [recV, zD, pT_len h]) (LV 2 rfl (LV 6 rfl (LB 1000002 rfl (LT 1000015 rfl (LO 1000200 rfl (LO 1000201 rfl (LO 1000202 rfl (LO 1000203 rfl (LO 1000211 rfl (LO 1000212 rfl (LO 1000213 rfl LN))))))))))), ?_⟩
 refine TL ?_
 refine RN ?_
 refine A.sub (KC 2 rfl (KC 6 rfl (KC 1000002 rfl (KE 1000006 rfl (show _ = blk b6 35 (recV (pX l) (gS (pN l)) (gC (pN l)) (pT l)) from congrArg _ (rec_set3 _ _ _ (pT_len h) (t' := zD) rfl)) (KC 1000015 rfl (KC 1000200 rfl (KC 1000201 rfl (KC 1000202 rfl (KC 1000203 rfl (KC 1000211 rfl (KC 1000212 rfl (KC 1000213 rfl KN)))))))))))) ?_
 refine A.seq ?_
 refine GS ?_
 refine TL ?_
 refine RS (ok_loadA (s := 1000006) (by decide) Tryd.underlying35 rfl (size35.of (rec_len _ _ _ (pT_len h))) rfl rfl) ?_
 refine RS (ok_call (CheckR_fn (pX l) (gS (pN l)) (gC (pN l)) (pT l) (pT_len h)) (A1 rfl)) ?_; refine RZ (.int .i64 0) (congrArg (Value.int .i64) (ckR_ok hb)) ?_
 refine RA rfl ?_
 refine RN ?_
 refine GS ?_
 refine TL ?_
 refine RM rfl ?_
 refine RBS rfl rfl rfl (.bool false) (by rfl) ?_
 refine RN ?_
 refine A.no rfl ?_
 refine A.skip ?_
 refine EN ?_
 refine GS ?_
 refine TF 1 ?_
 refine RS (ok_loadA (s := 1000006) (by decide) Tryd.underlying35 rfl (size35.of (rec_len _ _ _ (pT_len h))) rfl rfl) ?_
 refine RN ?_
 refine ⟨_, eff_storeA (n := 41) (s := 1000002) (size35.of (rec_len _ _ _ (pT_len h))) rfl rfl (rec_one _ _ _ _) hBb2 rfl (by rw [rec_len _ _ _ (pT_len h)]; rfl) (LV 2 rfl (LB 1000006 rfl (LT 1000015 rfl (LO 1000200 rfl (LO 1000201 rfl (LO 1000202 rfl (LO 1000203 rfl (LO 1000211 rfl (LO 1000212 rfl (LO 1000213 rfl LN)))))))))), ?_⟩
 refine TL ?_
 refine RA rfl ?_
 refine RN ?_
 refine A.ret ?_
 exact End.cellV (s := 1000002) rfl Tryd.underlying35 rfl (size35.of (rec_len _ _ _ (pT_len h))) rfl rfl rfl
set_option maxHeartbeats 1000000 in
theorem GetEntry_bad (l : List UInt8) (h : l.length = 33) (hb : BadE (pX l) (pD l)) : Fn Tryd.prog 53 [byt l] (.v (.tuple #[aggV (entV 0 zD), .int .i64 1])) := by
 refine Fn.of Tryd.func53 rfl (by kernel_rfl) Tryd.ntmps53 (by simp) (fun w => [(0, old w.heap.size (byt l))]) (fun w => (Start.old rfl Start.nil)) fun w₀ => ?_
 refine A.nameC (t := 0) (k := 1000200) rfl fun A₀ m₀ hm1 hm2 => ?_
 refine A.cut (k₀ := 1000200) (k₁ := 1000211) (k₂ := 1000201) (i := 1) rfl (by omega) ?_
 refine A.cut (k₀ := 1000201) (k₁ := 1000212) (k₂ := 1000202) (i := 32) rfl (by omega) ?_
 refine GS ?_
 refine TN 0 ?_
 refine RN ?_
 refine ⟨_, _, eff_alloc (n := 34) (d := 2) (k := 1000002) zero38 (by decide), fun b2 hb2 => ?_⟩
 have hBb2 := hb2.1
 refine TL ?_
 refine RA rfl ?_
 refine RN ?_
 refine A.seq ?_
 refine GS ?_
 refine TL ?_
 refine RS (OpOk.valO (ok_move rfl) (k := 1000200) (by decide) rfl) ?_
 refine RS (ok_call (checkSize_fn l 33) (Args.cons rfl (Le.old _ _) (A1 rfl))) ?_; refine RZ (.int .i64 0) (congrArg (Value.int .i64) (szE_eq h)) ?_
 refine RA rfl ?_
 refine RN ?_
 refine GS ?_
 refine TL ?_
 refine RM rfl ?_
 refine RBS rfl rfl rfl (.bool false) (by rfl) ?_
 refine RN ?_
 refine A.no rfl ?_
 refine A.skip ?_
 refine EN ?_
 refine GS ?_
 refine TN 1 ?_
 refine RM rfl ?_
 refine RN ?_
 refine ⟨_, _, eff_name (n := 34) (d := 15) (k := 1000015) rfl rfl (fun B' => ok_callB (front_fnB A₀ l.length m₀) newD_mono (A1 rfl)) (by decide) (by decide), fun b15 hb15 => ?_⟩
 have hBb15 := hb15.1
 have hlt_b2_b15 : b2 < b15 := hb15.2 1000002 _ _ _ rfl
 refine TL ?_
 refine RS (ok_makeFuncM rfl) ?_
 refine RA rfl ?_
 refine RN ?_
 refine GS ?_
 refine TN 0 ?_
 refine RN ?_
 refine ⟨_, _, eff_alloc (n := 34) (d := 6) (k := 1000006) zero38 (by decide), fun b6 hb6 => ?_⟩
 have hBb6 := hb6.1
 have hlt_b2_b6 : b2 < b6 := hb6.2 1000002 _ _ _ rfl
 refine TL ?_
 refine RN ?_
 refine GS ?_
 refine TF 1 ?_
 refine RM rfl ?_
 refine RN ?_
 refine ⟨_, Eff.upM (t := 18) (k := 1000211) rfl rfl (eff_callBR (n := 34) (s := 1000015) (us := [ptr b15]) (ds := [.v (nI ((1 : Nat)))]) (cut_fnWR b15 (l.length) (m₀) 1 (A₀) (by omega) (by omega) (by omega)) (fun p hp => by cases hp) rfl (A1 rfl) hBb15 rfl (by decide) (by decide) (LV 2 rfl (LV 5 rfl (LV 6 rfl (LT 1000002 rfl (LT 1000006 rfl (LO 1000200 rfl (LO 1000201 rfl (LO 1000202 rfl (LO 1000211 rfl (LO 1000212 rfl LN))))))))))), ?_⟩
 refine TF 5 ?_
 refine RS (ok_index (d := byteD (pX l)) Tryd.underlying44 info5 rfl LA rfl (by decide) (by cases l with | nil => simp at h | cons a l => rfl)) ?_
 refine RS (ok_load Tryd.underlying5 rfl rfl) ?_
 refine RS (ok_field field38_0 (by decide) rfl) ?_
 refine RN ?_
 refine ⟨_, eff_storeS (n := 34) (s := 1000006) info5 rfl rfl rfl hBb6 rfl (by simp) (LV 2 rfl (LV 5 rfl (LV 6 rfl (LB 1000002 rfl (LT 1000015 rfl (LO 1000200 rfl (LO 1000201 rfl (LO 1000202 rfl (LO 1000211 rfl (LO 1000212 rfl LN)))))))))), ?_⟩
 refine TL ?_
 refine RN ?_
 refine A.sub (KC 2 rfl (KC 5 rfl (KC 6 rfl (KC 1000002 rfl (KE 1000006 rfl (show _ = blk b6 38 (entV (pX l) zD) from by rfl) (KC 1000015 rfl (KC 1000200 rfl (KC 1000201 rfl (KC 1000202 rfl (KC 1000211 rfl (KC 1000212 rfl KN))))))))))) ?_
 refine GS ?_
 refine TF 1 ?_
 refine RM rfl ?_
 refine RN ?_
 refine ⟨_, Eff.upM (t := 23) (k := 1000212) rfl rfl (eff_callBR (n := 34) (s := 1000015) (us := [ptr b15]) (ds := [.v (nI ((32 : Nat)))]) (cut_fnWR b15 (l.length - 1) (m₀ - 1) 32 (cutA (m₀) 1 (A₀)) (by omega) (by omega) (by omega)) (fun p hp => by cases hp) rfl (A1 rfl) hBb15 rfl (by decide) (by decide) (LV 2 rfl (LV 6 rfl (LT 1000002 rfl (LT 1000006 rfl (LO 1000200 rfl (LO 1000201 rfl (LO 1000202 rfl (LO 1000211 rfl (LO 1000212 rfl LN)))))))))), ?_⟩
 refine TF 5 ?_
 refine RS (ok_arrayB (pD l) (by rw [pD_len h]; exact Tryd.underlying33) rfl LA (by rw [pD_len h]; decide)) ?_
 refine RS (ok_loadB Tryd.underlying33 rfl (size33.of (pD_len h)) rfl) ?_
 refine RS (ok_field field38_1 (by decide) rfl) ?_
 refine RN ?_
 refine ⟨_, eff_storeP (n := 34) (s := 1000006) (size33.of (by rw [List.length_map, pD_len h])) rfl rfl (all_byte _) hBb6 rfl (by simp [entV, zD, pD_len h]) (LV 2 rfl (LV 6 rfl (LB 1000002 rfl (LT 1000015 rfl (LO 1000200 rfl (LO 1000201 rfl (LO 1000202 rfl (LO 1000211 rfl (LO 1000212 rfl LN))))))))), ?_⟩
 refine TL ?_
 refine RN ?_
 refine A.sub (KC 2 rfl (KC 6 rfl (KC 1000002 rfl (KE 1000006 rfl (show _ = blk b6 38 (entV (pX l) (pD l)) from congrArg _ (ent_set1 _ (pD_len h) (t' := zD) rfl)) (KC 1000015 rfl (KC 1000200 rfl (KC 1000201 rfl (KC 1000202 rfl (KC 1000211 rfl (KC 1000212 rfl KN)))))))))) ?_
 refine A.seq ?_
 refine GS ?_
 refine TL ?_
 refine RS (ok_loadA (s := 1000006) (by decide) Tryd.underlying38 rfl (size38.of (ent_len _ (pD_len h))) rfl rfl) ?_
 refine RS (ok_call (CheckE_fn (pX l) (pD l) (pD_len h)) (A1 rfl)) ?_; refine RZ (.int .i64 1) (congrArg (Value.int .i64) (ckE_bad hb)) ?_
 refine RA rfl ?_
 refine RN ?_
 refine GS ?_
 refine TL ?_
 refine RM rfl ?_
 refine RBS rfl rfl rfl (.bool true) (by rfl) ?_
 refine RN ?_
 refine A.yes rfl ?_
 refine GS ?_
 refine TF 2 ?_
 refine RS (ok_lit [] ([.int .u8 0] ++ List.replicate 32 (.int .u8 0)) (fun _ _ => rfl) (by kernel_rfl)) ?_
 refine RM rfl ?_
 refine RN ?_
 refine ⟨_, eff_storeA (n := 34) (s := 1000002) (size38.of (rfl)) rfl rfl (rfl) hBb2 rfl (rfl) (LV 2 rfl (LV 32 rfl (LB 1000006 rfl (LT 1000015 rfl (LO 1000200 rfl (LO 1000201 rfl (LO 1000202 rfl (LO 1000211 rfl (LO 1000212 rfl LN))))))))), ?_⟩
 refine TL ?_
 refine RA rfl ?_
 refine RN ?_
 refine A.ret ?_
 refine End.ret_then ?_
 exact End.cellV (s := 1000002) rfl Tryd.underlying38 rfl (size38.of (rfl)) rfl rfl rfl
set_option maxHeartbeats 1000000 in
theorem GetEntry_ok (l : List UInt8) (h : l.length = 33) (hb : ¬ BadE (pX l) (pD l)) : Fn Tryd.prog 53 [byt l] (.v (.tuple #[aggV (entV (pX l) (pD l)), .int .i64 0])) := by
 refine Fn.of Tryd.func53 rfl (by kernel_rfl) Tryd.ntmps53 (by simp) (fun w => [(0, old w.heap.size (byt l))]) (fun w => (Start.old rfl Start.nil)) fun w₀ => ?_
 refine A.nameC (t := 0) (k := 1000200) rfl fun A₀ m₀ hm1 hm2 => ?_
 refine A.cut (k₀ := 1000200) (k₁ := 1000211) (k₂ := 1000201) (i := 1) rfl (by omega) ?_
 refine A.cut (k₀ := 1000201) (k₁ := 1000212) (k₂ := 1000202) (i := 32) rfl (by omega) ?_
 refine GS ?_
 refine TN 0 ?_
 refine RN ?_
 refine ⟨_, _, eff_alloc (n := 34) (d := 2) (k := 1000002) zero38 (by decide), fun b2 hb2 => ?_⟩
 have hBb2 := hb2.1
 refine TL ?_
 refine RA rfl ?_
 refine RN ?_
 refine A.seq ?_
 refine GS ?_
 refine TL ?_
 refine RS (OpOk.valO (ok_move rfl) (k := 1000200) (by decide) rfl) ?_
 refine RS (ok_call (checkSize_fn l 33) (Args.cons rfl (Le.old _ _) (A1 rfl))) ?_; refine RZ (.int .i64 0) (congrArg (Value.int .i64) (szE_eq h)) ?_
 refine RA rfl ?_
 refine RN ?_
 refine GS ?_
 refine TL ?_
 refine RM rfl ?_
 refine RBS rfl rfl rfl (.bool false) (by rfl) ?_
 refine RN ?_
 refine A.no rfl ?_
 refine A.skip ?_
 refine EN ?_
 refine GS ?_
 refine TN 1 ?_
 refine RM rfl ?_
 refine RN ?_
 refine ⟨_, _, eff_name (n := 34) (d := 15) (k := 1000015) rfl rfl (fun B' => ok_callB (front_fnB A₀ l.length m₀) newD_mono (A1 rfl)) (by decide) (by decide), fun b15 hb15 => ?_⟩
 have hBb15 := hb15.1
 have hlt_b2_b15 : b2 < b15 := hb15.2 1000002 _ _ _ rfl
 refine TL ?_
 refine RS (ok_makeFuncM rfl) ?_
 refine RA rfl ?_
 refine RN ?_
 refine GS ?_
 refine TN 0 ?_
 refine RN ?_
 refine ⟨_, _, eff_alloc (n := 34) (d := 6) (k := 1000006) zero38 (by decide), fun b6 hb6 => ?_⟩
 have hBb6 := hb6.1
 have hlt_b2_b6 : b2 < b6 := hb6.2 1000002 _ _ _ rfl
 refine TL ?_
 refine RN ?_
 refine GS ?_
 refine TF 1 ?_
 refine RM rfl ?_
 refine RN ?_
 refine ⟨_, Eff.upM (t := 18) (k := 1000211) rfl rfl (eff_callBR (n := 34) (s := 1000015) (us := [ptr b15]) (ds := [.v (nI ((1 : Nat)))]) (cut_fnWR b15 (l.length) (m₀) 1 (A₀) (by omega) (by omega) (by omega)) (fun p hp => by cases hp) rfl (A1 rfl) hBb15 rfl (by decide) (by decide) (LV 2 rfl (LV 5 rfl (LV 6 rfl (LT 1000002 rfl (LT 1000006 rfl (LO 1000200 rfl (LO 1000201 rfl (LO 1000202 rfl (LO 1000211 rfl (LO 1000212 rfl LN))))))))))), ?_⟩
 refine TF 5 ?_
 refine RS (ok_index (d := byteD (pX l)) Tryd.underlying44 info5 rfl LA rfl (by decide) (by cases l with | nil => simp at h | cons a l => rfl)) ?_
 refine RS (ok_load Tryd.underlying5 rfl rfl) ?_
 refine RS (ok_field field38_0 (by decide) rfl) ?_
 refine RN ?_
 refine ⟨_, eff_storeS (n := 34) (s := 1000006) info5 rfl rfl rfl hBb6 rfl (by simp) (LV 2 rfl (LV 5 rfl (LV 6 rfl (LB 1000002 rfl (LT 1000015 rfl (LO 1000200 rfl (LO 1000201 rfl (LO 1000202 rfl (LO 1000211 rfl (LO 1000212 rfl LN)))))))))), ?_⟩
 refine TL ?_
 refine RN ?_
 refine A.sub (KC 2 rfl (KC 5 rfl (KC 6 rfl (KC 1000002 rfl (KE 1000006 rfl (show _ = blk b6 38 (entV (pX l) zD) from by rfl) (KC 1000015 rfl (KC 1000200 rfl (KC 1000201 rfl (KC 1000202 rfl (KC 1000211 rfl (KC 1000212 rfl KN))))))))))) ?_
 refine GS ?_
 refine TF 1 ?_
 refine RM rfl ?_
 refine RN ?_
 refine ⟨_, Eff.upM (t := 23) (k := 1000212) rfl rfl (eff_callBR (n := 34) (s := 1000015) (us := [ptr b15]) (ds := [.v (nI ((32 : Nat)))]) (cut_fnWR b15 (l.length - 1) (m₀ - 1) 32 (cutA (m₀) 1 (A₀)) (by omega) (by omega) (by omega)) (fun p hp => by cases hp) rfl (A1 rfl) hBb15 rfl (by decide) (by decide) (LV 2 rfl (LV 6 rfl (LT 1000002 rfl (LT 1000006 rfl (LO 1000200 rfl (LO 1000201 rfl (LO 1000202 rfl (LO 1000211 rfl (LO 1000212 rfl LN)))))))))), ?_⟩
 refine TF 5 ?_
 refine RS (ok_arrayB (pD l) (by rw [pD_len h]; exact Tryd.underlying33) rfl LA (by rw [pD_len h]; decide)) ?_
 refine RS (ok_loadB Tryd.underlying33 rfl (size33.of (pD_len h)) rfl) ?_
 refine RS (ok_field field38_1 (by decide) rfl) ?_
 refine RN ?_
 refine ⟨_, eff_storeP (n := 34) (s := 1000006) (size33.of (by rw [List.length_map, pD_len h])) rfl rfl (all_byte _) hBb6 rfl (by simp [entV, zD, pD_len h]) (LV 2 rfl (LV 6 rfl (LB 1000002 rfl (LT 1000015 rfl (LO 1000200 rfl (LO 1000201 rfl (LO 1000202 rfl (LO 1000211 rfl (LO 1000212 rfl LN))))))))), ?_⟩
 refine TL ?_
 refine RN ?_
 refine A.sub (KC 2 rfl (KC 6 rfl (KC 1000002 rfl (KE 1000006 rfl (show _ = blk b6 38 (entV (pX l) (pD l)) from congrArg _ (ent_set1 _ (pD_len h) (t' := zD) rfl)) (KC 1000015 rfl (KC 1000200 rfl (KC 1000201 rfl (KC 1000202 rfl (KC 1000211 rfl (KC 1000212 rfl KN)))))))))) ?_
 refine A.seq ?_
 refine GS ?_
 refine TL ?_
 refine RS (ok_loadA (s := 1000006) (by decide) Tryd.underlying38 rfl (size38.of (ent_len _ (pD_len h))) rfl rfl) ?_
 refine RS (ok_call (CheckE_fn (pX l) (pD l) (pD_len h)) (A1 rfl)) ?_; refine RZ (.int .i64 0) (congrArg (Value.int .i64) (ckE_ok hb)) ?_
 refine RA rfl ?_
 refine RN ?_
 refine GS ?_
 refine TL ?_
 refine RM rfl ?_
 refine RBS rfl rfl rfl (.bool false) (by rfl) ?_
 refine RN ?_
 refine A.no rfl ?_
 refine A.skip ?_
 refine EN ?_
 refine GS ?_
 refine TF 1 ?_
 refine RS (ok_loadA (s := 1000006) (by decide) Tryd.underlying38 rfl (size38.of (ent_len _ (pD_len h))) rfl rfl) ?_
 refine RN ?_
 refine ⟨_, eff_storeA (n := 34) (s := 1000002) (size38.of (ent_len _ (pD_len h))) rfl rfl (ent_one _ _) hBb2 rfl (by rw [ent_len _ (pD_len h)]; rfl) (LV 2 rfl (LB 1000006 rfl (LT 1000015 rfl (LO 1000200 rfl (LO 1000201 rfl (LO 1000202 rfl (LO 1000211 rfl (LO 1000212 rfl LN)))))))), ?_⟩
 refine TL ?_
 refine RA rfl ?_
 refine RN ?_
 refine A.ret ?_
 exact End.cellV (s := 1000002) rfl Tryd.underlying38 rfl (size38.of (ent_len _ (pD_len h))) rfl rfl rfl
end Go.Proofs.YtlddnmblfgaimaaDoor
namespace Go.Proofs.YtlddnmblfgaimaaDoor
open Go Go.RowKit
variable {κ : Cx}
section
variable {P : Program} {B : Nat} {E : Env} {o : Oper}
end
section
variable {P : Program} {n : Nat} {w₀ : World} {E : Env}
end
/-! ### A row with room behind it, named where it is made -/
/-! ### Variables -/
theorem Surv.hd {B T g : Nat} {f : D} {rest : List Value} (h : Surv B T g f) : Surv B T g (hdD f rest) := fun w w' _ k ⟨v, h1, h2, h3⟩ => ⟨v, h1, h2, h w w' v k h3⟩
theorem Surv.valM {B T g : Nat} {f : D} {v : Value} (h : Surv B T g f) : Surv B T g (Go.Proofs.YtlddnmblfgaimaaDoor.valM v f) := fun w w' _ k hx => h w w' v k hx
section
variable {P : Program} {n B : Nat} {ops : Array Oper} {E : Env} {ty : TypeId} {pos : String} {after : Array Edge}
end
/-- Some value. -/
def anyD : D := .p (fun _ _ _ => True) (fun _ _ _ _ _ _ => trivial) (fun _ _ _ _ _ _ => trivial)
theorem Surv.any {B T g : Nat} : Surv B T g anyD := fun _ _ _ _ _ => trivial
end Go.Proofs.YtlddnmblfgaimaaDoor
namespace Go.Proofs.YtlddnmblfgaimaaDoor
open Go Go.RowKit
variable {κ : Cx}
def InfoP (P : Program) (e : TypeId) (z : Value) (sz nb : Nat) : Prop := (P.info? e).map (fun i => (i.zero, i.size, i.bytes)) = some (some z, sz, nb)
theorem InfoP.get {P : Program} {e : TypeId} {z : Value} {sz nb : Nat} (h : InfoP P e z sz nb) : ∃ i, P.info? e = some i ∧ i.zero = some z ∧ i.size = sz ∧ i.bytes = nb := by
  unfold InfoP at h
  cases hi : P.info? e with
  | none => rw [hi] at h; cases h
  | some i =>
    rw [hi] at h
    simp only [Option.map_some, Option.some.injEq, Prod.mk.injEq] at h
    exact ⟨i, rfl, h.1, h.2.1, h.2.2⟩
/-- A slice of one struct. -/
def oneP (us : List Value) : D :=
  .p (fun B w x => ∃ ad : Addr, x = .slice (some ad) 1 1 ∧ ad.block < B ∧ ∀ (j : Nat) (u : Value), us[j]? = some u → w.cell? (ad.add j) = some u)
    (fun _ _ _ _ g ⟨ad, h1, h2, h3⟩ => ⟨ad, h1, h2, fun j u hu => (g.cell (by rw [block_of_add]; exact h2)).trans (h3 j u hu)⟩) (fun _ _ _ _ g ⟨ad, h1, h2, h3⟩ => ⟨ad, h1, by omega, h3⟩)
section
variable {P : Program} {B : Nat} {E : Env} {dst : Option Tmp} {ty : TypeId} {pos : String} {after : Array Edge} {guard : Option (Nat × Bool)}
end
section
variable {P : Program} {n B : Nat} {ops : Array Oper} {E : Env} {ty : TypeId} {pos : String} {after : Array Edge}
/-! ### New variables in drawn regions -/
end
end Go.Proofs.YtlddnmblfgaimaaDoor
namespace Go.Proofs.YtlddnmblfgaimaaDoor
open Go Go.RowKit
set_option linter.unusedVariables false
set_option linter.unusedSimpArgs false
variable {κ : Cx}
section
variable {P : Program} {n : Nat} {E : Env} {w₀ : World} {c : Code} {Q : Exit → Act → World → Prop}
end
section
variable {P : Program} {B : Nat} {E : Env} {dst : Option Tmp} {ty : TypeId} {pos : String} {after : Array Edge} {guard : Option (Nat × Bool)}
end
section
variable {P : Program} {n B : Nat} {ops : Array Oper} {E : Env} {ty : TypeId} {pos : String} {after : Array Edge}
end
end Go.Proofs.YtlddnmblfgaimaaDoor
namespace Go.Proofs.YtlddnmblfgaimaaDoor
open Go Go.RowKit
set_option linter.unusedSimpArgs false
set_option linter.unusedVariables false
variable {κ : Cx}
/-- The facts M on memory stand in the environment, each at some number. -/
def MHas (E : Env) (M : Env) : Prop := ∀ q ∈ M, ∃ k d, vbase ≤ k ∧ E.look k = some d ∧ Le d q.2
theorem MHas.nil {E : Env} : MHas E [] := fun _ h => by cases h
theorem MHas.cons {E M : Env} {t : Nat} {d' : D} (k : Nat) {d : D} (hk : vbase ≤ k) (hE : E.look k = some d) (hl : Le d d') (hr : MHas E M) : MHas E ((t, d') :: M) := fun q hq => by
  rcases List.mem_cons.1 hq with rfl | hq
  · exact ⟨k, d, hk, hE, hl⟩
  · exact hr q hq
section
variable {P : Program} {B : Nat} {E : Env} {dst : Option Tmp} {ty : TypeId} {pos : String} {after : Array Edge} {guard : Option (Nat × Bool)}
end
section
variable {P : Program} {B : Nat} {E : Env}
end
end Go.Proofs.YtlddnmblfgaimaaDoor
namespace Go.Proofs.YtlddnmblfgaimaaDoor
open Go Go.RowKit
set_option linter.unusedVariables false
set_option linter.unusedSimpArgs false
variable {κ : Cx}
section
variable {P : Program} {B : Nat} {E : Env} {dst : Option Tmp} {ty : TypeId} {pos : String} {after : Array Edge} {guard : Option (Nat × Bool)}
end
section
variable {P : Program} {n B : Nat} {ops : Array Oper} {E : Env} {ty : TypeId} {pos : String} {after : Array Edge}
theorem eff_appendRoom {t e : TypeId} {z : Value} {nb sz : Nat} {r x : Operand} {b k c s dst : Nat} {e' : TypeId} {xs us : List Value} {E' : Env} (ht : P.underlying t = some (.slice e)) (hinfo : InfoP P e z sz nb)
    (hr : E.at r = some (.v (.slice (some ⟨b, 0, none⟩) k c))) (hx : E.at x = some (oneP us)) (hu : us.length = sz) (h1 : us.all (·.oneCell') = true) (hkc : k < c) (hb : B ≤ b) (hblk : E.look s = some (blk b e' xs)) (hfit : c * sz ≤ xs.length) (hnt : ∀ q, P.underlying t ≠ some (.int q)) (hdst : dst < n) (hl : LeftS B e' b E' E) :
    Eff P n B ops ⟨some dst, .call { callee := .builtin .append, args := #[r, x], argTypes := #[t, t] }, ty, pos, after, none⟩ E ((dst, .v (.slice (some ⟨b, 0, none⟩) (k + 1) c)) :: (s, blk b e' (xs.take (k * sz) ++ us ++ xs.drop (k * sz + sz))) :: E') := by
  subst hu
  obtain ⟨i, hi, _, hs, _⟩ := hinfo.get
  intro κ a w K Q h hK
  have hre : a.eval r = _ := h.at_ r _ hr
  obtain ⟨ad, hxe, _, hcell⟩ := h.at_ x _ hx
  obtain ⟨hlt, hh⟩ := h.of s _ hblk
  have hload := run_loadCells_list (P := P) w ad us hcell
  have hkf : k * us.length + us.length ≤ c * us.length := by
    have : (k + 1) * us.length ≤ c * us.length := Nat.mul_le_mul_right _ hkc
    rwa [Nat.add_mul, Nat.one_mul] at this
  have hst := run_storeCells_at P b (k * us.length) e' us 0 xs.toArray w hh (by simp; omega) (fun v hv => List.all_eq_true.1 h1 v hv)
  have haddr : (⟨b, 0, none⟩ : Addr).add (k * us.length) = ⟨b, k * us.length, none⟩ := by unfold Addr.add; split <;> simp_all
  have hrun : (Builtin.append_ #[t, t] ty #[a.eval r, a.eval x]).run P w = .ok (.slice (some ⟨b, 0, none⟩) (k + 1) c) (w.setRow b (xs.take (k * us.length) ++ us ++ xs.drop (k * us.length + us.length)).toArray) := by
    rw [hre, hxe]
    simp only [Nat.add_zero] at hst
    simp [Builtin.append_, run_underlying ht, Builtin.lenOf, Builtin.firstCells, sizeOf, typeInfo, hi, hs, haddr, hload]
    rw [if_pos (by omega)]
    simp [hst]
  have hexec : (execOp a.eval ⟨some dst, .call { callee := .builtin .append, args := #[r, x], argTypes := #[t, t] }, ty, pos, after, none⟩).run P w = .ok (.value (.slice (some ⟨b, 0, none⟩) (k + 1) c)) (w.setRow b (xs.take (k * us.length) ++ us ++ xs.drop (k * us.length + us.length)).toArray) := by
    simp [execOp, resolve, invoke, builtin, hrun]
  have hwr : Wrote B e' b w (w.setRow b (xs.take (k * us.length) ++ us ++ xs.drop (k * us.length + us.length)).toArray) := Wrote.setRow hb hh _
  rw [if_pos (by simp [Region.wanted])]
  refine opR (by nofun) ?_
  unfold Oper.wp
  rw [hexec, Oper.upon_value]
  exact hK _ _ (hwr.below h.base) (St.put ((hl.st h hwr).push (d := blk b e' (xs.take (k * us.length) ++ us ++ xs.drop (k * us.length + us.length))) ⟨by simpa [World.setRow] using hlt, by simp [World.setRow, Array.getElem?_modify, hh]⟩) hdst rfl)
end
section
variable {P : Program} {n : Nat} {w₀ : World} {E : Env}
end
end Go.Proofs.YtlddnmblfgaimaaDoor
namespace Go.Proofs.YtlddnmblfgaimaaDoor
open Go Go.RowKit
variable {κ : Cx}
section
variable {P : Program} {n : Nat} {w₀ : World} {ops : Array Oper} {E : Env} {ty : TypeId} {pos : String} {after : Array Edge}
def YieldsX (P : Program) (N : Nat) (l : Nat) (arg : Nat → D) (J : Nat → World → Prop) {X : Type} (XE : X → Env) : Prop :=
  ∀ (i : Nat) (W : World) (u : Value) (x : X), i < N → J i W → (arg i).Of W u → (∀ p ∈ XE x, p.2.Of W undef) → YieldAt (FR none) 0 P l #[u] W fun e W' => e = .returned (.bool true) ∧ J (i + 1) W' ∧ W.heap.size ≤ W'.heap.size ∧ ∀ p ∈ XE x, p.2.Of W' undef
structure SeqsX (P : Program) (w₀ : World) (N : Nat) (l : Nat) (arg : Nat → D) (V : Nat → Env) (J : Nat → World → Prop) {X : Type} (XE : X → Env) : Prop where
  grow : ∀ i a b, J i a → Grow a b → J i b
  holds : ∀ i W, J i W → Holds w₀ (V i) W
  yields : YieldsX P N l arg J XE
theorem SeqsX.sub {N l : Nat} {arg : Nat → D} {V V' : Nat → Env} {J : Nat → World → Prop} {X : Type} {XE : X → Env} (h : SeqsX P w₀ N l arg V J XE) (hs : ∀ i, ∀ p ∈ V' i, p ∈ V i) : SeqsX P w₀ N l arg V' J XE :=
  ⟨h.grow, fun i W hJ => ⟨(h.holds i W hJ).1, (h.holds i W hJ).2.1, fun p hp => (h.holds i W hJ).2.2 p (hs i p hp)⟩, h.yields⟩
end
end Go.Proofs.YtlddnmblfgaimaaDoor
namespace Go.Proofs.YtlddnmblfgaimaaDoor
open Go Go.RowKit
variable {κ : Cx}

/-! ### Counts -/
/-- What is under level k: the blocks, or the places of the level below. -/
def un (n : Nat) : Nat → Nat
  | 0 => n
  | k + 1 => (un n k + 3) / 4
theorem un_lt (n : Nat) : ∀ (k j : Nat), j < un n k ↔ j * 4 ^ k < n
  | 0, j => by simp [un]
  | k + 1, j => by
    have h1 : j < (un n k + 3) / 4 ↔ j * 4 < un n k := by omega
    show j < (un n k + 3) / 4 ↔ _
    rw [h1, un_lt n k, Nat.mul_assoc, Nat.pow_succ, Nat.mul_comm 4]
theorem un_pos {n : Nat} (h : 1 ≤ n) (k : Nat) : 1 ≤ un n k := (un_lt n k 0).2 (by omega)
theorem un_le {n : Nat} (h : 1 ≤ n) : ∀ k, un n k ≤ n
  | 0 => Nat.le_refl _
  | k + 1 => by
    have := un_le h k
    have := un_pos h k
    show (un n k + 3) / 4 ≤ n
    omega
theorem un_succ (n k : Nat) : un n (k + 1) = (un n k + 3) / 4 := rfl
/-- The level of the root. -/
def hg (n : Nat) : Nat := if n ≤ 4 then 0 else if n ≤ 16 then 1 else if n ≤ 64 then 2 else if n ≤ 256 then 3 else if n ≤ 1024 then 4 else 5
theorem hg_le (n : Nat) : hg n ≤ 5 := by unfold hg; (repeat' split) <;> omega
theorem hg_up {n : Nat} (h : n ≤ 4096) : n ≤ 4 ^ (hg n + 1) := by
  unfold hg
  split
  · simpa
  split
  · simpa
  split
  · simpa
  split
  · simpa
  split
  · simpa
  · simpa
theorem hg_lo {n : Nat} (h0 : hg n ≠ 0) : 4 ^ hg n < n := by
  unfold hg at *
  split at h0
  · exact absurd rfl h0
  rw [if_neg (by omega)]
  split
  · simp; omega
  split
  · simp; omega
  split
  · simp; omega
  split
  · simp; omega
  · simp; omega
theorem un_root {n : Nat} (h1 : 1 ≤ n) (h2 : n ≤ 4096) : un n (hg n + 1) = 1 := by
  have := un_pos h1 (hg n + 1)
  have h3 := un_lt n (hg n + 1) 1
  have := hg_up h2
  omega
theorem un_big {n k : Nat} (hk : k ≤ hg n) (h0 : k ≠ 0) : 1 < un n k := by
  rw [un_lt, Nat.one_mul]
  exact Nat.lt_of_le_of_lt (Nat.pow_le_pow_right (by decide) hk) (hg_lo (by omega))
/-- Where the loops over the levels stand: at a level, or above the root. -/
theorem un_case {n k : Nat} (h1 : 1 ≤ n) (h2 : n ≤ 4096) (hk : k ≤ hg n + 1) : (1 < un n k ∧ k ≤ hg n) ∨ (¬ 1 < un n k ∧ k = 0 ∧ k ≤ hg n) ∨ (¬ 1 < un n k ∧ k ≠ 0 ∧ k = hg n + 1) := by
  by_cases h : k ≤ hg n
  · by_cases h0 : k = 0
    · by_cases h3 : 1 < un n k
      · exact .inl ⟨h3, h⟩
      · exact .inr (.inl ⟨h3, h0, h⟩)
    · exact .inl ⟨un_big h h0, h⟩
  · obtain rfl : k = hg n + 1 := by omega
    exact .inr (.inr ⟨by rw [un_root h1 h2]; decide, by omega, rfl⟩)
/-- How many places there are below a level. -/
def tot (n : Nat) : Nat → Nat
  | 0 => 0
  | l + 1 => tot n l + un n (l + 1)
/-- The first sector of a level's nodes. -/
def bs (n l : Nat) : Nat := 2 * n + 2 * tot n l
/-- How many parts of a place exist. -/
def pts (n l j : Nat) : Nat := min (un n l - 4 * j) 4
theorem pts_pos {n l j : Nat} (h : j < un n (l + 1)) : 1 ≤ pts n l j ∧ pts n l j ≤ 4 ∧ 4 * j < un n l := by
  rw [un_succ] at h
  unfold pts; omega
/-! ### A place -/
def IsP (n : Nat) (l j : Int) : Prop := ∃ a b : Nat, l = (a : Int) ∧ j = (b : Int) ∧ a ≤ hg n ∧ b < un n (a + 1)
theorem isP_nat {n a b : Nat} : IsP n (a : Int) (b : Int) ↔ a ≤ hg n ∧ b < un n (a + 1) :=
  ⟨fun ⟨a', b', h1, h2, h3, h4⟩ => by obtain rfl : a = a' := by omega
                                      obtain rfl : b = b' := by omega
                                      exact ⟨h3, h4⟩, fun ⟨h3, h4⟩ => ⟨a, b, rfl, rfl, h3, h4⟩⟩

/-! ### In memory -/
/-- The first k counts, in an array of six. -/
def rowU (n k : Nat) : List Value := (List.range 6).map fun i => nI (if i < k then un n (i + 1) else 0)
theorem rowU_length (n k : Nat) : (rowU n k).length = 6 := by simp [rowU]
theorem rowU_get {n k i : Nat} (h : i < k) (hi : i < 6) : (rowU n k)[i]? = some (nI (un n (i + 1))) := by simp [rowU, hi, h]
theorem rowU_zero (n : Nat) : (List.replicate 6 (.int .i64 0) : List Value) = rowU n 0 := by simp [rowU, List.range, List.range.loop, List.replicate]
theorem rowU_set {n k : Nat} (h : k < 6) : (rowU n k).take (k * 1) ++ [nI (un n (k + 1))] ++ (rowU n k).drop (k * 1 + 1) = rowU n (k + 1) := by
  apply List.ext_getElem?
  intro i
  rw [Nat.mul_one]
  have hl : ((rowU n k).take k).length = k := by rw [List.length_take, rowU_length]; omega
  rcases Nat.lt_trichotomy i k with hik | rfl | hik
  · rw [List.append_assoc, List.getElem?_append_left (by omega), List.getElem?_take, if_pos hik, rowU_get hik (by omega), rowU_get (by omega) (by omega)]
  · rw [List.append_assoc, List.getElem?_append_right (by omega), hl, Nat.sub_self, rowU_get (by omega) (by omega)]; rfl
  · rw [List.getElem?_append_right (by simp only [List.length_append, hl, List.length_singleton]; omega)]
    simp only [List.length_append, hl, List.length_singleton, List.getElem?_drop, show k + 1 + (i - (k + 1)) = i from by omega]
    unfold rowU
    simp only [List.getElem?_map]
    cases hi : (List.range 6)[i]? with
    | none => rfl
    | some x =>
      have hx : i < 6 ∧ x = i := by
        obtain ⟨h1, h2⟩ := List.getElem?_eq_some_iff.1 hi
        simp at h1 h2; exact ⟨h1, h2.symm⟩
      obtain ⟨_, rfl⟩ := hx
      simp only [Option.map_some]
      rw [if_neg (by omega), if_neg (by omega)]
/-- A shape, whose counts stand in block b. -/
def shV (n b : Nat) : List Value := [nI n, .slice (some ⟨b, 0, none⟩) (hg n + 1) 6]
def plV (l j : Nat) : List Value := [nI l, nI j]
/-! ### Operations -/
theorem FnM.key {P : Program} {f : FuncId} {k : Nat} {e d : D} {ds : List D} (k' : Nat) (h : FnM P f [(k, e)] ds d) : FnM P f [(k', e)] ds d :=
  ⟨h.body, fun vs w hM h1 h2 => h.calls vs w (fun p hp => by simp only [List.mem_cons, List.not_mem_nil, or_false] at hp; subst hp; exact hM (k', e) List.mem_cons_self) h1 h2⟩
/-- From a contract that speaks of a block by name, one that takes a new value over such a block. -/
theorem FnM.new {P : Program} {f : FuncId} {k : Nat} {T : TypeId} {d : D} {val : Nat → Value} {xs : List Value} {ds : List D} (h : ∀ b, FnM P f [(k, blk b T xs)] (.v (val b) :: ds) d) : Fn P f (newD 0 T val xs :: ds) d :=
  ⟨(h 0).body, fun vs w hl hv => by
    cases vs with
    | nil => simp at hl
    | cons v vs =>
      obtain ⟨b, h1, _, h3, h4⟩ := hv 0 _ v rfl rfl
      subst h1
      refine (h b).calls (val b :: vs) w (fun p hp => ?_) hl fun j e u he hu => ?_
      · simp only [List.mem_cons, List.not_mem_nil, or_false] at hp; subst hp; exact ⟨h3, h4⟩
      · cases j with
        | zero => simp only [List.getElem?_cons_zero, Option.some.injEq] at he hu; subst he; subst hu; rfl
        | succ j => exact hv (j + 1) e u (by simpa using he) hu⟩
section
variable {P : Program} {B : Nat} {E : Env} {dst : Option Tmp} {ty : TypeId} {pos : String} {after : Array Edge} {guard : Option (Nat × Bool)}
/-- A call of a function that reads one block that is known. -/
theorem ok_callK {f : FuncId} {args : Array Operand} {argTypes : Array TypeId} {ds : List D} {d e : D} {k₀ : Nat} (k : Nat) (hf : FnM P f [(k₀, e)] ds d) (hk : vbase ≤ k) (hE : E.look k = some e) (ha : Args E ds args.toList) :
    OpOk P B ⟨dst, .call { callee := .value (.func f), args := args, argTypes := argTypes }, ty, pos, after, guard⟩ E d :=
  ok_callM (hf.key k) (Sub.cons hE Sub.nil) (fun p hp => by simp only [List.mem_cons, List.not_mem_nil, or_false] at hp; subst hp; exact hk) ha
/-- An element's address, of several cells, in a slice whose value is known. -/
theorem ok_indexS {t e : TypeId} {z : Value} {nb sz : Nat} {x i : Operand} {b o n c : Nat} {k : IntKind} {j : Int} (m : Nat) (ht : P.underlying t = some (.slice e)) (hs : InfoP P e z sz nb) (hx : E.at x = some (.v (.slice (some ⟨b, o, none⟩) n c))) (hi : E.at i = some (.v (.int k j)))
    (h0 : j = (m : Int)) (hn : m < n) : OpOk P B ⟨dst, .indexAddr t x i, ty, pos, after, guard⟩ E (.v (.pointer (some ⟨b, o + m * sz, none⟩))) := fun ρ w _ _ hρ => by
  have h1 : ρ x = _ := hρ x (by simp [Op.operands]) _ hx
  have hi' : ρ i = .int k j := hρ i (by simp [Op.operands]) _ hi
  obtain ⟨info, hinfo, _, hsize, _⟩ := hs.get
  subst h0
  refine out_val (w' := w) ?_ ⟨Grow.refl w, rfl⟩
  simp [execOp, h1, hi', Instr.indexAt, asIntOf, run_underlying ht, sizeOf, typeInfo, hinfo, hsize, hn, add_lit0]
/-- A slice of one number. -/
theorem ok_build1N {t e : TypeId} {z : Value} {nb : Nat} {x : Operand} {k : IntKind} {a : Int} (ht : P.underlying t = some (.slice e)) (hs : InfoP P e z 1 nb) (hz : z.cells.size = 1) (hx : E.at x = some (.v (.int k a))) :
    OpOk P B ⟨dst, .buildSlice t 1 #[(0, x)], ty, pos, after, guard⟩ E (oneP [.int k a]) := fun ρ w _ _ hρ => by
  obtain ⟨i, hi, hzv, hsize, _⟩ := hs.get
  have h1 : ρ x = .int k a := hρ x (by simp [Op.operands]) _ hx
  have hfill : Instr.fill (fun j => some (j * i.size, i.size)) ((Array.range (1 * i.size)).map (z.cells[· % z.cells.size]!)) [(0, ρ x)] = some #[.int k a] := by
    rw [hsize, h1, hz]
    have h2 : ((Array.range (1 * 1)).map fun y => z.cells[y % 1]!) = #[z.cells[0]!] := by
      rw [show Array.range (1 * 1) = #[0] from by decide]
      simp
    rw [h2]
    simp [Instr.fill, Value.cells]
  have hr := run_buildSlice (P := P) w t e 1 #[(0, ρ x)] #[.int k a] i z ht hi hzv (by rw [hsize]; decide) (by rw [hsize]; decide) (by simpa using hfill)
  refine out_val (x := .slice (some ⟨w.heap.size, 0, none⟩) 1 1) (w' := w.alloc (.cells #[.int k a] e)) (by simp [execOp, hr]) ⟨Grow.alloc w _, _, rfl, by simp, fun j u hu => ?_⟩
  have hh : (w.alloc (.cells #[.int k a] e)).heap[w.heap.size]? = some (.cells #[.int k a] e (0, 0)) := heap_alloc_new w _
  rw [show (⟨w.heap.size, 0, none⟩ : Addr).add j = ⟨w.heap.size, j, none⟩ from by unfold Addr.add; split <;> simp_all]
  simp only [World.cell?, hh]
  simpa using hu
end
theorem tmod_nat (a b : Nat) : (a : Int).tmod (b : Int) = ((a % b : Nat) : Int) := (Int.ofNat_tmod a b).symm
theorem wrap_eq {a : Int} {m : Nat} (h : a = (m : Int)) (hm : m < 9223372036854775808) : Value.int .i64 (IntKind.i64.wrap a) = nI m := by rw [h, wrapN_i64 hm]
end Go.Proofs.YtlddnmblfgaimaaDoor
namespace Go.Proofs.YtlddnmblfgaimaaDoor
open Go Go.RowKit
set_option linter.unusedVariables false
set_option maxRecDepth 20000
abbrev shM (n b : Nat) : Env := [(1900000, blk b 75 (rowU n (hg n + 1)))]

theorem zero126 : ZeroIs Tryd.prog 126 ([.int .i64 0] ++ [.int .i64 0]) := by unfold ZeroIs; kernel_rfl
theorem size126 : SizeIs Tryd.prog 126 2 := by unfold SizeIs; kernel_rfl
theorem field126_0 : FieldIs Tryd.prog 126 0 0 1 := by unfold FieldIs; kernel_rfl
theorem field126_1 : FieldIs Tryd.prog 126 1 1 1 := by unfold FieldIs; kernel_rfl
theorem zero123 : ZeroIs Tryd.prog 123 ([.int .i64 0] ++ [.slice none 0 0]) := by unfold ZeroIs; kernel_rfl
theorem size123 : SizeIs Tryd.prog 123 2 := by unfold SizeIs; kernel_rfl
theorem field123_0 : FieldIs Tryd.prog 123 0 0 1 := by unfold FieldIs; kernel_rfl
theorem field123_1 : FieldIs Tryd.prog 123 1 1 1 := by unfold FieldIs; kernel_rfl
theorem size24 : SizeIs Tryd.prog 24 1 := by unfold SizeIs; kernel_rfl
theorem field24_0 : FieldIs Tryd.prog 24 0 0 1 := by unfold FieldIs; kernel_rfl
theorem zero75 : ZeroIs Tryd.prog 75 (List.replicate 6 (.int .i64 0)) := by unfold ZeroIs; kernel_rfl
theorem infoPI : InfoP Tryd.prog 3 (.int .i64 0) 1 8 := by unfold InfoP; kernel_rfl
theorem buildSh (n b c d : Nat) : Tryd.prog.built 123 [(0, nI n), (1, .slice (some ⟨b, 0, none⟩) c d)] = some ([nI n, .slice (some ⟨b, 0, none⟩) c d] : List Value).toArray := by kernel_rfl
theorem buildP (a b : Int) : Tryd.prog.built 126 [(0, .int .i64 a), (1, .int .i64 b)] = some ([.int .i64 a, .int .i64 b] : List Value).toArray := by kernel_rfl
theorem within_y (a b : Int) (h0 : 0 ≤ a) (h : a < b) : Fn Tryd.prog 88 [.v (.int .i64 (a)), .v (.int .i64 (b))] (.v (.bool true)) := by
 refine Fn.of Tryd.func88 rfl (by kernel_rfl) Tryd.ntmps88 (by simp) (fun w => [(0, .v (.int .i64 (a))), (1, .v (.int .i64 (b)))]) (fun w => (Start.v rfl (Start.v rfl Start.nil))) fun w₀ => ?_
 refine GS ?_
 refine TL ?_
 refine RA rfl ?_
 refine RN ?_
 refine GS ?_
 refine TL ?_
 refine RM rfl ?_
 refine RBS rfl rfl rfl (.bool true) (by first | rfl | (simp; done) | (simp; omega) | (simp [*]; done) | (simp [*]; omega)) ?_
 refine RM rfl ?_
 refine RQ (ok_move rfl) ?_
 refine RQ (ok_move rfl) ?_
 refine RQ (ok_bin rfl rfl rfl) ?_; refine RZ (.bool true) (by first | rfl | (simp; done) | (simp; omega) | (simp [*]; done) | (simp [*]; omega)) ?_
 refine RP rfl rfl ?_
 refine RA rfl ?_
 refine RN ?_
 refine A.ret ?_
 exact End.ret1 rfl rfl (by first | exact Le.refl _ | exact Le.old _ _)
theorem within_n1 (a b : Int) (h0 : ¬ 0 ≤ a) : Fn Tryd.prog 88 [.v (.int .i64 (a)), .v (.int .i64 (b))] (.v (.bool false)) := by
 refine Fn.of Tryd.func88 rfl (by kernel_rfl) Tryd.ntmps88 (by simp) (fun w => [(0, .v (.int .i64 (a))), (1, .v (.int .i64 (b)))]) (fun w => (Start.v rfl (Start.v rfl Start.nil))) fun w₀ => ?_
 refine GS ?_
 refine TL ?_
 refine RA rfl ?_
 refine RN ?_
 refine GS ?_
 refine TL ?_
 refine RM rfl ?_
 refine RBS rfl rfl rfl (.bool false) (by first | rfl | (simp; done) | (simp; omega) | (simp [*]; done) | (simp [*]; omega)) ?_
 refine RM rfl ?_
 refine RK ?_
 refine RK ?_
 refine RK ?_
 refine RP rfl rfl ?_
 refine RA rfl ?_
 refine RN ?_
 refine A.ret ?_
 exact End.ret1 rfl rfl (by first | exact Le.refl _ | exact Le.old _ _)
theorem within_n2 (a b : Int) (h0 : 0 ≤ a) (h : ¬ a < b) : Fn Tryd.prog 88 [.v (.int .i64 (a)), .v (.int .i64 (b))] (.v (.bool false)) := by
 refine Fn.of Tryd.func88 rfl (by kernel_rfl) Tryd.ntmps88 (by simp) (fun w => [(0, .v (.int .i64 (a))), (1, .v (.int .i64 (b)))]) (fun w => (Start.v rfl (Start.v rfl Start.nil))) fun w₀ => ?_
 refine GS ?_
 refine TL ?_
 refine RA rfl ?_
 refine RN ?_
 refine GS ?_
 refine TL ?_
 refine RM rfl ?_
 refine RBS rfl rfl rfl (.bool true) (by first | rfl | (simp; done) | (simp; omega) | (simp [*]; done) | (simp [*]; omega)) ?_
 refine RM rfl ?_
 refine RQ (ok_move rfl) ?_
 refine RQ (ok_move rfl) ?_
 refine RQ (ok_bin rfl rfl rfl) ?_; refine RZ (.bool false) (by first | rfl | (simp; done) | (simp; omega) | (simp [*]; done) | (simp [*]; omega)) ?_
 refine RP rfl rfl ?_
 refine RA rfl ?_
 refine RN ?_
 refine A.ret ?_
 exact End.ret1 rfl rfl (by first | exact Le.refl _ | exact Le.old _ _)
theorem within_n (a b : Int) (h : ¬ (0 ≤ a ∧ a < b)) : Fn Tryd.prog 88 [.v (.int .i64 (a)), .v (.int .i64 (b))] (.v (.bool false)) := by
 by_cases h0 : 0 ≤ a
 ·exact within_n2 a b h0 (by omega)
 ·exact within_n1 a b h0
theorem Check_ok (n : Nat) (h1 : 1 ≤ n) (h2 : n ≤ 4096)  : Fn Tryd.prog 44 [.v (nI (n))] (.v (.int .i64 (0))) := by
 refine Fn.of Tryd.func44 rfl (by kernel_rfl) Tryd.ntmps44 (by simp) (fun w => [(0, .v (nI (n)))]) (fun w => (Start.v rfl Start.nil)) fun w₀ => ?_
 refine GS ?_
 refine TL ?_
 refine RA rfl ?_
 refine RN ?_
 refine A.seq ?_
 refine GS ?_
 refine TL ?_
 refine RM rfl ?_
 refine RBS rfl rfl rfl (.bool false) (by first | rfl | (simp; done) | (simp; omega) | (simp [*]; done) | (simp [*]; omega)) ?_
 refine RM rfl ?_
 refine RQ (ok_move rfl) ?_
 refine RQ (ok_bin rfl rfl rfl) ?_; refine RZ (.bool false) (by first | rfl | (simp; done) | (simp; omega) | (simp [*]; done) | (simp [*]; omega)) ?_
 refine RP rfl rfl ?_
 refine RN ?_
 refine A.no rfl ?_
 refine A.skip ?_
 refine EN ?_
 refine GS ?_
 refine TL ?_
 refine RA rfl ?_
 refine RN ?_
 refine A.ret ?_
 exact End.ret1 rfl rfl (by first | exact Le.refl _ | exact Le.old _ _)
theorem Check_lo (m : Int) (h : m < 1) : Fn Tryd.prog 44 [.v (.int .i64 (m))] (.v (.int .i64 (1))) := by
 refine Fn.of Tryd.func44 rfl (by kernel_rfl) Tryd.ntmps44 (by simp) (fun w => [(0, .v (.int .i64 (m)))]) (fun w => (Start.v rfl Start.nil)) fun w₀ => ?_
 refine GS ?_
 refine TL ?_
 refine RA rfl ?_
 refine RN ?_
 refine A.seq ?_
 refine GS ?_
 refine TL ?_
 refine RM rfl ?_
 refine RBS rfl rfl rfl (.bool true) (by first | rfl | (simp; done) | (simp; omega) | (simp [*]; done) | (simp [*]; omega)) ?_
 refine RM rfl ?_
 refine RK ?_
 refine RK ?_
 refine RP rfl rfl ?_
 refine RN ?_
 refine A.yes rfl ?_
 refine GS ?_
 refine TL ?_
 refine RA rfl ?_
 refine RN ?_
 refine A.ret ?_
 refine End.ret_then ?_
 exact End.ret1 rfl rfl (by first | exact Le.refl _ | exact Le.old _ _)
theorem Check_hi (m : Int) (h : 4096 < m) : Fn Tryd.prog 44 [.v (.int .i64 (m))] (.v (.int .i64 (1))) := by
 refine Fn.of Tryd.func44 rfl (by kernel_rfl) Tryd.ntmps44 (by simp) (fun w => [(0, .v (.int .i64 (m)))]) (fun w => (Start.v rfl Start.nil)) fun w₀ => ?_
 refine GS ?_
 refine TL ?_
 refine RA rfl ?_
 refine RN ?_
 refine A.seq ?_
 refine GS ?_
 refine TL ?_
 refine RM rfl ?_
 refine RBS rfl rfl rfl (.bool false) (by first | rfl | (simp; done) | (simp; omega) | (simp [*]; done) | (simp [*]; omega)) ?_
 refine RM rfl ?_
 refine RQ (ok_move rfl) ?_
 refine RQ (ok_bin rfl rfl rfl) ?_; refine RZ (.bool true) (by first | rfl | (simp; done) | (simp; omega) | (simp [*]; done) | (simp [*]; omega)) ?_
 refine RP rfl rfl ?_
 refine RN ?_
 refine A.yes rfl ?_
 refine GS ?_
 refine TL ?_
 refine RA rfl ?_
 refine RN ?_
 refine A.ret ?_
 refine End.ret_then ?_
 exact End.ret1 rfl rfl (by first | exact Le.refl _ | exact Le.old _ _)
theorem Check_bad (m : Int) (hm : ¬ (1 ≤ m ∧ m ≤ 4096)) : Fn Tryd.prog 44 [.v (.int .i64 (m))] (.v (.int .i64 (1))) := by
 by_cases h0 : m < 1
 ·exact Check_lo m h0
 ·exact Check_hi m (by omega)
theorem countsOf_fnB (n : Nat) (h1 : 1 ≤ n) (h2 : n ≤ 4096)  : FnB Tryd.prog 86 [.v (nI (n))] (fun B => newD B 75 (fun b => .slice (some ⟨b, 0, none⟩) (hg n + 1) 6) (rowU n (hg n + 1))) := by
 refine FnB.of Tryd.func86 rfl (by kernel_rfl) Tryd.ntmps86 (by simp) (fun w => [(0, .v (nI (n)))]) (fun w => (Start.v rfl Start.nil)) fun w₀ => ?_
 refine GS ?_
 refine TL ?_
 refine RA rfl ?_
 refine RN ?_
 refine GS ?_
 refine TN 0 ?_
 refine RN ?_
 refine ⟨_, _, eff_alloc (n := 24) (d := 3) (k := 1000003) zero75 (by decide), fun b3 hb3 => ?_⟩
 have hBb3 := hb3.1
 refine TL ?_
 refine RN ?_
 refine GS ?_
 refine TL ?_
 refine RS (ok_sliceX (l := 0) (h := 0) (m := 6) Tryd.underlying75 info3 rfl (.inr ⟨rfl, rfl⟩) (.inl ⟨_, _, rfl, rfl⟩) (.inl ⟨_, _, rfl, rfl⟩) (by decide) (by decide) (by decide) (.inl (by decide))) ?_; refine RZ (.slice (some ⟨b3, 0, none⟩) 0 6) (rfl) ?_
 refine RA rfl ?_
 refine RN ?_
 refine A.seq ?_
 refine GS ?_
 refine TL ?_
 refine RM rfl ?_
 refine RA rfl ?_
 refine RN ?_
 refine A.block ?_
 refine A.loop (ι := Nat) (fun k => k ≤ hg n + 1) (fun k => [(4, .v (.slice (some ⟨b3, 0, none⟩) k 6)), (5, .v (nI (un n k))), (1000003, blk b3 75 (rowU n (k)))]) (fun k => hg n + 1 - k) 0 ?_ ?_ ?_
 ·exact Nat.zero_le _
 ·exact (KC 4 rfl (KC 5 rfl (KE 1000003 rfl (congrArg _ (rowU_zero n)) KN)))
 intro k hk
 have hu0 := un_le h1 (k)
 have hv0 := un_pos h1 (k)
 have hu1 := un_le h1 (k + 1)
 have hv1 := un_pos h1 (k + 1)
 have hh := hg_le n
 refine A.seq ?_
 rcases un_case h1 h2 hk with ⟨hA, hA'⟩ | ⟨hA, hA', hA''⟩ | ⟨hA, hA', hA''⟩
 ·refine GS ?_
  refine TL ?_
  refine RM rfl ?_
  refine RBS rfl rfl rfl (.bool true) (by first | rfl | (simp; done) | (simp; omega) | (simp [*]; done) | (simp [*]; omega)) ?_
  refine RM rfl ?_
  refine RK ?_
  refine RK ?_
  refine RK ?_
  refine RP rfl rfl ?_
  refine RN ?_
  refine A.yes rfl ?_
  refine A.skip ?_
  refine EN ?_
  refine A.block ?_
  refine GS ?_
  refine TL ?_
  refine RM rfl ?_
  refine RBS rfl rfl rfl (nI (un n k + 4)) (wrap_eq (by omega) (by omega)) ?_
  refine RBS rfl rfl rfl (nI (un n k + 3)) (wrap_eq (by omega) (by omega)) ?_
  refine RS (ok_div rfl rfl (by decide)) ?_; refine RZ (nI (un n (k + 1))) (by rw [tdiv_lit _ (by decide)]; exact wrap_eq rfl (by first | omega | (simp only [Int.toNat]; omega))) ?_
  refine RA rfl ?_
  refine RN ?_
  refine GE ?_
  refine TF 3 ?_
  refine RM rfl ?_
  refine RM rfl ?_
  refine RS (ok_build1N Tryd.underlying121 infoPI rfl rfl) ?_
  refine RN ?_
  refine ⟨_, eff_appendRoom (n := 24) (s := 1000003) (k := k) (c := 6) (us := [nI (un n (k + 1))]) Tryd.underlying121 infoPI rfl rfl rfl rfl (by omega) hBb3 rfl (by rw [rowU_length]; decide) (fun q hq => by rw [Tryd.underlying121] at hq; cases hq) (by decide) (LV 5 rfl LN), ?_⟩
  refine TL ?_
  refine RA rfl ?_
  refine RN ?_
  refine End.sub (KC 4 rfl (KC 5 rfl (KE 1000003 rfl (show blk b3 75 _ = blk b3 75 (rowU n (k + 1)) from congrArg _ (rowU_set (by omega))) KN))) ?_
  refine End.normal_block ?_
  refine End.normal_then ?_
  refine End.again (k + 1) ?_ ?_ ?_
  ·show _ ≤ _; omega
  ·show _ - _ < _ - _; omega
  ·exact (KC 4 rfl (KC 5 rfl (KC 1000003 rfl KN)))
 ·refine GS ?_
  refine TL ?_
  refine RM rfl ?_
  refine RBS rfl rfl rfl (.bool false) (by first | rfl | (simp; done) | (simp; omega) | (simp [*]; done) | (simp [*]; omega)) ?_
  refine RM rfl ?_
  refine RQ (ok_move rfl) ?_
  refine RQ (ok_lenV Tryd.underlying121 rfl) ?_
  refine RQ (ok_bin rfl rfl rfl) ?_; refine RZ (.bool true) (by first | rfl | (simp; done) | (simp; omega) | (simp [*]; done) | (simp [*]; omega)) ?_
  refine RP rfl rfl ?_
  refine RN ?_
  refine A.yes rfl ?_
  refine A.skip ?_
  refine EN ?_
  refine A.block ?_
  refine GS ?_
  refine TL ?_
  refine RM rfl ?_
  refine RBS rfl rfl rfl (nI (un n k + 4)) (wrap_eq (by omega) (by omega)) ?_
  refine RBS rfl rfl rfl (nI (un n k + 3)) (wrap_eq (by omega) (by omega)) ?_
  refine RS (ok_div rfl rfl (by decide)) ?_; refine RZ (nI (un n (k + 1))) (by rw [tdiv_lit _ (by decide)]; exact wrap_eq rfl (by first | omega | (simp only [Int.toNat]; omega))) ?_
  refine RA rfl ?_
  refine RN ?_
  refine GE ?_
  refine TF 3 ?_
  refine RM rfl ?_
  refine RM rfl ?_
  refine RS (ok_build1N Tryd.underlying121 infoPI rfl rfl) ?_
  refine RN ?_
  refine ⟨_, eff_appendRoom (n := 24) (s := 1000003) (k := k) (c := 6) (us := [nI (un n (k + 1))]) Tryd.underlying121 infoPI rfl rfl rfl rfl (by omega) hBb3 rfl (by rw [rowU_length]; decide) (fun q hq => by rw [Tryd.underlying121] at hq; cases hq) (by decide) (LV 5 rfl LN), ?_⟩
  refine TL ?_
  refine RA rfl ?_
  refine RN ?_
  refine End.sub (KC 4 rfl (KC 5 rfl (KE 1000003 rfl (show blk b3 75 _ = blk b3 75 (rowU n (k + 1)) from congrArg _ (rowU_set (by omega))) KN))) ?_
  refine End.normal_block ?_
  refine End.normal_then ?_
  refine End.again (k + 1) ?_ ?_ ?_
  ·show _ ≤ _; omega
  ·show _ - _ < _ - _; omega
  ·exact (KC 4 rfl (KC 5 rfl (KC 1000003 rfl KN)))
 ·refine GS ?_
  refine TL ?_
  refine RM rfl ?_
  refine RBS rfl rfl rfl (.bool false) (by first | rfl | (simp; done) | (simp; omega) | (simp [*]; done) | (simp [*]; omega)) ?_
  refine RM rfl ?_
  refine RQ (ok_move rfl) ?_
  refine RQ (ok_lenV Tryd.underlying121 rfl) ?_
  refine RQ (ok_bin rfl rfl rfl) ?_; refine RZ (.bool false) (by first | rfl | (simp; done) | (simp; omega) | (simp [*]; done) | (simp [*]; omega)) ?_
  refine RP rfl rfl ?_
  refine RN ?_
  refine A.no rfl ?_
  refine A.exit ?_
  refine End.exit_then ?_
  refine End.exit_then ?_
  refine End.exit_here ?_
  refine EN ?_
  refine GS ?_
  refine TL ?_
  refine RM rfl ?_
  refine RA rfl ?_
  refine RN ?_
  refine A.ret ?_
  exact End.newF rfl rfl (kg := 1000003) rfl hBb3 (by rw [hA'']) (by rw [hA''])
theorem shapeOf_fnB (n : Nat) (h1 : 1 ≤ n) (h2 : n ≤ 4096)  : FnB Tryd.prog 70 [.v (nI (n))] (fun B => newD B 75 (fun b => aggV (shV n b)) (rowU n (hg n + 1))) := by
 refine FnB.of Tryd.func70 rfl (by kernel_rfl) Tryd.ntmps70 (by simp) (fun w => [(0, .v (nI (n)))]) (fun w => (Start.v rfl Start.nil)) fun w₀ => ?_
 refine GS ?_
 refine TN 0 ?_
 refine RN ?_
 refine ⟨_, _, eff_alloc (n := 11) (d := 2) (k := 1000002) zero123 (by decide), fun b2 hb2 => ?_⟩
 have hBb2 := hb2.1
 refine TL ?_
 refine RN ?_
 refine A.seq ?_
 refine GS ?_
 refine TL ?_
 refine RM rfl ?_
 refine RS (ok_call (Check_ok n h1 h2) (A1 rfl)) ?_
 refine RBS rfl rfl rfl (.bool false) (by first | rfl | (simp; done) | (simp; omega) | (simp [*]; done) | (simp [*]; omega)) ?_
 refine RN ?_
 refine A.no rfl ?_
 refine A.skip ?_
 refine EN ?_
 refine GS ?_
 refine TN 2 ?_
 refine RM rfl ?_
 refine RM rfl ?_
 refine RN ?_
 refine ⟨_, _, eff_name (n := 11) (d := 9) (k := 1000009) rfl rfl (fun B' => ok_callB (countsOf_fnB n h1 h2) (fun _ _ h => newD_mono _ _ h) (A1 rfl)) (by decide) (by decide), fun b9 hb9 => ?_⟩
 have hBb9 := hb9.1
 have hlt_b2_b9 : b2 < b9 := hb9.2 1000002 _ _ _ rfl
 refine TF 4 ?_
 refine RS (ok_litS [(0, nI n), (1, .slice (some ⟨b9, 0, none⟩) (hg n + 1) 6)] (shV n b9) ⟨rfl, rfl, rfl, rfl, trivial⟩ (buildSh _ _ _ _)) ?_
 refine RN ?_
 refine ⟨_, eff_storeA (n := 11) (s := 1000002) (size123.of (rfl)) rfl rfl (rfl) hBb2 rfl (rfl) (LV 2 rfl (LT 1000009 rfl LN)), ?_⟩
 refine TL ?_
 refine RN ?_
 refine A.ret ?_
 exact End.new1 rfl Tryd.underlying123 rfl (size123.of rfl) rfl (s := 1000002) rfl (kg := 1000009) rfl hBb9 rfl rfl
theorem hasLevel_y (n b l : Nat) (hl : l ≤ hg n) : Fn Tryd.prog 87 [.v (aggV (shV n b)), .v (nI (l))] (.v (.bool true)) := by
 refine Fn.of Tryd.func87 rfl (by kernel_rfl) Tryd.ntmps87 (by simp) (fun w => [(0, .v (aggV (shV n b))), (1, .v (nI (l)))]) (fun w => (Start.v rfl (Start.v rfl Start.nil))) fun w₀ => ?_
 refine GS ?_
 refine TN 0 ?_
 refine RN ?_
 refine ⟨_, _, eff_box (n := 10) (d := 2) (k := 1000002) rfl (by decide), fun b2 hb2 => ?_⟩
 have hBb2 := hb2.1
 refine TL ?_
 refine RA rfl ?_
 refine RN ?_
 refine GS ?_
 refine TL ?_
 refine RM rfl ?_
 refine RS (ok_field field123_1 (by decide) rfl) ?_
 refine RS (ok_loadV (s := 1000002) (by decide) Tryd.underlying121 rfl rfl rfl (rfl)) ?_
 refine RS (ok_lenV Tryd.underlying121 rfl) ?_
 refine RS (ok_call (within_y _ _ (by omega) (by omega)) (A2 rfl rfl)) ?_
 refine RA rfl ?_
 refine RN ?_
 refine A.ret ?_
 exact End.ret1 rfl rfl (by first | exact Le.refl _ | exact Le.old _ _)
theorem hasLevel_n (n b : Nat) (l : Int) (hl : ¬ (0 ≤ l ∧ l ≤ hg n)) : Fn Tryd.prog 87 [.v (aggV (shV n b)), .v (.int .i64 (l))] (.v (.bool false)) := by
 refine Fn.of Tryd.func87 rfl (by kernel_rfl) Tryd.ntmps87 (by simp) (fun w => [(0, .v (aggV (shV n b))), (1, .v (.int .i64 (l)))]) (fun w => (Start.v rfl (Start.v rfl Start.nil))) fun w₀ => ?_
 refine GS ?_
 refine TN 0 ?_
 refine RN ?_
 refine ⟨_, _, eff_box (n := 10) (d := 2) (k := 1000002) rfl (by decide), fun b2 hb2 => ?_⟩
 have hBb2 := hb2.1
 refine TL ?_
 refine RA rfl ?_
 refine RN ?_
 refine GS ?_
 refine TL ?_
 refine RM rfl ?_
 refine RS (ok_field field123_1 (by decide) rfl) ?_
 refine RS (ok_loadV (s := 1000002) (by decide) Tryd.underlying121 rfl rfl rfl (rfl)) ?_
 refine RS (ok_lenV Tryd.underlying121 rfl) ?_
 refine RS (ok_call (within_n _ _ (by omega)) (A2 rfl rfl)) ?_
 refine RA rfl ?_
 refine RN ?_
 refine A.ret ?_
 exact End.ret1 rfl rfl (by first | exact Le.refl _ | exact Le.old _ _)
theorem has_y (n b : Nat) (l j : Nat) (hl : l ≤ hg n) (hj : j < un n (l + 1))  : FnM Tryd.prog 71 (shM n b) [.v (aggV (shV n b)), .v (aggV (plV l j))] (.v (.bool true)) := by
 have hh := hg_le n
 refine FnM.of Tryd.func71 rfl (by kernel_rfl) Tryd.ntmps71 (by simp) (by decide) (fun w => [(0, .v (aggV (shV n b))), (1, .v (aggV (plV l j))), (1900000, blk b 75 (rowU n (hg n + 1)))]) (fun w => (StartM.v rfl (StartM.v rfl (StartM.m (by simp [shM]) (by decide) StartM.nil)))) fun w₀ hM => ?_
 skip
 refine GS ?_
 refine TN 0 ?_
 refine RN ?_
 refine ⟨_, _, eff_box (n := 20) (d := 2) (k := 1000002) rfl (by decide), fun b2 hb2 => ?_⟩
 have hBb2 := hb2.1
 refine TN 1 ?_
 refine RN ?_
 refine ⟨_, _, eff_box (n := 20) (d := 3) (k := 1000003) rfl (by decide), fun b3 hb3 => ?_⟩
 have hBb3 := hb3.1
 refine TL ?_
 refine RA rfl ?_
 refine RN ?_
 refine GD ?_
 refine TL ?_
 refine RS (ok_loadA (s := 1000002) (by decide) Tryd.underlying123 rfl (size123.of (rfl)) rfl rfl) ?_
 refine RS (ok_field field126_0 (by decide) rfl) ?_
 refine RS (ok_loadV (s := 1000003) (by decide) Tryd.underlying3 rfl rfl rfl (rfl)) ?_
 refine RS (ok_call (hasLevel_y n b l hl) (A2 rfl rfl)) ?_
 refine RM rfl ?_
 refine RQ (ok_field field126_1 (by decide) rfl) ?_
 refine RQ (ok_loadV (s := 1000003) (by decide) Tryd.underlying3 rfl rfl rfl (rfl)) ?_
 refine RQ (ok_field field123_1 (by decide) rfl) ?_
 refine RQ (ok_loadV (s := 1000002) (by decide) Tryd.underlying121 rfl rfl rfl (rfl)) ?_
 refine RQ (ok_field field126_0 (by decide) rfl) ?_
 refine RQ (ok_loadV (s := 1000003) (by decide) Tryd.underlying3 rfl rfl rfl (rfl)) ?_
 refine RQ (ok_indexV l Tryd.underlying121 info3 rfl rfl rfl (by omega)) ?_
 refine RQ (ok_loadV (s := 1900000) (by decide) Tryd.underlying3 rfl rfl rfl (by rw [Nat.zero_add]; exact rowU_get (by omega) (by omega))) ?_
 refine RQ (ok_call (within_y _ _ (by omega) (by omega)) (A2 rfl rfl)) ?_
 refine RP rfl rfl ?_
 refine RA rfl ?_
 refine RN ?_
 refine A.ret ?_
 exact End.ret1 rfl rfl (by first | exact Le.refl _ | exact Le.old _ _)
theorem has_n1 (n b l : Nat) (j : Int) (hl : l ≤ hg n) (hj : ¬ (0 ≤ j ∧ j < un n (l + 1))) : FnM Tryd.prog 71 (shM n b) [.v (aggV (shV n b)), .v (aggV [nI l, .int .i64 j])] (.v (.bool false)) := by
 have hh := hg_le n
 refine FnM.of Tryd.func71 rfl (by kernel_rfl) Tryd.ntmps71 (by simp) (by decide) (fun w => [(0, .v (aggV (shV n b))), (1, .v (aggV [nI l, .int .i64 j])), (1900000, blk b 75 (rowU n (hg n + 1)))]) (fun w => (StartM.v rfl (StartM.v rfl (StartM.m (by simp [shM]) (by decide) StartM.nil)))) fun w₀ hM => ?_
 skip
 refine GS ?_
 refine TN 0 ?_
 refine RN ?_
 refine ⟨_, _, eff_box (n := 20) (d := 2) (k := 1000002) rfl (by decide), fun b2 hb2 => ?_⟩
 have hBb2 := hb2.1
 refine TN 1 ?_
 refine RN ?_
 refine ⟨_, _, eff_box (n := 20) (d := 3) (k := 1000003) rfl (by decide), fun b3 hb3 => ?_⟩
 have hBb3 := hb3.1
 refine TL ?_
 refine RA rfl ?_
 refine RN ?_
 refine GD ?_
 refine TL ?_
 refine RS (ok_loadA (s := 1000002) (by decide) Tryd.underlying123 rfl (size123.of (rfl)) rfl rfl) ?_
 refine RS (ok_field field126_0 (by decide) rfl) ?_
 refine RS (ok_loadV (s := 1000003) (by decide) Tryd.underlying3 rfl rfl rfl (rfl)) ?_
 refine RS (ok_call (hasLevel_y n b l hl) (A2 rfl rfl)) ?_
 refine RM rfl ?_
 refine RQ (ok_field field126_1 (by decide) rfl) ?_
 refine RQ (ok_loadV (s := 1000003) (by decide) Tryd.underlying3 rfl rfl rfl (rfl)) ?_
 refine RQ (ok_field field123_1 (by decide) rfl) ?_
 refine RQ (ok_loadV (s := 1000002) (by decide) Tryd.underlying121 rfl rfl rfl (rfl)) ?_
 refine RQ (ok_field field126_0 (by decide) rfl) ?_
 refine RQ (ok_loadV (s := 1000003) (by decide) Tryd.underlying3 rfl rfl rfl (rfl)) ?_
 refine RQ (ok_indexV l Tryd.underlying121 info3 rfl rfl rfl (by omega)) ?_
 refine RQ (ok_loadV (s := 1900000) (by decide) Tryd.underlying3 rfl rfl rfl (by rw [Nat.zero_add]; exact rowU_get (by omega) (by omega))) ?_
 refine RQ (ok_call (within_n _ _ (by omega)) (A2 rfl rfl)) ?_
 refine RP rfl rfl ?_
 refine RA rfl ?_
 refine RN ?_
 refine A.ret ?_
 exact End.ret1 rfl rfl (by first | exact Le.refl _ | exact Le.old _ _)
theorem has_n2 (n b : Nat) (l j : Int) (hl : ¬ (0 ≤ l ∧ l ≤ hg n)) : Fn Tryd.prog 71 [.v (aggV (shV n b)), .v (aggV [.int .i64 l, .int .i64 j])] (.v (.bool false)) := by
 refine Fn.of Tryd.func71 rfl (by kernel_rfl) Tryd.ntmps71 (by simp) (fun w => [(0, .v (aggV (shV n b))), (1, .v (aggV [.int .i64 l, .int .i64 j]))]) (fun w => (Start.v rfl (Start.v rfl Start.nil))) fun w₀ => ?_
 refine GS ?_
 refine TN 0 ?_
 refine RN ?_
 refine ⟨_, _, eff_box (n := 20) (d := 2) (k := 1000002) rfl (by decide), fun b2 hb2 => ?_⟩
 have hBb2 := hb2.1
 refine TN 1 ?_
 refine RN ?_
 refine ⟨_, _, eff_box (n := 20) (d := 3) (k := 1000003) rfl (by decide), fun b3 hb3 => ?_⟩
 have hBb3 := hb3.1
 refine TL ?_
 refine RA rfl ?_
 refine RN ?_
 refine GD ?_
 refine TL ?_
 refine RS (ok_loadA (s := 1000002) (by decide) Tryd.underlying123 rfl (size123.of (rfl)) rfl rfl) ?_
 refine RS (ok_field field126_0 (by decide) rfl) ?_
 refine RS (ok_loadV (s := 1000003) (by decide) Tryd.underlying3 rfl rfl rfl (rfl)) ?_
 refine RS (ok_call (hasLevel_n n b l hl) (A2 rfl rfl)) ?_
 refine RM rfl ?_
 refine RK ?_
 refine RK ?_
 refine RK ?_
 refine RK ?_
 refine RK ?_
 refine RK ?_
 refine RK ?_
 refine RK ?_
 refine RK ?_
 refine RP rfl rfl ?_
 refine RA rfl ?_
 refine RN ?_
 refine A.ret ?_
 exact End.ret1 rfl rfl (by first | exact Le.refl _ | exact Le.old _ _)
theorem has_n (n b : Nat) (l j : Int) (h : ¬ IsP n l j) : FnM Tryd.prog 71 (shM n b) [.v (aggV (shV n b)), .v (aggV [.int .i64 l, .int .i64 j])] (.v (.bool false)) := by
 by_cases hl : 0 ≤ l ∧ l ≤ hg n
 ·obtain ⟨a, rfl⟩ : ∃ a : Nat, l = (a : Int) := ⟨l.toNat, by omega⟩
  refine has_n1 n b a j (by omega) fun hj => h ⟨a, j.toNat, rfl, by omega, by omega, by omega⟩
 ·exact (has_n2 n b l j hl).m
theorem parts_fn (n b : Nat) (h1 : 1 ≤ n) (h2 : n ≤ 4096) (l j : Nat) (hl : l ≤ hg n) (hj : j < un n (l + 1))  : FnM Tryd.prog 72 (shM n b) [.v (aggV (shV n b)), .v (aggV (plV l j))] (.v (nI (pts n l j))) := by
 have hu0 := un_le h1 (l)
 have hv0 := un_pos h1 (l)
 have hu1 := un_le h1 (l + 1)
 have hv1 := un_pos h1 (l + 1)
 have hh := hg_le n
 have hp := pts_pos hj
 refine FnM.of Tryd.func72 rfl (by kernel_rfl) Tryd.ntmps72 (by simp) (by decide) (fun w => [(0, .v (aggV (shV n b))), (1, .v (aggV (plV l j))), (1900000, blk b 75 (rowU n (hg n + 1)))]) (fun w => (StartM.v rfl (StartM.v rfl (StartM.m (by simp [shM]) (by decide) StartM.nil)))) fun w₀ hM => ?_
 skip
 refine GS ?_
 refine TN 0 ?_
 refine RN ?_
 refine ⟨_, _, eff_box (n := 24) (d := 2) (k := 1000002) rfl (by decide), fun b2 hb2 => ?_⟩
 have hBb2 := hb2.1
 refine TN 1 ?_
 refine RN ?_
 refine ⟨_, _, eff_box (n := 24) (d := 3) (k := 1000003) rfl (by decide), fun b3 hb3 => ?_⟩
 have hBb3 := hb3.1
 refine TL ?_
 refine RA rfl ?_
 refine RN ?_
 refine GS ?_
 refine TL ?_
 refine RS (ok_field field123_0 (by decide) rfl) ?_
 refine RS (ok_loadV (s := 1000002) (by decide) Tryd.underlying3 rfl rfl rfl (rfl)) ?_
 refine RA rfl ?_
 refine RN ?_
 refine A.seq ?_
 refine GS ?_
 refine TL ?_
 refine RS (ok_field field126_0 (by decide) rfl) ?_
 refine RS (ok_loadV (s := 1000003) (by decide) Tryd.underlying3 rfl rfl rfl (rfl)) ?_
 refine RB rfl rfl rfl ?_
 refine RN ?_
 refine A.cond rfl (fun hc10 => ?_) (fun hc10 => ?_)
 ·have hl0 : 0 < l := by simp at hc10; omega
  refine GE ?_
  refine TL ?_
  refine RS (ok_field field123_1 (by decide) rfl) ?_
  refine RS (ok_loadV (s := 1000002) (by decide) Tryd.underlying121 rfl rfl rfl (rfl)) ?_
  refine RS (ok_field field126_0 (by decide) rfl) ?_
  refine RS (ok_loadV (s := 1000003) (by decide) Tryd.underlying3 rfl rfl rfl (rfl)) ?_
  refine RBS rfl rfl rfl (nI (l - 1)) (wrap_eq (by omega) (by omega)) ?_
  refine RS (ok_indexV (l - 1) Tryd.underlying121 info3 rfl rfl rfl (by omega)) ?_
  refine RS (ok_loadV (s := 1900000) (by decide) Tryd.underlying3 rfl rfl rfl (by rw [Nat.zero_add]; exact rowU_get (by omega) (by omega))) ?_; refine RZ (nI (un n l)) (by rw [show l - 1 + 1 = l from by omega]) ?_
  refine RA rfl ?_
  refine RN ?_
  refine EN ?_
  refine GS ?_
  refine TL ?_
  refine RM rfl ?_; refine RZ (nI (un n l)) (by first | rfl | (rw [hl0]; rfl)) ?_
  refine RS (ok_field field126_1 (by decide) rfl) ?_
  refine RS (ok_loadV (s := 1000003) (by decide) Tryd.underlying3 rfl rfl rfl (rfl)) ?_
  refine RBS rfl rfl rfl (nI (j * 4)) (wrap_eq (by omega) (by omega)) ?_
  refine RBS rfl rfl rfl (nI (un n l - j * 4)) (wrap_eq (by omega) (by omega)) ?_
  refine RS (ok_min rfl rfl) ?_; refine RZ (nI (pts n l j)) (congrArg (Value.int .i64) (by unfold pts; omega)) ?_
  refine RA rfl ?_
  refine RN ?_
  refine A.ret ?_
  exact End.ret1 rfl rfl (by first | exact Le.refl _ | exact Le.old _ _)
 ·have hl0 : l = 0 := by simp at hc10; omega
  refine A.skip ?_
  refine EN ?_
  refine GS ?_
  refine TL ?_
  refine RM rfl ?_; refine RZ (nI (un n l)) (by first | rfl | (rw [hl0]; rfl)) ?_
  refine RS (ok_field field126_1 (by decide) rfl) ?_
  refine RS (ok_loadV (s := 1000003) (by decide) Tryd.underlying3 rfl rfl rfl (rfl)) ?_
  refine RBS rfl rfl rfl (nI (j * 4)) (wrap_eq (by omega) (by omega)) ?_
  refine RBS rfl rfl rfl (nI (un n l - j * 4)) (wrap_eq (by omega) (by omega)) ?_
  refine RS (ok_min rfl rfl) ?_; refine RZ (nI (pts n l j)) (congrArg (Value.int .i64) (by unfold pts; omega)) ?_
  refine RA rfl ?_
  refine RN ?_
  refine A.ret ?_
  exact End.ret1 rfl rfl (by first | exact Le.refl _ | exact Le.old _ _)
end Go.Proofs.YtlddnmblfgaimaaDoor
namespace Go.Proofs.YtlddnmblfgaimaaDoor
open Go Go.RowKit
variable {κ : Cx}
def subs : List Nat → List (List Nat)
  | [] => [[]]
  | x :: r => subs r ++ (subs r).map (x :: ·)
theorem filter_subs (f : Nat → Bool) : ∀ l : List Nat, l.filter f ∈ subs l
  | [] => by simp [subs]
  | x :: r => by
    have ih := filter_subs f r
    rw [List.filter_cons, subs, List.mem_append]
    split
    · exact .inr (List.mem_map.2 ⟨_, ih, rfl⟩)
    · exact .inl ih
def keeps (ops : Array Oper) (S : List Nat) (t : Nat) : Bool := !(S.any fun i => ((ops[i]?).bind (·.dst)) == some t)
/-- What is known without the operations S. -/
def without (ops : Array Oper) (S : List Nat) (E : Env) : Env := E.filter fun q => keeps ops S q.1
theorem without_look {ops : Array Oper} {S : List Nat} {t : Nat} {d : D} : ∀ {E : Env}, (without ops S E).look t = some d → E.look t = some d ∧ keeps ops S t = true
  | [], h => by simp [without, Env.look] at h
  | (s, e) :: E, h => by
    unfold without at h
    rw [List.filter_cons] at h
    by_cases hst : s = t
    · subst hst
      by_cases hk : keeps ops S s = true
      · rw [if_pos hk] at h
        rw [look_here] at h ⊢
        exact ⟨h, hk⟩
      · rw [if_neg hk] at h
        exact absurd (without_look (E := E) h).2 hk
    · rw [look_past _ _ hst]
      split at h
      · rw [look_past _ _ hst] at h; exact without_look (E := E) h
      · exact without_look (E := E) h
theorem look_without {ops : Array Oper} {S : List Nat} {t : Nat} {d : D} (hk : keeps ops S t = true) : ∀ {E : Env}, E.look t = some d → (without ops S E).look t = some d
  | [], h => by simp [Env.look] at h
  | (s, e) :: E, h => by
    unfold without
    rw [List.filter_cons]
    by_cases hst : s = t
    · subst hst
      rw [if_pos hk]
      rw [look_here] at h ⊢
      exact h
    · rw [look_past _ _ hst] at h
      split
      · rw [look_past _ _ hst]; exact look_without hk h
      · exact look_without hk h
/-- The operations before p have come up but for S. -/
def listedS (ops : Array Oper) (p : Nat) (S : List Nat) : Array Bool := ((List.range ops.size).map fun i => decide (i < p) && !S.contains i).toArray
theorem listedS_get {ops : Array Oper} {p i : Nat} {S : List Nat} (h : i < ops.size) : (listedS ops p S)[i]? = some (decide (i < p) && !S.contains i) := by simp [listedS, h]
def lateOk (ops : Array Oper) (p : Nat) (late : List Nat) : Bool :=
  let b := (befores ops).map List.eraseDups
  decide (p < ops.size) && late.all (· < p) && (List.range ops.size).all fun i => decide (i < p) || ((List.range p).all fun j => late.contains j || (b.getD i []).contains j) && (i == p || (b.getD i []).contains p)
theorem AnyT.mono {P : Program} {n B : Nat} {ops : Array Oper} {C : Env → Prop} : ∀ {m k : Nat} {listed : Array Bool} {E : Env}, m ≤ k → AnyT P n B ops C m listed E → AnyT P n B ops C k listed E
  | 0, k, _, _, _, ⟨hr, hC⟩ => AnyT.last hr hC
  | m + 1, 0, _, _, h, _ => absurd h (by omega)
  | m + 1, k + 1, _, _, h, .inl h' => .inl h'
  | m + 1, k + 1, _, _, h, .inr ⟨hne, h'⟩ => .inr ⟨hne, fun i hi => by
    obtain ⟨o, ho, ι, G, E₂, he, hn⟩ := h' i hi
    exact ⟨o, ho, ι, G, E₂, he, fun j hj => AnyT.mono (by omega) (hn j hj)⟩⟩
section
variable {P : Program} {n B : Nat} {ops : Array Oper} {Q : Exit → Act → World → Prop}
theorem wp_segL {p : Nat} {late : List Nat} {E E' : Env} {ds : List D} {a₀ : Act} {w₀ : World} (htied : tied ops = true) (hfits : fits n ops = true) (hlate : lateOk ops p late = true) (ht : Trace P B ops (ops.toList.take p) E ds E') (h₀ : St κ n B E a₀ w₀)
    (hnext : ∀ S ∈ subs late, ∀ fuel a' w', unlisted ops (listedS ops p S) ≤ fuel + 1 → Grow w₀ w' → St κ n B (without ops S E') a' w' → wpOpIn (FR κ.rd) 0 P ops Q p (wpAnyIn (FR κ.rd) 0 P .any ops Q fuel ((listedS ops p S).setIfInBounds p true)) a' w') :
    ∀ (fuel : Nat) (listed : Array Bool) (a : Act) (w : World), unlisted ops listed ≤ fuel → Inv κ n B ops 0 p E ds a₀ w₀ listed a w → wpAnyIn (FR κ.rd) 0 P .any ops Q fuel listed a w := by
  have hb := hlate
  simp only [lateOk, Bool.and_eq_true, decide_eq_true_eq, List.all_eq_true, List.mem_range, Bool.or_eq_true, beq_iff_eq] at hb
  obtain ⟨⟨hp, hlp⟩, hb⟩ := hb
  have hidx : ∀ (i : Nat) (o : Oper), i < p → ops[i]? = some o → (ops.toList.take p)[i]? = some o := fun i o h2 h3 => by
    rw [List.getElem?_take, if_pos h2]; simpa using h3
  have hidx' : ∀ (j : Nat) (o : Oper), (ops.toList.take p)[j]? = some o → ops[j]? = some o ∧ j < p := fun j o h => by
    rw [List.getElem?_take] at h
    split at h
    · exact ⟨by simpa using h, by assumption⟩
    · cases h
  have hends : ∀ (listed : Array Bool) (a : Act) (w : World), Inv κ n B ops 0 p E ds a₀ w₀ listed a w → Region.ready .any ops listed = [] → False := by
    intro listed a w I hr
    have hall : ∀ i, i < ops.size → listed.getD i false = true := by
      intro i
      induction i using Nat.strongRecOn with
      | _ i ih =>
        intro hi
        rcases hb : listed.getD i false with _ | _
        · exfalso
          have : i ∈ Region.ready .any ops listed := by
            rw [mem_ready]
            refine ⟨?_, ops[i], Array.getElem?_eq_getElem hi, fun e he hbd => ih e.on (tied_edge htied (Array.getElem?_eq_getElem hi) he hbd) (Nat.lt_trans (tied_edge htied (Array.getElem?_eq_getElem hi) he hbd) hi)⟩
            have : i < listed.size := by rw [I.lsize]; exact hi
            simp [this] at hb ⊢
            exact hb
          rw [hr] at this
          cases this
        · rfl
    have h1 := hall p hp
    rw [I.high p (Nat.le_refl _)] at h1
    cases h1
  intro fuel
  induction fuel with
  | zero =>
    intro listed a w hc I
    have hr : Region.ready .any ops listed = [] := by
      rcases hr : Region.ready .any ops listed with _ | ⟨i, l⟩
      · rfl
      · exfalso
        have hi : i ∈ Region.ready .any ops listed := by rw [hr]; exact List.mem_cons_self
        obtain ⟨hu, o, ho, _⟩ := mem_ready.1 hi
        have hpos : 0 < unlisted ops listed := List.countP_pos_iff.2 ⟨i, List.mem_range.2 (Array.getElem?_eq_some_iff.1 ho).1, by simp only [hu]; rfl⟩
        omega
    exact (hends listed a w I hr).elim
  | succ fuel ih =>
    intro listed a w hc I
    refine ⟨fun hr => (hends listed a w I hr).elim, fun i hi => ?_⟩
    obtain ⟨hu, o, ho, hall⟩ := mem_ready.1 hi
    have hlt : i < ops.size := (Array.getElem?_eq_some_iff.1 ho).1
    have huf : listed.getD i false = false := by
      have : i < listed.size := by rw [I.lsize]; exact hlt
      simp [this] at hu ⊢
      exact hu
    have hready : ∀ o', ops[i]? = some o' → ∀ e ∈ o'.after, Region.binds .any e = true → listed.getD e.on false = true := fun o' ho' e he hb => by
      rw [ho] at ho'; injection ho' with ho'; subst ho'; exact hall e he hb
    rcases Nat.lt_or_ge i p with hip | hip
    case inr =>
      have hmem : ∀ k l, l ∈ (Array.map List.eraseDups (befores ops)).getD k [] → l ∈ (befores ops).getD k [] := fun k l h => by
        rw [Array.getD_eq_getD_getElem?, Array.getElem?_map] at h
        rw [Array.getD_eq_getD_getElem?]
        cases hk : (befores ops)[k]? with
        | none => rw [hk] at h; simp at h
        | some v => rw [hk] at h; simpa using h
      obtain ⟨hb1, hb2⟩ := (hb i hlt).resolve_left (by omega)
      have hi : i = p := by
        rcases hb2 with h | h
        · exact h
        · have h2 := I.befores htied i p hready (hmem i p (by simpa using h))
          rw [I.high p (Nat.le_refl _)] at h2
          cases h2
      subst hi
      have hlow : ∀ k, k < i → k ∉ late → listed.getD k false = true := fun k hk hnl => by
        have h1 := (hb1 k hk).resolve_left (by simpa using hnl)
        exact I.befores htied i k hready (hmem i k (by simpa using h1))
      have hS := filter_subs (fun j => !listed.getD j false) late
      have hlist : listed = listedS ops i (late.filter fun j => !listed.getD j false) := by
        apply Array.ext_getElem?
        intro k
        rcases Nat.lt_or_ge k ops.size with hk | hk
        · rw [listedS_get hk]
          have hk' : k < listed.size := by rw [I.lsize]; exact hk
          have hg : listed[k]? = some (listed.getD k false) := by simp [hk']
          rw [hg]
          congr 1
          rcases Nat.lt_or_ge k i with h | h
          · by_cases hkl : k ∈ late
            · cases hv : listed.getD k false with
              | true => rw [Array.getD_eq_getD_getElem?] at hv; simp [h, hkl, hv]
              | false => rw [Array.getD_eq_getD_getElem?] at hv; simp [h, hkl, hv]
            · rw [hlow k h hkl]; simp [h, hkl]
          · rw [I.high k h]; simp; omega
        · rw [Array.getElem?_eq_none (by rw [I.lsize]; exact hk), Array.getElem?_eq_none (by simp [listedS]; exact hk)]
      have hst : St κ n B (without ops (late.filter fun j => !listed.getD j false) E') a w := by
        refine ⟨I.base, I.defers, I.size, fun t e he => ?_⟩
        obtain ⟨he, hkeep⟩ := without_look he
        rcases ht.last t e he with ⟨j, o', hj, hd, hds⟩ | ⟨hno, hl⟩
        · obtain ⟨hj', hjp⟩ := hidx' j o' hj
          refine I.facts j o' t e (Nat.zero_le _) hj' ?_ hd (by rw [Nat.sub_zero]; exact hds)
          by_cases hjl : j ∈ late
          · cases hv : listed.getD j false with
            | true => rfl
            | false =>
              exfalso
              simp only [keeps, Bool.not_eq_true', List.any_eq_false, beq_iff_eq] at hkeep
              exact hkeep j (List.mem_filter.2 ⟨hjl, by simp [hv]⟩) (by rw [hj']; exact hd)
          · exact hlow j hjp hjl
        · rw [I.frame t fun j o' _ hj hl' => ?_]
          · exact (h₀.of t e hl).grow I.grow
          · rcases Nat.lt_or_ge j i with hjp | hjp
            · exact hno j o' (hidx j o' hjp hj)
            · rw [I.high j hjp] at hl'; cases hl'
      have := hnext _ hS fuel a w (by rw [← hlist]; exact hc) I.grow hst
      rw [← hlist] at this
      exact this
    obtain ⟨t, d, Ei, hdst, hds, hgood, henv⟩ := ht.nth (i := i) (o := o) (hidx i o hip ho)
    have hf := fits_mem hfits (o := o) (by simpa using Array.mem_of_getElem? ho)
    refine wpOpR_step ho fun K hK => good_wp I.base (fun t e hvt he => ?_) hdst hgood (fun r e hs he => ?_) (fun r hs => by rw [I.size]; exact hf.1 r hs) fun x w' g hx => hK _ _ (ih _ _ _ ?_ ?_)
    · have hnb := fits_base hfits
      rcases henv t e he with ⟨j, q, hji, hj, hpd, hpds⟩ | ⟨hno, hl⟩
      · obtain ⟨hj', _⟩ := hidx' j q hj
        have h9 : t < n := (fits_mem hfits (o := q) (by simpa using Array.mem_of_getElem? hj')).2 t hpd
        exact absurd (Nat.lt_of_lt_of_le h9 hnb) (Nat.not_lt.2 hvt)
      · have h1 := (h₀.virt hnb) t e hvt hl
        exact h1.grow I.grow
    · rcases henv r e he with ⟨j, q, hji, hj, hpd, hpds⟩ | ⟨hno, hl⟩
      · obtain ⟨hj', hjp⟩ := hidx' j q hj
        obtain ⟨ed, he1, hb, hon⟩ := ((tied_pair htied ho hj' hpd (by omega)).2 hs).1 (by omega)
        refine I.facts j q r e (Nat.zero_le _) hj' ?_ hpd (by rw [Nat.sub_zero]; exact hpds)
        rw [← hon]
        exact hall ed he1 hb
      · rw [I.frame r]
        · exact (h₀.of r e hl).grow I.grow
        · intro j q hsj hj hlist hpd
          by_cases hji : j = i
          · subst hji; rw [huf] at hlist; cases hlist
          · rcases Nat.lt_or_ge j i with h | h
            · exact hno j q h (hidx j q (by omega) hj) hpd
            · obtain ⟨ed, he1, hb, hon⟩ := ((tied_pair htied ho hj hpd hji).2 hs).2 (by omega)
              have := I.closed j q hj hlist ed he1 hb
              rw [hon, huf] at this
              cases this
    · have : unlisted ops (listed.setIfInBounds i true) < unlisted ops listed := by
        refine countP_lt (x := i) (fun y hy => ?_) (List.mem_range.2 hlt) (by simp only [hu]; rfl) ?_
        · by_cases hyi : i = y
          · subst hyi
            have : i < listed.size := by rw [I.lsize]; exact hlt
            simp [this] at hy
          · rw [getD_set_ne true hyi] at hy; exact hy
        · have : i < listed.size := by rw [I.lsize]; exact hlt
          simp [this]
      omega
    · have hset : ∀ j, (listed.setIfInBounds i true).getD j false = true → j = i ∨ listed.getD j false = true := fun j hj => by
        by_cases hji : i = j
        · exact .inl hji.symm
        · rw [getD_set_ne false hji] at hj; exact .inr hj
      refine ⟨I.grow.trans g, Nat.le_trans I.base g.size, by simp [I.lsize], fun j hj hj' => by omega, fun j hj => ?_, I.defers, by simp [Act.put, I.size], ?_, ?_, ?_⟩
      · rw [getD_set_ne false (by omega)]; exact I.high j hj
      · intro j q hj hl e he hb
        rcases hset j hl with rfl | hl
        · rw [ho] at hj; injection hj with hj; subst hj
          exact getD_set_true (hall e he hb)
        · exact getD_set_true (I.closed j q hj hl e he hb)
      · intro j q r e hsj hj hl hpd hpds
        by_cases hji : j = i
        · subst hji
          rw [ho] at hj; injection hj with hj; subst hj
          rw [hdst] at hpd; injection hpd with hpd; subst hpd
          rw [Nat.sub_zero, hds] at hpds; injection hpds with hpds; subst hpds
          rw [getD_put_here _ _ (by rw [I.size]; exact hf.2 _ hdst)]
          exact hx
        · have hl' := (hset j hl).resolve_left hji
          have hne : t ≠ r := fun h => (tied_pair htied ho hj hpd hji).1 (by rw [hdst, h])
          rw [getD_put_past _ _ hne]
          exact (I.facts j q r e hsj hj hl' hpd hpds).grow g
      · intro r hs
        have hne : t ≠ r := fun h => hs i o (Nat.zero_le _) ho (by have : i < listed.size := by rw [I.lsize]; exact hlt
                                                                   simp [this]) (by rw [hdst, h])
        rw [getD_put_past _ _ hne]
        refine I.frame r fun j q hsj hj hl => hs j q hsj hj (getD_set_true hl)
/-- What is to be shown behind the operations before p, where S have not come up. -/
def LateT (P : Program) (n B : Nat) (ops : Array Oper) (C : Env → Prop) (p m : Nat) (S : List Nat) (E : Env) : Prop :=
  m + 1 ≤ unlisted ops (listedS ops p S) ∧ ∃ E₀, Sub E₀ E ∧ ((E₀.map (·.1)).all (keeps ops S)) = true ∧ ∃ o, ops[p]? = some o ∧ ∃ E₂, Eff P n B ops o E₀ E₂ ∧ AnyT P n B ops C m ((listedS ops p S).setIfInBounds p true) E₂
end
end Go.Proofs.YtlddnmblfgaimaaDoor
namespace Go.Proofs.YtlddnmblfgaimaaDoor
open Go Go.RowKit
set_option linter.unusedVariables false
set_option linter.unusedSimpArgs false
variable {κ : Cx}
/-! ### Rows of parts of one size -/
section
variable {α β : Type} {v : α → List β} {k : Nat}
theorem flat_length {L : List α} (h : ∀ a ∈ L, (v a).length = k) : (L.flatMap v).length = L.length * k := by
  induction L with
  | nil => simp
  | cons a L ih =>
    rw [List.flatMap_cons, List.length_append, ih (fun x hx => h x (List.mem_cons_of_mem _ hx)), h a List.mem_cons_self, List.length_cons, Nat.succ_mul, Nat.add_comm]
theorem flat_drop {L : List α} (h : ∀ a ∈ L, (v a).length = k) (i : Nat) : (L.flatMap v).drop (i * k) = (L.drop i).flatMap v := by
  induction i generalizing L with
  | zero => simp
  | succ i ih =>
    cases L with
    | nil => simp
    | cons a L =>
      rw [List.flatMap_cons, List.drop_succ_cons, ← ih (fun x hx => h x (List.mem_cons_of_mem _ hx)), List.drop_append, h a List.mem_cons_self, Nat.succ_mul, List.drop_eq_nil_of_le (by rw [h a List.mem_cons_self]; omega), List.nil_append]
      congr 1; omega
theorem flatM_at {L : List α} (h : ∀ a ∈ L, (v a).length = k) {i : Nat} (hi : i < L.length) : ((L.flatMap v).drop (i * k)).take k = v L[i] := by
  rw [flat_drop h, List.drop_eq_getElem_cons hi, List.flatMap_cons]
  exact List.take_left' (h _ (List.getElem_mem hi))
theorem flat_getD {L : List α} (h : ∀ a ∈ L, (v a).length = k) {i : Nat} (hi : i < L.length) (z : α) : ((L.flatMap v).drop (i * k)).take k = v (L.getD i z) := by
  rw [flatM_at h hi]; simp [hi]
theorem flat_set {L : List α} (h : ∀ a ∈ L, (v a).length = k) {i : Nat} (hi : i < L.length) {a : α} (ha : (v a).length = k) : (L.flatMap v).take (i * k) ++ v a ++ (L.flatMap v).drop (i * k + k) = (L.set i a).flatMap v := by
  induction i generalizing L with
  | zero =>
    cases L with
    | nil => cases hi
    | cons b L =>
      simp only [Nat.zero_mul, List.take_zero, List.nil_append, Nat.zero_add, List.set_cons_zero, List.flatMap_cons]
      rw [List.drop_left' (h b List.mem_cons_self)]
  | succ i ih =>
    cases L with
    | nil => cases hi
    | cons b L =>
      have hb := h b List.mem_cons_self
      rw [List.set_cons_succ, List.flatMap_cons, List.flatMap_cons, ← ih (fun x hx => h x (List.mem_cons_of_mem _ hx)) (by simpa using hi), Nat.succ_mul, List.take_append, List.drop_append, List.take_of_length_le (by omega), List.drop_eq_nil_of_le (by omega), hb,
        show i * k + k - k = i * k from by omega, show i * k + k + k - k = i * k + k from by omega]
      simp only [List.append_assoc, List.nil_append]
theorem rmid_at {pre suf : List β} {L : List α} (h : ∀ a ∈ L, (v a).length = k) {i o : Nat} (ho : pre.length = o) (hi : i < L.length) (z : α) : ((pre ++ (L.flatMap v ++ suf)).drop (o + i * k)).take k = v (L.getD i z) := by
  have hl := flat_length h
  have hle : i * k + k ≤ L.length * k := by rw [← Nat.succ_mul]; exact Nat.mul_le_mul_right _ hi
  rw [← List.drop_drop, List.drop_left' ho, List.drop_append, Nat.sub_eq_zero_of_le (by omega), List.drop_zero, List.take_append_of_le_length (by rw [List.length_drop]; omega), flat_getD h hi z]
theorem rmid_set {pre suf : List β} {L : List α} (h : ∀ a ∈ L, (v a).length = k) {i o : Nat} (ho : pre.length = o) (hi : i < L.length) {a : α} (ha : (v a).length = k) :
    (pre ++ (L.flatMap v ++ suf)).take (o + i * k) ++ v a ++ (pre ++ (L.flatMap v ++ suf)).drop (o + i * k + (v a).length) = pre ++ ((L.set i a).flatMap v ++ suf) := by
  have hl := flat_length h
  have hle : i * k + k ≤ L.length * k := by rw [← Nat.succ_mul]; exact Nat.mul_le_mul_right _ hi
  rw [← flat_set h hi ha, ha, Nat.add_assoc, ← List.drop_drop, List.drop_left' ho, ← ho, List.take_length_add_append, List.take_append_of_le_length (by omega), List.drop_append, Nat.sub_eq_zero_of_le (n := i * k + k) (m := (L.flatMap v).length) (by omega), List.drop_zero]
  simp only [List.append_assoc]
/-- Some of four parts are told already. -/
def pg (z : α) (f : Nat → α) (i : Nat) : List α := (List.range 4).map fun k => if k < i then f k else z
theorem pg_length (z : α) (f : Nat → α) (i : Nat) : (pg z f i).length = 4 := by simp [pg]
theorem pg_getD (z : α) (f : Nat → α) (i : Nat) {j : Nat} (hj : j < 4) (d : α) : (pg z f i).getD j d = if j < i then f j else z := by
  simp [pg, hj]
theorem pg_zero (z : α) (f : Nat → α) : pg z f 0 = List.replicate 4 z := by simp [pg, List.range, List.range.loop, List.replicate]
theorem pg_set (z : α) (f : Nat → α) {i : Nat} (hi : i < 4) : (pg z f i).set i (f i) = pg z f (i + 1) := by
  apply List.ext_getElem
  · simp [pg]
  intro j h1 h2
  rw [pg_length] at h2
  simp only [pg, List.getElem_set, List.getElem_map, List.getElem_range]
  by_cases hij : i = j
  · subst hij; rw [if_pos rfl, if_pos (by omega)]
  · rw [if_neg hij]
    by_cases hj : j < i
    · rw [if_pos hj, if_pos (by omega)]
    · rw [if_neg hj, if_neg (by omega)]
theorem pg_mem {z : α} {f : Nat → α} {i : Nat} {a : α} (h : a ∈ pg z f i) : a = z ∨ ∃ k, k < 4 ∧ k < i ∧ a = f k := by
  simp only [pg, List.mem_map, List.mem_range] at h
  obtain ⟨k, hk, rfl⟩ := h
  by_cases h : k < i
  · rw [if_pos h]; exact .inr ⟨k, hk, h, rfl⟩
  · rw [if_neg h]; exact .inl rfl
theorem getD_mem4 {L : List α} (h : L.length = 4) {i : Nat} (hi : i < 4) (z : α) : L.getD i z ∈ L := by
  rw [List.getD_eq_getElem?_getD, List.getElem?_eq_getElem (by omega)]
  exact List.getElem_mem _
theorem ext4 {L L' : List α} (h : L.length = 4) (h' : L'.length = 4) (z : α) (he : ∀ i, i < 4 → L.getD i z = L'.getD i z) : L = L' := by
  apply List.ext_getElem (by omega)
  intro i h1 h2
  have := he i (by omega)
  simpa [h1, h2] using this
end
/-- The first error of four. -/
def fst4 (f : Nat → Int) : Int := if f 0 ≠ 0 then f 0 else if f 1 ≠ 0 then f 1 else if f 2 ≠ 0 then f 2 else f 3
theorem fst4_at {f : Nat → Int} {i : Nat} (hi : i < 4) (h : ∀ k, k < i → f k = 0) (h0 : f i ≠ 0) : f i = fst4 f := by
  unfold fst4
  match i, hi with
  | 0, _ => rw [if_pos h0]
  | 1, _ => rw [if_neg (by simp [h 0 (by decide)]), if_pos h0]
  | 2, _ => rw [if_neg (by simp [h 0 (by decide)]), if_neg (by simp [h 1 (by decide)]), if_pos h0]
  | 3, _ => rw [if_neg (by simp [h 0 (by decide)]), if_neg (by simp [h 1 (by decide)]), if_neg (by simp [h 2 (by decide)])]
theorem fst4_no {f : Nat → Int} (h : ∀ k, k < 4 → f k = 0) : fst4 f = 0 := by
  unfold fst4
  rw [if_neg (by simp [h 0 (by decide)]), if_neg (by simp [h 1 (by decide)]), if_neg (by simp [h 2 (by decide)]), h 3 (by decide)]
theorem fst4_zero {f : Nat → Int} (h : fst4 f = 0) : ∀ k, k < 4 → f k = 0 := by
  unfold fst4 at h
  by_cases h0 : f 0 = 0
  · rw [if_neg (by simp [h0])] at h
    by_cases h1 : f 1 = 0
    · rw [if_neg (by simp [h1])] at h
      by_cases h2 : f 2 = 0
      · rw [if_neg (by simp [h2])] at h
        intro k hk
        match k, hk with
        | 0, _ => exact h0
        | 1, _ => exact h1
        | 2, _ => exact h2
        | 3, _ => exact h
      · rw [if_pos h2] at h; exact absurd h h2
    · rw [if_pos h1] at h; exact absurd h h1
  · rw [if_pos h0] at h; exact absurd h h0
theorem fst4_one {f : Nat → Int} (h : ∀ k, f k = 0 ∨ f k = 1) : fst4 f = 0 ∨ fst4 f = 1 := by
  unfold fst4
  split
  · exact h 0
  · split
    · exact h 1
    · split
      · exact h 2
      · exact h 3
def cnt (p : Nat → Bool) : Nat → Nat
  | 0 => 0
  | i + 1 => cnt p i + if p i then 1 else 0
theorem cnt_le (p : Nat → Bool) : ∀ i, cnt p i ≤ i
  | 0 => Nat.le_refl _
  | i + 1 => by have := cnt_le p i; unfold cnt; split <;> omega
theorem cnt_y {p : Nat → Bool} {i : Nat} (h : p i = true) : cnt p (i + 1) = cnt p i + 1 := by rw [cnt, if_pos h]
theorem cnt_n {p : Nat → Bool} {i : Nat} (h : p i = false) : cnt p (i + 1) = cnt p i := by rw [cnt, if_neg (by simp [h]), Nat.add_zero]
/-! ### Records and entries as parts -/
structure RecT where
  x : UInt8
  s : Nat
  c : Nat
  t : List UInt8
structure EntT where
  x : UInt8
  t : List UInt8
namespace RecT
def zero : RecT := ⟨0, 0, 0, zD⟩
def v (r : RecT) : List Value := recV r.x r.s r.c r.t
def l (r : RecT) : List UInt8 := recL r.x r.s r.c r.t
structure Fit (r : RecT) : Prop where
  t : r.t.length = 32
  s : r.s < 4294967296
  c : r.c < 18446744073709551616
def Bad (r : RecT) : Prop := BadR r.x r.s r.c r.t
def Z (r : RecT) : Prop := r.x.toNat = 0 ∧ r.s = 0 ∧ r.c = 0 ∧ r.t = zD
def ck (r : RecT) : Int := ckR r.x r.s r.c r.t
theorem zero_fit : zero.Fit := ⟨rfl, by decide, by decide⟩
theorem Fit.len {r : RecT} (h : r.Fit) : r.v.length = 35 := rec_len _ _ _ h.t
theorem Fit.kin {r : RecT} (h : r.Fit) : Kin (fun _ _ => True) (.u8 :: .u32 :: .u64 :: List.replicate 32 .u8) r.v := kinRec _ _ _ h.t
theorem Fit.lenL {r : RecT} (h : r.Fit) : r.l.length = 45 := recL_len _ _ _ h.t
theorem one (r : RecT) : r.v.all (·.oneCell') = true := rec_one _ _ _ _
theorem v_inj {r q : RecT} (h : r.v = q.v) : r = q := by
  obtain ⟨x, s, c, t⟩ := r
  obtain ⟨x', s', c', t'⟩ := q
  simp only [v, recV] at h
  injection h with h1 h
  injection h with h2 h
  injection h with h3 h
  injection h2 with _ h2
  injection h3 with _ h3
  rw [byteV_inj h1, Int.ofNat.inj h2, Int.ofNat.inj h3, bytes_inj h]
theorem z_iff {r : RecT} : r.Z ↔ r = zero := ⟨fun ⟨h1, h2, h3, h4⟩ => by
    obtain ⟨x, s, c, t⟩ := r
    simp only at h1 h2 h3 h4
    rw [h2, h3, h4, show x = 0 from UInt8.toNat_inj.1 h1]; rfl, fun h => by rw [h]; exact ⟨rfl, rfl, rfl, rfl⟩⟩
theorem z_v {r : RecT} : r.Z ↔ r.v = zero.v := z_iff.trans ⟨fun h => by rw [h], v_inj⟩
theorem zero_ok : ¬ zero.Bad := by unfold Bad BadR zero; rintro (h | ⟨_, h⟩); exact absurd h (by decide); exact h ⟨rfl, rfl, rfl⟩
theorem ck_one (r : RecT) : r.ck = 0 ∨ r.ck = 1 := by unfold ck ckR; split <;> simp
theorem ck_zero {r : RecT} : r.ck = 0 ↔ ¬ r.Bad := by unfold ck ckR Bad; split <;> simp_all
theorem ck_bad {r : RecT} (h : r.ck ≠ 0) : r.Bad := Classical.byContradiction fun hb => h (ck_zero.2 hb)
instance : DecidablePred Z := fun r => by unfold Z; infer_instance
end RecT
namespace EntT
def zero : EntT := ⟨0, zD⟩
def v (r : EntT) : List Value := entV r.x r.t
def l (r : EntT) : List UInt8 := entL r.x r.t
structure Fit (r : EntT) : Prop where
  t : r.t.length = 32
def Bad (r : EntT) : Prop := BadE r.x r.t
def Z (r : EntT) : Prop := r.x.toNat = 0 ∧ r.t = zD
def ck (r : EntT) : Int := ckE r.x r.t
theorem zero_fit : zero.Fit := ⟨rfl⟩
theorem Fit.len {r : EntT} (h : r.Fit) : r.v.length = 33 := ent_len _ h.t
theorem Fit.kin {r : EntT} (h : r.Fit) : Kin (fun _ _ => True) (.u8 :: List.replicate 32 .u8) r.v := kinEnt _ h.t
theorem Fit.lenL {r : EntT} (h : r.Fit) : r.l.length = 33 := entL_len _ h.t
theorem one (r : EntT) : r.v.all (·.oneCell') = true := ent_one _ _
theorem v_inj {r q : EntT} (h : r.v = q.v) : r = q := by
  obtain ⟨x, t⟩ := r
  obtain ⟨x', t'⟩ := q
  simp only [v, entV] at h
  injection h with h1 h
  rw [byteV_inj h1, bytes_inj h]
theorem z_iff {r : EntT} : r.Z ↔ r = zero := ⟨fun ⟨h1, h4⟩ => by
    obtain ⟨x, t⟩ := r
    simp only at h1 h4
    rw [h4, show x = 0 from UInt8.toNat_inj.1 h1]; rfl, fun h => by rw [h]; exact ⟨rfl, rfl⟩⟩
theorem z_v {r : EntT} : r.Z ↔ r.v = zero.v := z_iff.trans ⟨fun h => by rw [h], v_inj⟩
theorem zero_ok : ¬ zero.Bad := by unfold Bad BadE zero; rintro (h | ⟨_, h⟩); exact absurd h (by decide); exact h rfl
theorem ck_one (r : EntT) : r.ck = 0 ∨ r.ck = 1 := by unfold ck ckE; split <;> simp
theorem ck_zero {r : EntT} : r.ck = 0 ↔ ¬ r.Bad := by unfold ck ckE Bad; split <;> simp_all
theorem ck_bad {r : EntT} (h : r.ck ≠ 0) : r.Bad := Classical.byContradiction fun hb => h (ck_zero.2 hb)
instance : DecidablePred Z := fun r => by unfold Z; infer_instance
end EntT
abbrev recsV (R : List RecT) : List Value := R.flatMap RecT.v
abbrev entsV (R : List EntT) : List Value := R.flatMap EntT.v
theorem RecT.lens {R : List RecT} (h : ∀ r ∈ R, r.Fit) : ∀ r ∈ R, r.v.length = 35 := fun r hr => (h r hr).len
theorem EntT.lens {R : List EntT} (h : ∀ r ∈ R, r.Fit) : ∀ r ∈ R, r.v.length = 33 := fun r hr => (h r hr).len
theorem RecT.lensL {R : List RecT} (h : ∀ r ∈ R, r.Fit) : ∀ r ∈ R, r.l.length = 45 := fun r hr => (h r hr).lenL
theorem EntT.lensL {R : List EntT} (h : ∀ r ∈ R, r.Fit) : ∀ r ∈ R, r.l.length = 33 := fun r hr => (h r hr).lenL
theorem RecT.all1 (R : List RecT) : (recsV R).all (·.oneCell') = true := by
  rw [List.all_flatMap]; simp only [List.all_eq_true]; exact fun r _ => List.all_eq_true.1 r.one
theorem EntT.all1 (R : List EntT) : (entsV R).all (·.oneCell') = true := by
  rw [List.all_flatMap]; simp only [List.all_eq_true]; exact fun r _ => List.all_eq_true.1 r.one
theorem RecT.kins {R : List RecT} (h : ∀ r ∈ R, r.Fit) : Kin (fun _ _ => True) (List.replicate R.length (.u8 :: .u32 :: .u64 :: List.replicate 32 .u8)).flatten (recsV R) := by
  induction R with
  | nil => exact kin_nil
  | cons r R ih => rw [List.length_cons, List.replicate_succ, List.flatten_cons, recsV, List.flatMap_cons]; exact Kin.join (h r List.mem_cons_self).kin (ih fun q hq => h q (List.mem_cons_of_mem _ hq))
theorem EntT.kins {R : List EntT} (h : ∀ r ∈ R, r.Fit) : Kin (fun _ _ => True) (List.replicate R.length (.u8 :: List.replicate 32 .u8)).flatten (entsV R) := by
  induction R with
  | nil => exact kin_nil
  | cons r R ih => rw [List.length_cons, List.replicate_succ, List.flatten_cons, entsV, List.flatMap_cons]; exact Kin.join (h r List.mem_cons_self).kin (ih fun q hq => h q (List.mem_cons_of_mem _ hq))
theorem flatMap_inj {α β : Type} {v : α → List β} {k : Nat} (hv : ∀ a b, v a = v b → a = b) : ∀ {L L' : List α}, (∀ a ∈ L, (v a).length = k) → (∀ a ∈ L', (v a).length = k) → L.length = L'.length → L.flatMap v = L'.flatMap v → L = L'
  | [], [], _, _, _, _ => rfl
  | a :: L, b :: L', h, h', hl, he => by
    rw [List.flatMap_cons, List.flatMap_cons] at he
    obtain ⟨h1, h2⟩ := List.append_inj he (by rw [h a List.mem_cons_self, h' b List.mem_cons_self])
    rw [hv a b h1, flatMap_inj hv (fun x hx => h x (List.mem_cons_of_mem _ hx)) (fun x hx => h' x (List.mem_cons_of_mem _ hx)) (by simpa using hl) h2]
/-! ### Nodes -/
structure NodT where
  l : UInt8
  j : Nat
  R : List RecT
  E : List EntT
def zerosR : List RecT := List.replicate 4 RecT.zero
def zerosE : List EntT := List.replicate 4 EntT.zero
def nodV (l : UInt8) (j : Nat) (R : List RecT) (E : List EntT) : List Value := [byteV l, .int .u32 ((j : Nat) : Int)] ++ (recsV R ++ entsV E)
theorem nodV_E (l : UInt8) (j : Nat) (R : List RecT) (E : List EntT) : nodV l j R E = ([byteV l, .int .u32 ((j : Nat) : Int)] ++ recsV R) ++ (entsV E ++ []) := by rw [nodV, List.append_nil, List.append_assoc]
namespace NodT
def v (x : NodT) : List Value := nodV x.l x.j x.R x.E
def r (x : NodT) (i : Nat) : RecT := x.R.getD i RecT.zero
def e (x : NodT) (i : Nat) : EntT := x.E.getD i EntT.zero
structure Fit (x : NodT) : Prop where
  j : x.j < 4294967296
  lr : x.R.length = 4
  le : x.E.length = 4
  fr : ∀ r ∈ x.R, r.Fit
  fe : ∀ r ∈ x.E, r.Fit
def emp (l : UInt8) (j : Nat) : NodT := ⟨l, j, zerosR, zerosE⟩
theorem zr_fit : ∀ r ∈ zerosR, r.Fit := fun r h => by rw [List.eq_of_mem_replicate h]; exact RecT.zero_fit
theorem ze_fit : ∀ r ∈ zerosE, r.Fit := fun r h => by rw [List.eq_of_mem_replicate h]; exact EntT.zero_fit
theorem emp_fit (l : UInt8) {j : Nat} (h : j < 4294967296) : (emp l j).Fit := ⟨h, rfl, rfl, zr_fit, ze_fit⟩
section
variable {x : NodT}
theorem Fit.r (h : x.Fit) (i : Nat) : (x.r i).Fit := by
  unfold NodT.r
  by_cases hi : i < 4
  · exact h.fr _ (getD_mem4 h.lr hi _)
  · rw [List.getD_eq_getElem?_getD, List.getElem?_eq_none (by have := h.lr; omega)]; exact RecT.zero_fit
theorem Fit.e (h : x.Fit) (i : Nat) : (x.e i).Fit := by
  unfold NodT.e
  by_cases hi : i < 4
  · exact h.fe _ (getD_mem4 h.le hi _)
  · rw [List.getD_eq_getElem?_getD, List.getElem?_eq_none (by have := h.le; omega)]; exact EntT.zero_fit
theorem Fit.lenR (h : x.Fit) : (recsV x.R).length = 140 := by rw [recsV, flat_length (RecT.lens h.fr), h.lr]
theorem Fit.lenE (h : x.Fit) : (entsV x.E).length = 132 := by rw [entsV, flat_length (EntT.lens h.fe), h.le]
theorem Fit.len (h : x.Fit) : x.v.length = 274 := by unfold NodT.v nodV; rw [List.length_append, List.length_append, h.lenR, h.lenE]; rfl
theorem one (x : NodT) : x.v.all (·.oneCell') = true := by
  unfold NodT.v nodV
  rw [List.all_append, List.all_append, RecT.all1, EntT.all1]; rfl
theorem Fit.getR (h : x.Fit) : (x.v.drop 2).take 140 = recsV x.R := by
  show List.take 140 (recsV x.R ++ entsV x.E) = recsV x.R
  exact List.take_left' h.lenR
theorem Fit.getE (h : x.Fit) : (x.v.drop 142).take 132 = entsV x.E := by
  show List.take 132 (List.drop 140 (recsV x.R ++ entsV x.E)) = entsV x.E
  rw [List.drop_left' h.lenR, List.take_of_length_le (Nat.le_of_eq h.lenE)]
theorem Fit.rec_at (h : x.Fit) {i : Nat} (hi : i < 4) : (x.v.drop (2 + i * 35)).take 35 = (x.r i).v := rmid_at (pre := [byteV x.l, .int .u32 ((x.j : Nat) : Int)]) (suf := entsV x.E) (RecT.lens h.fr) rfl (by rw [h.lr]; exact hi) _
theorem Fit.ent_at (h : x.Fit) {i : Nat} (hi : i < 4) : (x.v.drop (142 + i * 33)).take 33 = (x.e i).v := by
  unfold NodT.v
  rw [nodV_E]
  exact rmid_at (EntT.lens h.fe) (by rw [List.length_append, h.lenR]; rfl) (by rw [h.le]; exact hi) _
theorem Fit.set_rec (h : x.Fit) {i : Nat} (hi : i < 4) {r : RecT} (hr : r.Fit) : x.v.take (2 + i * 35) ++ r.v ++ x.v.drop (2 + i * 35 + r.v.length) = NodT.v { x with R := x.R.set i r } := rmid_set (pre := [byteV x.l, .int .u32 ((x.j : Nat) : Int)]) (suf := entsV x.E) (RecT.lens h.fr) rfl (by rw [h.lr]; exact hi) hr.len
theorem Fit.set_ent (h : x.Fit) {i : Nat} (hi : i < 4) {r : EntT} (hr : r.Fit) : x.v.take (142 + i * 33) ++ r.v ++ x.v.drop (142 + i * 33 + r.v.length) = NodT.v { x with E := x.E.set i r } := by
  unfold NodT.v
  rw [nodV_E, nodV_E]
  exact rmid_set (EntT.lens h.fe) (by rw [List.length_append, h.lenR]; rfl) (by rw [h.le]; exact hi) hr.len
theorem Fit.setR (h : x.Fit) (i : Nat) {r : RecT} (hr : r.Fit) : NodT.Fit { x with R := x.R.set i r } := ⟨h.j, by simpa using h.lr, h.le, fun q hq => (List.mem_or_eq_of_mem_set hq).elim (h.fr q) fun e => e ▸ hr, h.fe⟩
theorem Fit.setE (h : x.Fit) (i : Nat) {r : EntT} (hr : r.Fit) : NodT.Fit { x with E := x.E.set i r } := ⟨h.j, h.lr, by simpa using h.le, h.fr, fun q hq => (List.mem_or_eq_of_mem_set hq).elim (h.fe q) fun e => e ▸ hr⟩
theorem Fit.kin (h : x.Fit) : Kin (fun _ _ => True) (.u8 :: .u32 :: ((List.replicate 4 (.u8 :: .u32 :: .u64 :: List.replicate 32 .u8)).flatten ++ (List.replicate 4 (.u8 :: List.replicate 32 .u8)).flatten)) x.v := by
  have h1 := RecT.kins h.fr
  have h2 := EntT.kins h.fe
  rw [h.lr] at h1
  rw [h.le] at h2
  show Kin _ _ (byteV x.l :: .int .u32 ((x.j : Nat) : Int) :: (recsV x.R ++ entsV x.E))
  exact kin_cons (kin_cons (Kin.join h1 h2))
theorem v_inj {x y : NodT} (hx : x.Fit) (hy : y.Fit) (h : x.v = y.v) : x = y := by
  have h1 := hx.getR
  have h2 := hx.getE
  rw [h, hy.getR] at h1
  rw [h, hy.getE] at h2
  have h3 := flatMap_inj (fun _ _ => RecT.v_inj) (RecT.lens hy.fr) (RecT.lens hx.fr) (by rw [hx.lr, hy.lr]) h1
  have h4 := flatMap_inj (fun _ _ => EntT.v_inj) (EntT.lens hy.fe) (EntT.lens hx.fe) (by rw [hx.le, hy.le]) h2
  obtain ⟨l, j, R, E⟩ := x
  obtain ⟨l', j', R', E'⟩ := y
  simp only at h3 h4
  subst h3; subst h4
  unfold NodT.v nodV at h
  simp only [List.cons_append, List.nil_append] at h
  injection h with h5 h
  injection h with h6 _
  injection h6 with _ h6
  rw [byteV_inj h5, Int.ofNat.inj h6]
end
/-! The error of a node. -/
open Classical in
noncomputable def ck (x : NodT) : Int := if 5 < x.l.toNat then 1 else if x.l.toNat = 0 then (if ∀ i, i < 4 → (x.e i).Z then fst4 fun i => (x.r i).ck else 1) else (if ∀ i, i < 4 → (x.r i).Z then fst4 fun i => (x.e i).ck else 1)
theorem ck_hi {x : NodT} (h : 5 < x.l.toNat) : x.ck = 1 := if_pos h
theorem ck_R {x : NodT} (h : x.l.toNat = 0) (hz : ∀ i, i < 4 → (x.e i).Z) : x.ck = fst4 fun i => (x.r i).ck := by unfold ck; rw [if_neg (by omega), if_pos h, if_pos hz]
theorem ck_Rz {x : NodT} (h : x.l.toNat = 0) (hz : ¬ ∀ i, i < 4 → (x.e i).Z) : x.ck = 1 := by unfold ck; rw [if_neg (by omega), if_pos h, if_neg hz]
theorem ck_E {x : NodT} (h5 : ¬ 5 < x.l.toNat) (h : ¬ x.l.toNat = 0) (hz : ∀ i, i < 4 → (x.r i).Z) : x.ck = fst4 fun i => (x.e i).ck := by unfold ck; rw [if_neg h5, if_neg h, if_pos hz]
theorem ck_Ez {x : NodT} (h5 : ¬ 5 < x.l.toNat) (h : ¬ x.l.toNat = 0) (hz : ¬ ∀ i, i < 4 → (x.r i).Z) : x.ck = 1 := by unfold ck; rw [if_neg h5, if_neg h, if_neg hz]
theorem ck_one (x : NodT) : x.ck = 0 ∨ x.ck = 1 := by
  unfold ck
  split
  · exact .inr rfl
  · split
    · split
      · exact fst4_one fun i => (x.r i).ck_one
      · exact .inr rfl
    · split
      · exact fst4_one fun i => (x.e i).ck_one
      · exact .inr rfl
theorem ck_ok {x : NodT} (h : x.ck = 0) : x.l.toNat ≤ 5 ∧ (x.l.toNat = 0 → (∀ i, i < 4 → (x.e i).Z) ∧ ∀ i, i < 4 → ¬ (x.r i).Bad) ∧ (x.l.toNat ≠ 0 → (∀ i, i < 4 → (x.r i).Z) ∧ ∀ i, i < 4 → ¬ (x.e i).Bad) := by
  by_cases h5 : 5 < x.l.toNat
  · rw [ck_hi h5] at h; cases h
  refine ⟨by omega, fun h0 => ?_, fun h0 => ?_⟩
  · by_cases hz : ∀ i, i < 4 → (x.e i).Z
    · rw [ck_R h0 hz] at h; exact ⟨hz, fun i hi => RecT.ck_zero.1 (fst4_zero h i hi)⟩
    · rw [ck_Rz h0 hz] at h; cases h
  · by_cases hz : ∀ i, i < 4 → (x.r i).Z
    · rw [ck_E h5 h0 hz] at h; exact ⟨hz, fun i hi => EntT.ck_zero.1 (fst4_zero h i hi)⟩
    · rw [ck_Ez h5 h0 hz] at h; cases h
theorem ok_R {x : NodT} (h : x.l.toNat = 0) (hz : ∀ i, i < 4 → (x.e i).Z) (hb : ∀ i, i < 4 → ¬ (x.r i).Bad) : x.ck = 0 := by rw [ck_R h hz]; exact fst4_no fun i hi => RecT.ck_zero.2 (hb i hi)
theorem ok_E {x : NodT} (h5 : ¬ 5 < x.l.toNat) (h : ¬ x.l.toNat = 0) (hz : ∀ i, i < 4 → (x.r i).Z) (hb : ∀ i, i < 4 → ¬ (x.e i).Bad) : x.ck = 0 := by rw [ck_E h5 h hz]; exact fst4_no fun i hi => EntT.ck_zero.2 (hb i hi)
/-! The bytes of a node. -/
def bl (x : NodT) : List UInt8 := x.l :: (be 4 x.j ++ (if x.l.toNat = 0 then x.R.flatMap RecT.l else x.E.flatMap EntT.l))
def sz (n : Nat) : Nat := if n = 0 then 185 else 137
theorem Fit.bl_length {x : NodT} (h : x.Fit) : x.bl.length = sz x.l.toNat := by
  unfold bl sz
  rw [List.length_cons, List.length_append, be_length]
  split
  · rw [flat_length (RecT.lensL h.fr), h.lr]
  · rw [flat_length (EntT.lensL h.fe), h.le]
end NodT
/-! ### Bytes written so far -/
def wrt (N : Nat) (p : List UInt8) : List Value := p.map byteV ++ List.replicate (N - p.length) (.int .u8 0)
theorem wrt_len {N : Nat} {p : List UInt8} (h : p.length ≤ N) : (wrt N p).length = N := by simp [wrt]; omega
theorem wrt_zero (N : Nat) : wrt N [] = List.replicate N (.int .u8 0) := by simp [wrt]
theorem wrt_full {N : Nat} {p : List UInt8} (h : p.length = N) : wrt N p = p.map byteV := by simp [wrt, h]
theorem wrt_step {N : Nat} {p l : List UInt8} (h : p.length + l.length ≤ N) : (wrt N p).take (0 + p.length) ++ (l.take (N - p.length)).map byteV ++ (wrt N p).drop (0 + p.length + min l.length (N - p.length)) = wrt N (p ++ l) := by
  rw [Nat.zero_add, List.take_of_length_le (l := l) (by omega), show min l.length (N - p.length) = l.length from by omega, wrt, wrt, List.take_left' (by simp), ← List.drop_drop, List.drop_left' (by simp), List.drop_replicate, List.map_append, List.length_append, Nat.sub_sub]
theorem take_all {α : Type} {P : α → Prop} {L : List α} (h : ∀ r ∈ L, P r) (i : Nat) : ∀ r ∈ L.take i, P r := fun r hr => h r (List.mem_of_mem_take hr)
theorem take_flat {α β : Type} {v : α → List β} {L : List α} (hL : L.length = 4) {i : Nat} (hi : i < 4) {z : α} : (L.take (i + 1)).flatMap v = (L.take i).flatMap v ++ v (L.getD i z) := by
  rw [List.take_add_one, List.getElem?_eq_getElem (by omega), Option.toList_some, List.flatMap_append, List.flatMap_cons, List.flatMap_nil, List.append_nil]
  simp [List.getD_eq_getElem?_getD, hL, hi]
theorem getD_in {α : Type} (L : List α) {i : Nat} (hi : i < L.length) (z : α) : L.getD i z ∈ L := by
  rw [List.getD_eq_getElem?_getD, List.getElem?_eq_getElem hi]
  exact List.getElem_mem _
theorem rows_part {α β : Type} {v : α → List β} {k : Nat} {cs : List β} {L : List α} {o : Nat} (hL : ∀ a ∈ L, (v a).length = k) (hc : (cs.drop o).take (L.length * k) = L.flatMap v) {i : Nat} (hi : i < L.length) (z : α) : (cs.drop (o + i * k)).take k = v (L.getD i z) := by
  have h := flat_getD hL hi z
  have hle : i * k + k ≤ L.length * k := by rw [← Nat.succ_mul]; exact Nat.mul_le_mul_right _ hi
  rw [← hc, List.drop_take, List.drop_drop, List.take_take, Nat.min_eq_left (by omega)] at h
  exact h
theorem RecT.dz (r : RecT) : decide r.Z = true ↔ r.v = RecT.zero.v := by rw [decide_eq_true_iff]; exact RecT.z_v
theorem EntT.dz (r : EntT) : decide r.Z = true ↔ r.v = EntT.zero.v := by rw [decide_eq_true_iff]; exact EntT.z_v
theorem sz_le (n : Nat) : 137 ≤ NodT.sz n ∧ NodT.sz n ≤ 185 := by unfold NodT.sz; split <;> omega
theorem bl_R {x : NodT} (h : x.l.toNat = 0) : [] ++ [x.l] ++ be 4 x.j ++ x.R.flatMap RecT.l = x.bl := by unfold NodT.bl; rw [if_pos h]; simp
theorem bl_E {x : NodT} (h : ¬ x.l.toNat = 0) : [] ++ [x.l] ++ be 4 x.j ++ x.E.flatMap EntT.l = x.bl := by unfold NodT.bl; rw [if_neg h]; simp
/-! ### Numbers -/
/-! ### Contracts that read tables, whose result is told over the heap's size at the call -/
structure FnMB (P : Program) (f : FuncId) (M : Env) (ds : List D) (d : Nat → D) : Prop where
  body : ∃ fn, P.funcs[f]? = some fn ∧ (fn.name == "runtime.NumGoroutine") = false ∧ fn.body.isNone = false
  calls : ∀ (vs : List Value) (w : World), (∀ p ∈ M, p.2.Of w undef) → vs.length = ds.length → (∀ (j : Nat) (e : D) (u : Value), ds[j]? = some e → vs[j]? = some u → e.Of w u) → Calls P f vs.toArray w (PostOf w (d w.heap.size))
theorem FnMB.fn {P : Program} {f : FuncId} {M : Env} {ds : List D} {d : Nat → D} {d' : D} (h : FnMB P f M ds d) (hd : ∀ B, Le (d B) d') : FnM P f M ds d' :=
  ⟨h.body, fun vs w h0 h1 h2 => (h.calls vs w h0 h1 h2).mono fun _ _ ⟨x, he, g, hx⟩ => ⟨x, he, g, (hd _).of hx⟩⟩
theorem FnMB.of {P : Program} {n : Nat} {f : FuncId} {fn : Func} {c : Code} {M : Env} {ds : List D} {d : Nat → D} (hf : P.funcs[f]? = some fn) (hb : fn.body = some c) (hname : (fn.name == "runtime.NumGoroutine") = false) (hn : fn.ntmps = n) (hds : ds.length ≤ n) (hnv : n ≤ vbase) (E : World → Env)
    (hE : ∀ w, StartM w.heap.size ds M (E w)) (h : ∀ w₀, (∀ p ∈ M, p.2.Of w₀ undef) → A Cx.top P w₀ n c (E w₀) (BP P fn (PostOf w₀ (d w₀.heap.size)))) : FnMB P f M ds d := by
  refine ⟨⟨fn, hf, hname, by rw [hb]; rfl⟩, fun vs w hM hl hv => callsIn_FR.1 (callsIn_of_wp_marks (F := FR none) (n := 0) hf hb trivial (h w hM _ w (Below.refl _ _) ⟨Nat.le_refl _, rfl, ?_, fun t e he => ?_⟩))⟩
  · simp [hl, hn]; omega
  · show e.Of w ((vs.toArray ++ Array.replicate (fn.ntmps - vs.toArray.size) undef).getD t undef)
    rcases hE w _ (look_mem he) with ⟨hm, ht⟩ | ⟨d', hd', hor⟩
    · have h1 := hM _ hm
      rwa [Array.getD_eq_getD_getElem?, Array.getElem?_eq_none (by simp [hl, hn]; simp only at ht; omega)]
    · have hlt : t < vs.length := by have := (List.getElem?_eq_some_iff.1 hd').1; simp at this; omega
      have hget : (vs.toArray ++ Array.replicate (fn.ntmps - vs.toArray.size) undef).getD t undef = vs[t] := by
        rw [Array.getD_eq_getD_getElem?, Array.getElem?_append_left (by simpa using hlt)]
        simp [hlt]
      rw [hget]
      have h1 := hv t d' vs[t] hd' (List.getElem?_eq_getElem hlt)
      rcases hor with h2 | h2
      · simp only at h2; rw [h2]; exact h1
      · simp only at h2; rw [h2]; exact ⟨Nat.le_refl _, h1⟩
section
variable {P : Program} {B : Nat} {E : Env} {dst : Option Tmp} {ty : TypeId} {pos : String} {after : Array Edge} {guard : Option (Nat × Bool)}
theorem ok_callMB {f : FuncId} {M : Env} {args : Array Operand} {argTypes : Array TypeId} {ds : List D} {d : Nat → D} (hf : FnMB P f M ds d) (hd : ∀ B B', B ≤ B' → Le (d B') (d B)) (hM : Sub M E) (hMb : ∀ p ∈ M, vbase ≤ p.1) (ha : Args E ds args.toList) :
    OpOk P B ⟨dst, .call { callee := .value (.func f), args := args, argTypes := argTypes }, ty, pos, after, guard⟩ E (d B) := fun ρ w hB hv hρ => by
  obtain ⟨fn, h1, h2, h3⟩ := hf.body
  have hfun : ρ (.func f) = .func (.func f) #[] #[] := hρ (.func f) (by simp [Op.operands, Call.operands]) _ rfl
  have hrun : (execOp ρ ⟨dst, .call { callee := .value (.func f), args := args, argTypes := argTypes }, ty, pos, after, guard⟩).run P w = .ok (.enter f (args.map ρ)) w := by
    have h2' : ¬ fn.name = "runtime.NumGoroutine" := by simpa using h2
    have h3' : ¬ fn.body = none := by intro h; rw [h] at h3; cases h3
    simp [execOp, resolve, Deferred.ofValue, hfun, invoke, callFunc, h1, h2', h3']
  unfold Out
  rw [hrun]
  have := hf.calls (args.toList.map ρ) w (fun p hp => hv p.1 p.2 (hMb p hp) (hM p hp)) (by rw [List.length_map, ha.length]) fun j e u he hu => by
    rw [List.getElem?_map] at hu
    cases hx : args.toList[j]? with
    | none => rw [hx] at hu; cases hu
    | some x =>
      rw [hx] at hu; injection hu with hu; subst hu
      obtain ⟨e', h4, h5⟩ := ha.nth he hx
      exact h5.of (hρ x (by simp [Op.operands, Call.operands]; exact .inr (by simpa using List.mem_of_getElem? hx)) _ h4)
  have harr : (args.toList.map ρ).toArray = args.map ρ := by apply Array.ext'; simp
  rw [harr] at this
  exact this.mono fun e w' ⟨x, he, g, hx⟩ => ⟨x, he, g, (hd _ _ hB).of hx⟩
/-- A call of a function value that is a plain function. -/
theorem ok_callV0 {f : FuncId} {x : Operand} {args : Array Operand} {argTypes : Array TypeId} {ds : List D} {d : D} (hf : Fn P f ds d) (hx : E.at x = some (.v (.func (.func f) #[] #[]))) (ha : Args E ds args.toList) :
    OpOk P B ⟨dst, .call { callee := .value x, args := args, argTypes := argTypes }, ty, pos, after, guard⟩ E d :=
  ok_callVM (us := []) (M := []) (by rw [List.map_nil, List.append_nil]; exact hf.m) Sub.nil (fun _ h => by cases h) hx ha
theorem ok_callVB {f : FuncId} {x : Operand} {args : Array Operand} {argTypes : Array TypeId} {ds : List D} {d : Nat → D} (hf : FnB P f ds d) (hd : ∀ B B', B ≤ B' → Le (d B') (d B)) (hx : E.at x = some (.v (.func (.func f) #[] #[]))) (ha : Args E ds args.toList) :
    OpOk P B ⟨dst, .call { callee := .value x, args := args, argTypes := argTypes }, ty, pos, after, guard⟩ E (d B) := fun ρ w hB hv hρ => by
  obtain ⟨fn, h1, h2, h3⟩ := hf.body
  have hfun : ρ x = .func (.func f) #[] #[] := hρ x (by simp [Op.operands, Call.operands]) _ hx
  have hrun : (execOp ρ ⟨dst, .call { callee := .value x, args := args, argTypes := argTypes }, ty, pos, after, guard⟩).run P w = .ok (.enter f (args.map ρ)) w := by
    have h2' : ¬ fn.name = "runtime.NumGoroutine" := by simpa using h2
    have h3' : ¬ fn.body = none := by intro h; rw [h] at h3; cases h3
    simp [execOp, resolve, Deferred.ofValue, hfun, invoke, callFunc, h1, h2', h3']
  unfold Out
  rw [hrun]
  have := hf.calls (args.toList.map ρ) w (by rw [List.length_map, ha.length]) fun j e u he hu => by
    rw [List.getElem?_map] at hu
    cases hx : args.toList[j]? with
    | none => rw [hx] at hu; cases hu
    | some x =>
      rw [hx] at hu; injection hu with hu; subst hu
      obtain ⟨e', h4, h5⟩ := ha.nth he hx
      exact h5.of (hρ x (by simp [Op.operands, Call.operands]; exact .inr (by simpa using List.mem_of_getElem? hx)) _ h4)
  have harr : (args.toList.map ρ).toArray = args.map ρ := by apply Array.ext'; simp
  rw [harr] at this
  exact this.mono fun e w' ⟨x, he, g, hx⟩ => ⟨x, he, g, (hd _ _ hB).of hx⟩
/-- An element of an array's value, the elements of several cells each. -/
theorem ok_indexAgg {t e : TypeId} {len sz : Nat} {td : TypeDesc} {x i : Operand} {xs ys : List Value} {k : IntKind} {j : Int} (m : Nat) (ht : P.underlying t = some (.array len e)) (he : P.underlying e = some td) (hp : td.isRow = true) (hs : SizeIs P e sz)
    (hx : E.at x = some (.v (aggV xs))) (hi : E.at i = some (.v (.int k j))) (hj : j = (m : Int)) (hm : m < len) (hu : (xs.drop (m * sz)).take sz = ys) : OpOk P B ⟨dst, .index t x i, ty, pos, after, guard⟩ E (.v (aggV ys)) := fun ρ w _ _ hρ => by
  have h1 : ρ x = _ := hρ x (by simp [Op.operands]) _ hx
  have h2 : ρ i = _ := hρ i (by simp [Op.operands]) _ hi
  obtain ⟨info, hinfo, hsize⟩ := hs.get
  subst hj
  have hagg : (isAgg e).run P w = .ok true w := by
    unfold isAgg
    rw [Sem.run_bind, run_underlying he w]
    cases td <;> simp_all [TypeDesc.isRow]
  refine out_val (w' := w) ?_ ⟨Grow.refl w, rfl⟩
  subst hu
  simp [execOp, h1, h2, aggV, Instr.index, asIntOf, run_underlying ht, hm, sizeOf, typeInfo, hinfo, hsize, part, hagg]
/-- Part of an array behind a pointer, the elements of several cells each. -/
theorem ok_sliceN {t e : TypeId} {len sz : Nat} {x : Operand} {lo hi mx : Option Operand} {b o : Nat} (l h : Nat) {m : Nat} (ht : P.underlying t = some (.array len e)) (hs : SizeIs P e sz) (hx : E.at x = some (.v (.pointer (some ⟨b, o, none⟩))))
    (hlo : Bnd E lo l 0) (hhi : (∃ ho k, hi = some ho ∧ E.at ho = some (.v (.int k (h : Int)))) ∨ (hi = none ∧ mx = none ∧ h = len)) (hmx : Bnd E mx m len) (hlh : l ≤ h) (hhm : h ≤ m) (hml : m ≤ len) :
    OpOk P B ⟨dst, .slice t x lo hi mx, ty, pos, after, guard⟩ E (.v (.slice (some ⟨b, if m = l then o else o + l * sz, none⟩) (h - l) (m - l))) := fun ρ w _ _ hρ => by
  have h1 : ρ x = _ := hρ x (by simp [Op.operands]) _ hx
  obtain ⟨info, hinfo, hsize⟩ := hs.get
  have hlo' := hlo.get (ρ := ρ) fun o ho u hu => hρ o (by simp [Op.operands, ho]) _ hu
  have hmx' := hmx.get (ρ := ρ) fun o ho u hu => hρ o (by simp [Op.operands, ho]) _ hu
  have hhi' : (∃ k, hi.map ρ = some (.int k (h : Int))) ∨ (hi.map ρ = none ∧ mx.map ρ = none ∧ h = len) := by
    rcases hhi with ⟨ho, k, rfl, hh⟩ | ⟨rfl, rfl, hh⟩
    · exact .inl ⟨k, by simp [show ρ ho = _ from hρ ho (by simp [Op.operands]) _ hh]⟩
    · exact .inr ⟨rfl, rfl, hh⟩
  have haddr : (if m = l then (⟨b, o, none⟩ : Addr) else (⟨b, o, none⟩ : Addr).add (l * sz)) = ⟨b, if m = l then o else o + l * sz, none⟩ := by
    rw [add_lit0]
    split <;> rfl
  have hr : (Instr.sliceAt t (.pointer (some ⟨b, o, none⟩)) (lo.map ρ) (hi.map ρ) (mx.map ρ)).run P w = .ok (.slice (some ⟨b, if m = l then o else o + l * sz, none⟩) (h - l) (m - l)) w := by
    rw [← haddr]
    have hb := sliceBounds_run (P := P) (sl := false) w hlo' hhi' hmx' hlh hhm hml
    simp [Instr.sliceAt, run_underlying ht, Instr.sureAddr, hb, sizeOf, typeInfo, hinfo, hsize]
  exact out_val (w' := w) (by simp only [execOp, h1, Sem.run_bind, hr, Result.andThen_ok, Sem.run_pure]) ⟨Grow.refl w, rfl⟩
/-- A slice that is given values: a row of the call's own. -/
theorem ok_buildOwn {t e : TypeId} {n : Nat} {ps : Array (Nat × Operand)} {z : Value} {nb : Nat} (vs : List Value) (ht : P.underlying t = some (.slice e)) (hinfo : InfoIs P e z nb) (hz1 : z.cells = #[z])
    (hn : 0 < n) (hn' : n ≤ 65536) (hl : vs.length = n) (hp : Parts E (vs.map D.v) ps.toList 0) (h1 : ∀ u ∈ vs, u.oneCell' = true) :
    OpOk P B ⟨dst, .buildSlice t n ps, ty, pos, after, guard⟩ E (own B e n vs) := fun ρ w hB _ hρ => by
  obtain ⟨i, hi, hz, hs, _⟩ := hinfo.get
  have hpl : ps.toList.length = vs.length := by rw [← hp.length, List.length_map]
  have hof : ∀ (j : Nat) (hj : j < vs.length), ∃ x, ps.toList[j]? = some (0 + j, x) ∧ ρ x = vs[j] := fun j hj => by
    obtain ⟨x, hx, he⟩ := hp.nth (j := j) (d := .v vs[j]) (by simp [hj])
    refine ⟨x, hx, hρ x ?_ (.v vs[j]) he⟩
    simp only [Op.operands, List.mem_toArray, List.mem_map]
    exact ⟨_, List.mem_of_getElem? hx, rfl⟩
  have hparts : (ps.map fun (i, x) => (i, ρ x)).toList = (vs.zipIdx 0).map fun x => (x.2, x.1) := by
    apply List.ext_getElem?
    intro j
    rcases Nat.lt_or_ge j vs.length with hj | hj
    · obtain ⟨x, hx, he⟩ := hof j hj
      have hx' : ps[j]? = some (0 + j, x) := by simpa using hx
      simp [List.getElem?_zipIdx, hx', he, hj]
    · rw [List.getElem?_eq_none (by simp at hpl ⊢; omega), List.getElem?_eq_none (by simp; omega)]
  have hz' : (Array.range (n * i.size)).map (z.cells[· % z.cells.size]!) = ([] ++ List.replicate n z).toArray := by
    rw [hs, hz1, Nat.mul_one]
    apply Array.ext
    · simp
    · intro j h1 h2; simp [Nat.mod_one]
  have hfill : Instr.fill (fun j => some (j * i.size, i.size)) ((Array.range (n * i.size)).map (z.cells[· % z.cells.size]!)) (ps.map fun (i, x) => (i, ρ x)).toList = some vs.toArray := by
    rw [hz', hparts, hs, fill_dense vs [] (List.replicate n z) 0 h1 rfl (by simp [hl])]
    simp [hl]
  have hr := run_buildSlice (P := P) w t e n (ps.map fun (i, x) => (i, ρ x)) vs.toArray i z ht hi hz (by rw [hs]; omega) (by rw [hs]; omega) hfill
  refine out_val (x := .slice (some ⟨w.heap.size, 0, none⟩) n n) (w' := w.alloc (.cells vs.toArray e)) (by simp [execOp, hr]) ⟨Grow.alloc w _, ⟨by omega, .inr ⟨w.heap.size, n, vs.toArray, rfl, hB, heap_alloc_new w _, Nat.le_refl _, by simp only [maxLen]; omega, by simp [hl], ?_⟩⟩, fun g hg => ?_⟩
  · rw [Nat.mul_one]; exact List.take_of_length_le (Nat.le_of_eq hl)
  · simp [Value.ownBlock] at hg; subst hg; simp
/-- A slice of one byte, in a block of its own. -/
theorem ok_build1B {t e : TypeId} {z : Value} {nb : Nat} {x : Operand} {a : UInt8} (ht : P.underlying t = some (.slice e)) (hs : InfoIs P e z nb) (hz : z.cells.size = 1) (hx : E.at x = some (.v (byteV a))) :
    OpOk P B ⟨dst, .buildSlice t 1 #[(0, x)], ty, pos, after, guard⟩ E (newD B e (fun b => .slice (some ⟨b, 0, none⟩) 1 1) [byteV a]) := fun ρ w hB hv hρ => by
  obtain ⟨i, hi, hzv, hsize, _⟩ := hs.get
  have h1 : ρ x = byteV a := hρ x (by simp [Op.operands]) _ hx
  have hfill : Instr.fill (fun j => some (j * i.size, i.size)) ((Array.range (1 * i.size)).map (z.cells[· % z.cells.size]!)) [(0, ρ x)] = some #[byteV a] := by
    rw [hsize, h1, hz]
    have h2 : ((Array.range (1 * 1)).map fun y => z.cells[y % 1]!) = #[z.cells[0]!] := by
      rw [show Array.range (1 * 1) = #[0] from by decide]
      simp
    rw [h2]
    simp [Instr.fill, byteV, Value.cells]
  have hr := run_buildSlice (P := P) w t e 1 #[(0, ρ x)] #[byteV a] i z ht hi hzv (by rw [hsize]; decide) (by rw [hsize]; decide) (by simpa using hfill)
  exact out_val (x := .slice (some ⟨w.heap.size, 0, none⟩) 1 1) (w' := w.alloc (.cells #[byteV a] e)) (by simp [execOp, hr]) ⟨Grow.alloc w _, _, rfl, hB, by simp, heap_alloc_new w _⟩
/-- A cell of a package-level table. -/
theorem ok_loadVT {t : TypeId} {td : TypeDesc} {x : Operand} {b o s : Nat} {xs : List Value} {u : Value} (hsl : vbase ≤ s) (ht : P.underlying t = some td) (hp : plainTD td = true) (hx : E.at x = some (.v (.pointer (some ⟨b, o, none⟩)))) (htab : E.look s = some (tab b xs)) (hu : xs[o]? = some u) :
    OpOk P B ⟨dst, .load t x, ty, pos, after, guard⟩ E (.v u) := fun ρ w hB hv hρ => by
  have h1 : ρ x = _ := hρ x (by simp [Op.operands]) _ hx
  obtain ⟨_, e, hh⟩ := hv s _ hsl htab
  have hc : w.cell? ⟨b, o, none⟩ = some u := by simp [World.cell?, hh, hu]
  exact out_val (x := u) (w' := w) (by simp [execOp, h1, run_load_plain ht hp hc]) ⟨Grow.refl w, rfl⟩
end
/-! ### Variables of a function that writes several blocks -/
section
variable {P : Program} {n B : Nat} {ops : Array Oper} {E : Env} {ty : TypeId} {pos : String} {after : Array Edge}
theorem eff_newL {o : Oper} {d k : Nat} {T : TypeId} {xs : List Value} (hd : o.dst = some d) (hg : o.guard = none)
    (hrun : ∀ (κ : Cx) a w, St κ n B E a w → (execOp a.eval o).run P w = .ok (.value (.pointer (some ⟨w.heap.size, 0, none⟩))) (w.alloc (.cells xs.toArray T))) (hdn : d < n) :
    EffG P n B ops o E (NewL B E) (fun b => (d, .v (.pointer (some ⟨b, 0, none⟩))) :: (k, blk b T xs) :: E) := by
  intro κ a w K Q h hK
  rw [if_pos (by simp [Region.wanted, hg])]
  refine opR (not_defer (hrun κ a w h)) ?_
  unfold Oper.wp
  rw [hrun κ a w h, Oper.upon_value, hd]
  have hbel : Below B w (w.alloc (.cells xs.toArray T)) := (Below.refl B w).alloc h.base _
  have hst := h.grow (Grow.alloc w (.cells xs.toArray T))
  refine hK w.heap.size _ _ ⟨h.base, fun s b' e ys hs => (h.of s _ hs).1, fun s gs w₁ hs => (h.of s _ hs).2.size⟩ hbel (St.put (hst.push ?_) hdn rfl)
  exact ⟨by simp, heap_alloc_new w _⟩
theorem eff_allocL {T : TypeId} {zs : List Value} {d k : Nat} (hz : ZeroIs P T zs) (hdn : d < n) :
    EffG P n B ops ⟨some d, .alloc T, ty, pos, after, none⟩ E (NewL B E) (fun b => (d, .v (.pointer (some ⟨b, 0, none⟩))) :: (k, blk b T zs) :: E) :=
  eff_newL rfl rfl (fun _ a w _ => by
    obtain ⟨i, z, hi, hz, hc⟩ := hz.get
    simp [execOp, Instr.alloc, zeroValue, typeInfo, hi, hz, newVar, newRow, hc]) hdn
theorem eff_boxL {T : TypeId} {x : Operand} {xs : List Value} {d k : Nat} (hx : E.at x = some (.v (aggV xs))) (hdn : d < n) :
    EffG P n B ops ⟨some d, .box T x, ty, pos, after, none⟩ E (NewL B E) (fun b => (d, .v (.pointer (some ⟨b, 0, none⟩))) :: (k, blk b T xs) :: E) :=
  eff_newL rfl rfl (fun _ a w h => by
    have h1 : a.eval x = aggV xs := h.at_ x _ hx
    simp [execOp, Instr.box, newVar, newRow, h1, aggV, Value.cells]) hdn
/-- The facts that such a contract speaks of may stand at other numbers. -/
theorem FnL.rekey {f : FuncId} {gs : List (TypeId × Nat)} {us : List Value} {M M₂ : Env} {G : Nat → Nat → Prop} {u : Nat → Value} {M' M₂' : Nat → Env} (h : FnL P f B gs us M G u M') (h1 : M₂.map Prod.snd = M.map Prod.snd) (h2 : ∀ i, (M₂' i).map Prod.snd = (M' i).map Prod.snd) : FnL P f B gs us M₂ G u M₂' :=
  ⟨h.body, fun w hB hM hw => (h.calls w hB (fun p hp => by
    have h3 : p.2 ∈ M₂.map Prod.snd := by rw [h1]; exact List.mem_map_of_mem hp
    obtain ⟨q, hq, hqe⟩ := List.mem_map.1 h3
    rw [← hqe]; exact hM q hq) hw).mono fun e w' ⟨i, h4, h5, h6, h7⟩ => ⟨i, h4, h5, h6, fun p hp => by
    have h3 : p.2 ∈ (M' i).map Prod.snd := by rw [← h2 i]; exact List.mem_map_of_mem hp
    obtain ⟨q, hq, hqe⟩ := List.mem_map.1 h3
    rw [← hqe]; exact h7 q hq⟩⟩
end
/-! ### A drawn region whose operations may come up late, at a function's end -/
section
variable {P : Program} {n B : Nat} {ops : Array Oper} {Q : Exit → Act → World → Prop}
theorem A.regL0 {w₀ : World} {E : Env} {id : Nat} (p : Nat) (late : List Nat) (hm : P.follows .mixedOrders = true) (hf : fits n ops = true) (htied : tied ops = true) (hlate : lateOk ops p late = true) (Z : Env)
    (h : RunK P w₀.heap.size ops (ops.toList.take p) E (fun E₁ => ∀ S ∈ subs late, ∃ m, LateT P n w₀.heap.size ops (fun E₃ => SubL Z E₃) p m S E₁)) (hz : End κ w₀ n Z (Q .normal)) : A κ P w₀ n (.region id ops true) E Q := fun a w hg hst => by
  obtain ⟨E₁, hr, hC⟩ := h
  obtain ⟨ds, ht⟩ := hr.trace
  have hd : Below w₀.heap.size w w.drew := (Below.refl _ w).drew
  have hst0 : St κ n w₀.heap.size E a w.drew := hst.grow (Grow.refl w).drew
  refine wpIn_region_any hm (wp_segL htied hf hlate ht hst0 (fun S hS fuel a' w' hfu g h' => ?_) _ _ a w.drew ?_ (start_inv (Nat.zero_le _) htied (by simp) (fun i hi => by simp [hi]) hst0))
  · obtain ⟨m, hmu, E₀, hsub, hkeep, o, ho, E₂, he, hn⟩ := hC S hS
    have h0 : St κ n w₀.heap.size E₀ a' w' := ⟨h'.base, h'.defers, h'.size, fun t e he => by
      have hm := look_mem he
      exact h'.of t e (look_without (List.all_eq_true.1 hkeep t (List.mem_map.2 ⟨_, hm, rfl⟩)) (hsub _ hm))⟩
    refine wpOpR_step ho fun K hK => he κ a' w' K _ h0 fun a'' w'' g' h'' => hK _ _ (wp_anyE (hn.mono (k := fuel) (by omega)) h'' fun E3 a3 w3 hC3 g3 h3 => ?_)
    exact hz a3 w3 (Below.trans hg (Below.trans hd (Below.trans (Below.mono g hst.base) (Below.trans g' g3)))) (h3.subL hC3)
  · refine Nat.le_trans List.countP_le_length ?_
    simp
end
end Go.Proofs.YtlddnmblfgaimaaDoor
