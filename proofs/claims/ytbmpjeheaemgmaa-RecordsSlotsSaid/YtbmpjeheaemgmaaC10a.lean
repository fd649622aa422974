/-
 The contracts of caissonref10, and what the parts of bytes make.
-/
import Derived.Test.YtbmpjeheaemgmaaShort
import Derived.Test.YtbmpjeheaemgmaaC08a
import Derived.Test.YtbmpjeheaemgmaaRec
import Derived.Test.YtbmpjeheaemgmaaFlow
namespace Go.Proofs.Ytbmpjeheaemgmaa
open Go Go.RowKit
set_option linter.unusedVariables false
set_option maxRecDepth 20000

theorem zero29 : ZeroIs Try.prog 29 ([.int .u8 0] ++ [.int .u32 0] ++ [.int .u64 0] ++ List.replicate 32 (.int .u8 0)) := by unfold ZeroIs; kernel_rfl
theorem size29 : SizeIs Try.prog 29 35 := by unfold SizeIs; kernel_rfl
theorem field29_0 : FieldIs Try.prog 29 0 0 1 := by unfold FieldIs; kernel_rfl
theorem field29_1 : FieldIs Try.prog 29 1 1 2 := by unfold FieldIs; kernel_rfl
theorem field29_2 : FieldIs Try.prog 29 2 3 32 := by unfold FieldIs; kernel_rfl
theorem zero43 : ZeroIs Try.prog 43 ([.int .u8 0] ++ List.replicate 32 (.int .u8 0)) := by unfold ZeroIs; kernel_rfl
theorem size43 : SizeIs Try.prog 43 33 := by unfold SizeIs; kernel_rfl
theorem field43_0 : FieldIs Try.prog 43 0 0 1 := by unfold FieldIs; kernel_rfl
theorem field43_1 : FieldIs Try.prog 43 1 1 32 := by unfold FieldIs; kernel_rfl
theorem zero52 : ZeroIs Try.prog 52 (List.replicate 32 (.int .u8 0) ++ [.int .u64 0] ++ [.int .u64 0]) := by unfold ZeroIs; kernel_rfl
theorem size52 : SizeIs Try.prog 52 34 := by unfold SizeIs; kernel_rfl
theorem field52_0 : FieldIs Try.prog 52 0 0 32 := by unfold FieldIs; kernel_rfl
theorem field52_1 : FieldIs Try.prog 52 1 32 1 := by unfold FieldIs; kernel_rfl
theorem field52_2 : FieldIs Try.prog 52 2 33 1 := by unfold FieldIs; kernel_rfl
theorem field80_0 : FieldIs Try.prog 80 0 0 1 := by unfold FieldIs; kernel_rfl
theorem zero27 : ZeroIs Try.prog 27 (List.replicate 32 (.int .u8 0)) := by unfold ZeroIs; kernel_rfl
theorem size27 : SizeIs Try.prog 27 32 := by unfold SizeIs; kernel_rfl
theorem flat29 : flat Try.prog 4 29 = some (.u8 :: .u32 :: .u64 :: List.replicate 32 .u8) := by kernel_rfl
theorem flat43 : flat Try.prog 4 43 = some (.u8 :: List.replicate 32 .u8) := by kernel_rfl
theorem flat52 : flat Try.prog 4 52 = some (List.replicate 32 .u8 ++ [.u64, .u64]) := by kernel_rfl
theorem flat27 : flat Try.prog 4 27 = some (List.replicate 32 .u8) := by kernel_rfl
/-- The nonce's bytes in a record's. -/
def pN (l : List UInt8) : List UInt8 := (l.drop 1).take 12
def pT (l : List UInt8) : List UInt8 := ((l.drop 1).drop 12).take 32
def pD (l : List UInt8) : List UInt8 := (l.drop 1).take 32
theorem pT_len {l : List UInt8} (h : l.length = 45) : (pT l).length = 32 := by simp [pT, h]
theorem pD_len {l : List UInt8} (h : l.length = 33) : (pD l).length = 32 := by simp [pD, h]
theorem pN_len {l : List UInt8} (h : l.length = 45) : (pN l).length = 12 := by simp [pN, h]
theorem rec_back {l : List UInt8} (h : l.length = 45) : recL (pX l) (gS (pN l)) (gC (pN l)) (pT l) = l := by
 unfold recL
 rw [nonce_back (pN_len h), pN, pT, List.take_of_length_le (l := (l.drop 1).drop 12) (by simp [h]), List.take_append_drop, ← pX_drop (by omega)]
theorem ent_back {l : List UInt8} (h : l.length = 33) : entL (pX l) (pD l) = l := by
 unfold entL
 rw [pD, List.take_of_length_le (by simp [h]), ← pX_drop (by omega)]
theorem zN : nonceL 0 0 = List.replicate 12 0 := by decide
theorem rest_rec {l : List UInt8} (h : l.length = 45) : rest l = 0 ↔ gS (pN l) = 0 ∧ gC (pN l) = 0 ∧ pT l = zD := by
 have h1 : l.drop 1 = pN l ++ pT l := by rw [pN, pT, List.take_of_length_le (l := (l.drop 1).drop 12) (by simp [h]), List.take_append_drop]
 rw [rest, h1, sumL_append]
 have h2 : sumL (pN l) = 0 ↔ gS (pN l) = 0 ∧ gC (pN l) = 0 := by
  rw [sumL_zero, pN_len h]
  refine ⟨fun h => by rw [h]; exact ⟨by decide, by decide⟩, fun ⟨h3, h4⟩ => ?_⟩
  rw [← nonce_back (pN_len h), h3, h4, zN]
 have h3 : sumL (pT l) = 0 ↔ pT l = zD := by rw [sumL_zero, pT_len h]; rfl
 rw [← h3, ← and_assoc, ← h2]
 omega
theorem rest_ent {l : List UInt8} (h : l.length = 33) : rest l = 0 ↔ pD l = zD := by
 have h1 : l.drop 1 = pD l := by rw [pD, List.take_of_length_le (by simp [h])]
 rw [rest, h1, sumL_zero, pD_len h]; rfl
theorem badR_iff {l : List UInt8} (h : l.length = 45) : BadR (pX l) (gS (pN l)) (gC (pN l)) (pT l) ↔ BadL l := by
 unfold BadR BadL
 rw [← rest_rec h]
 omega
theorem badE_iff {l : List UInt8} (h : l.length = 33) : BadE (pX l) (pD l) ↔ BadL l := by
 unfold BadE BadL
 rw [← rest_ent h]
 omega
theorem getQ_lt (l : List UInt8) : (getV l 8).toNat < 18446744073709551616 := by
 unfold getV
 split
 ·rename_i h; have := num_lt l; rw [h] at this; omega
 ·decide
def cD (l : List UInt8) : List UInt8 := l.take 32
def cE (l : List UInt8) : Nat := (getV ((l.drop 32).take 8) 8).toNat
def cM (l : List UInt8) : Nat := (getV (((l.drop 32).drop 8).take 8) 8).toNat
theorem cD_len {l : List UInt8} (h : l.length = 48) : (cD l).length = 32 := by simp [cD, h]
theorem cel_back {l : List UInt8} (h : l.length = 48) : celL (cD l) (cE l) (cM l) = l := by
 unfold celL cD cE cM
 rw [be_getV (by simp [h]), be_getV (by simp [h]), List.take_of_length_le (l := (l.drop 32).drop 8) (by simp [h]), List.take_append_drop, List.take_append_drop]
theorem rec_front {x : UInt8} {s c : Nat} {t : List UInt8} (ht : t.length = 32) (hs : s < 4294967296) (hc : c < 18446744073709551616) : pX (recL x s c t) = x ∧ gS (pN (recL x s c t)) = s ∧ gC (pN (recL x s c t)) = c ∧ pT (recL x s c t) = t := by
 have h1 : pN (recL x s c t) = nonceL s c := by unfold pN recL; rw [List.drop_one, List.tail_cons, List.take_left' (nonceL_length s c)]
 refine ⟨rfl, by rw [h1, gS_nonce hs], by rw [h1, gC_nonce hc], ?_⟩
 unfold pT recL
 rw [List.drop_one, List.tail_cons, List.drop_left' (nonceL_length s c), List.take_of_length_le (by omega)]
theorem ent_front {x : UInt8} {t : List UInt8} (ht : t.length = 32) : pX (entL x t) = x ∧ pD (entL x t) = t := by
 refine ⟨rfl, ?_⟩
 unfold pD entL
 rw [List.drop_one, List.tail_cons, List.take_of_length_le (by omega)]
theorem cel_front {t : List UInt8} {e m : Nat} (ht : t.length = 32) (he : e < 18446744073709551616) (hm : m < 18446744073709551616) : cD (celL t e m) = t ∧ cE (celL t e m) = e ∧ cM (celL t e m) = m := by
 have h2 : (celL t e m).drop 32 = be 8 e ++ be 8 m := by unfold celL; rw [List.drop_left' ht]
 refine ⟨by unfold cD celL; rw [List.take_left' ht], ?_, ?_⟩
 ·unfold cE; rw [h2, List.take_left' (be_length 8 e), getV, if_pos (be_length 8 e), num_be, Nat.mod_eq_of_lt (by omega), Int.toNat_natCast]
 ·unfold cM; rw [h2, List.drop_left' (be_length 8 e), List.take_of_length_le (by rw [be_length]; decide), getV, if_pos (be_length 8 m), num_be, Nat.mod_eq_of_lt (by omega), Int.toNat_natCast]

theorem rck_a1 (x : UInt8) (s c : Nat) (t : List UInt8) (ht : t.length = 32) (hx : x.toNat = 0) (hz : s ≠ 0) : Fn Try.prog 9 [.v (aggV (recV x s c t))] (.v (.int .i64 1)) := by
 refine Fn.of Try.func9 rfl (by kernel_rfl) Try.ntmps9 (by simp) (fun w => [(0, .v (aggV (recV x s c t)))]) (fun w => (Start.v rfl Start.nil)) fun w₀ => ?_
 refine GS ?_
 refine TN 0 ?_
 refine RN ?_
 refine ⟨_, _, eff_box (n := 36) (d := 1) (k := 1000001) rfl (by decide), fun b1 hb1 => ?_⟩
 have hBb1 := hb1.1
 refine TL ?_
 refine RA rfl ?_
 refine RN ?_
 refine GS ?_
 refine TL ?_
 refine RS (ok_field field29_1 (by decide) rfl) ?_
 refine RS (ok_field field25_0 (by decide) rfl) ?_
 refine RS (ok_loadV (s := 1000001) (by decide) Try.underlying22 rfl rfl rfl (rfl)) ?_
 refine RBS rfl rfl rfl (.bool false) (by simp [hz]) ?_
 refine RM rfl ?_
 refine RK ?_
 refine RK ?_
 refine RK ?_
 refine RK ?_
 refine RP rfl rfl ?_
 refine RM rfl ?_
 refine RK ?_
 refine RK ?_
 refine RK ?_
 refine RK ?_
 refine RP rfl rfl ?_
 refine RA rfl ?_
 refine RN ?_
 refine A.seq ?_
 refine GS ?_
 refine TL ?_
 refine RS (ok_field field29_0 (by decide) rfl) ?_
 refine RS (ok_loadV (s := 1000001) (by decide) Try.underlying5 rfl rfl rfl (rfl)) ?_
 refine RBS rfl rfl rfl (.bool true) (by simp [hx]) ?_
 refine RM rfl ?_
 refine RQ (ok_move rfl) ?_
 refine RP rfl rfl ?_
 refine RM rfl ?_
 refine RQ (ok_field field29_0 (by decide) rfl) ?_
 refine RQ (ok_loadV (s := 1000001) (by decide) Try.underlying5 rfl rfl rfl (rfl)) ?_
 refine RQ (ok_bin rfl rfl rfl) ?_; refine RZ (.bool false) (by simp; omega) ?_
 refine RP rfl rfl ?_
 refine RM rfl ?_
 refine RQ (ok_field field29_0 (by decide) rfl) ?_
 refine RQ (ok_loadV (s := 1000001) (by decide) Try.underlying5 rfl rfl rfl (rfl)) ?_
 refine RQ (ok_bin rfl rfl rfl) ?_; refine RZ (.bool false) (by simp; omega) ?_
 refine RP rfl rfl ?_
 refine RN ?_
 refine A.sub (KC 35 rfl (KC 1000001 rfl KN)) ?_
 refine A.no rfl ?_
 refine A.skip ?_
 refine EN ?_
 refine GS ?_
 refine TL ?_
 refine RA rfl ?_
 refine RN ?_
 refine A.ret ?_
 exact End.ret1 rfl rfl (by first | exact Le.refl _ | exact Le.old _ _)
theorem rck_a2 (x : UInt8) (s c : Nat) (t : List UInt8) (ht : t.length = 32) (hx : x.toNat = 0) (h0 : s = 0) (hz : c ≠ 0) : Fn Try.prog 9 [.v (aggV (recV x s c t))] (.v (.int .i64 1)) := by
 refine Fn.of Try.func9 rfl (by kernel_rfl) Try.ntmps9 (by simp) (fun w => [(0, .v (aggV (recV x s c t)))]) (fun w => (Start.v rfl Start.nil)) fun w₀ => ?_
 refine GS ?_
 refine TN 0 ?_
 refine RN ?_
 refine ⟨_, _, eff_box (n := 36) (d := 1) (k := 1000001) rfl (by decide), fun b1 hb1 => ?_⟩
 have hBb1 := hb1.1
 refine TL ?_
 refine RA rfl ?_
 refine RN ?_
 refine GS ?_
 refine TL ?_
 refine RS (ok_field field29_1 (by decide) rfl) ?_
 refine RS (ok_field field25_0 (by decide) rfl) ?_
 refine RS (ok_loadV (s := 1000001) (by decide) Try.underlying22 rfl rfl rfl (rfl)) ?_
 refine RBS rfl rfl rfl (.bool true) (by simp [h0]) ?_
 refine RM rfl ?_
 refine RQ (ok_field field29_1 (by decide) rfl) ?_
 refine RQ (ok_field field25_1 (by decide) rfl) ?_
 refine RQ (ok_loadV (s := 1000001) (by decide) Try.underlying23 rfl rfl rfl (rfl)) ?_
 refine RQ (ok_bin rfl rfl rfl) ?_; refine RZ (.bool false) (by simp [hz]) ?_
 refine RP rfl rfl ?_
 refine RM rfl ?_
 refine RK ?_
 refine RK ?_
 refine RK ?_
 refine RK ?_
 refine RP rfl rfl ?_
 refine RA rfl ?_
 refine RN ?_
 refine A.seq ?_
 refine GS ?_
 refine TL ?_
 refine RS (ok_field field29_0 (by decide) rfl) ?_
 refine RS (ok_loadV (s := 1000001) (by decide) Try.underlying5 rfl rfl rfl (rfl)) ?_
 refine RBS rfl rfl rfl (.bool true) (by simp [hx]) ?_
 refine RM rfl ?_
 refine RQ (ok_move rfl) ?_
 refine RP rfl rfl ?_
 refine RM rfl ?_
 refine RQ (ok_field field29_0 (by decide) rfl) ?_
 refine RQ (ok_loadV (s := 1000001) (by decide) Try.underlying5 rfl rfl rfl (rfl)) ?_
 refine RQ (ok_bin rfl rfl rfl) ?_; refine RZ (.bool false) (by simp; omega) ?_
 refine RP rfl rfl ?_
 refine RM rfl ?_
 refine RQ (ok_field field29_0 (by decide) rfl) ?_
 refine RQ (ok_loadV (s := 1000001) (by decide) Try.underlying5 rfl rfl rfl (rfl)) ?_
 refine RQ (ok_bin rfl rfl rfl) ?_; refine RZ (.bool false) (by simp; omega) ?_
 refine RP rfl rfl ?_
 refine RN ?_
 refine A.sub (KC 35 rfl (KC 1000001 rfl KN)) ?_
 refine A.no rfl ?_
 refine A.skip ?_
 refine EN ?_
 refine GS ?_
 refine TL ?_
 refine RA rfl ?_
 refine RN ?_
 refine A.ret ?_
 exact End.ret1 rfl rfl (by first | exact Le.refl _ | exact Le.old _ _)
theorem rck_a3 (x : UInt8) (s c : Nat) (t : List UInt8) (ht : t.length = 32) (hx : x.toNat = 0) (h0 : s = 0) (h1 : c = 0) (hz : t ≠ zD) : Fn Try.prog 9 [.v (aggV (recV x s c t))] (.v (.int .i64 1)) := by
 refine Fn.of Try.func9 rfl (by kernel_rfl) Try.ntmps9 (by simp) (fun w => [(0, .v (aggV (recV x s c t)))]) (fun w => (Start.v rfl Start.nil)) fun w₀ => ?_
 refine GS ?_
 refine TN 0 ?_
 refine RN ?_
 refine ⟨_, _, eff_box (n := 36) (d := 1) (k := 1000001) rfl (by decide), fun b1 hb1 => ?_⟩
 have hBb1 := hb1.1
 refine TL ?_
 refine RA rfl ?_
 refine RN ?_
 refine GS ?_
 refine TL ?_
 refine RS (ok_field field29_1 (by decide) rfl) ?_
 refine RS (ok_field field25_0 (by decide) rfl) ?_
 refine RS (ok_loadV (s := 1000001) (by decide) Try.underlying22 rfl rfl rfl (rfl)) ?_
 refine RBS rfl rfl rfl (.bool true) (by simp [h0]) ?_
 refine RM rfl ?_
 refine RQ (ok_field field29_1 (by decide) rfl) ?_
 refine RQ (ok_field field25_1 (by decide) rfl) ?_
 refine RQ (ok_loadV (s := 1000001) (by decide) Try.underlying23 rfl rfl rfl (rfl)) ?_
 refine RQ (ok_bin rfl rfl rfl) ?_; refine RZ (.bool true) (by simp [h1]) ?_
 refine RP rfl rfl ?_
 refine RM rfl ?_
 refine RQ (ok_field field29_2 (by decide) rfl) ?_
 refine RQ (ok_loadP (s := 1000001) (by decide) Try.underlying27 rfl size27 rfl rfl (by simp [recV, ht]) (rec_tag ht)) ?_
 refine RQ (ok_litP [] Try.underlying27 info5 zero27 (by decide) trivial rfl) ?_; refine RZ (aggV (zD.map byteV)) (by rfl) ?_
 refine RQ (ok_eqlT (n := 4) (decide (t = zD)) flat27 (by decide) (by kernel_rfl) (by kernel_rfl) rfl rfl (kinB ht) (kinB (l := zD) rfl) (decB _ _)) ?_; refine RZ (.bool false) (by simp [hz]) ?_
 refine RP rfl rfl ?_
 refine RA rfl ?_
 refine RN ?_
 refine A.seq ?_
 refine GS ?_
 refine TL ?_
 refine RS (ok_field field29_0 (by decide) rfl) ?_
 refine RS (ok_loadV (s := 1000001) (by decide) Try.underlying5 rfl rfl rfl (rfl)) ?_
 refine RBS rfl rfl rfl (.bool true) (by simp [hx]) ?_
 refine RM rfl ?_
 refine RQ (ok_move rfl) ?_
 refine RP rfl rfl ?_
 refine RM rfl ?_
 refine RQ (ok_field field29_0 (by decide) rfl) ?_
 refine RQ (ok_loadV (s := 1000001) (by decide) Try.underlying5 rfl rfl rfl (rfl)) ?_
 refine RQ (ok_bin rfl rfl rfl) ?_; refine RZ (.bool false) (by simp; omega) ?_
 refine RP rfl rfl ?_
 refine RM rfl ?_
 refine RQ (ok_field field29_0 (by decide) rfl) ?_
 refine RQ (ok_loadV (s := 1000001) (by decide) Try.underlying5 rfl rfl rfl (rfl)) ?_
 refine RQ (ok_bin rfl rfl rfl) ?_; refine RZ (.bool false) (by simp; omega) ?_
 refine RP rfl rfl ?_
 refine RN ?_
 refine A.sub (KC 35 rfl (KC 1000001 rfl KN)) ?_
 refine A.no rfl ?_
 refine A.skip ?_
 refine EN ?_
 refine GS ?_
 refine TL ?_
 refine RA rfl ?_
 refine RN ?_
 refine A.ret ?_
 exact End.ret1 rfl rfl (by first | exact Le.refl _ | exact Le.old _ _)
theorem rck_a4 (x : UInt8) (s c : Nat) (t : List UInt8) (ht : t.length = 32) (hx : x.toNat = 0) (h0 : s = 0) (h1 : c = 0) (hz : t = zD) : Fn Try.prog 9 [.v (aggV (recV x s c t))] (.v (.int .i64 0)) := by
 refine Fn.of Try.func9 rfl (by kernel_rfl) Try.ntmps9 (by simp) (fun w => [(0, .v (aggV (recV x s c t)))]) (fun w => (Start.v rfl Start.nil)) fun w₀ => ?_
 refine GS ?_
 refine TN 0 ?_
 refine RN ?_
 refine ⟨_, _, eff_box (n := 36) (d := 1) (k := 1000001) rfl (by decide), fun b1 hb1 => ?_⟩
 have hBb1 := hb1.1
 refine TL ?_
 refine RA rfl ?_
 refine RN ?_
 refine GS ?_
 refine TL ?_
 refine RS (ok_field field29_1 (by decide) rfl) ?_
 refine RS (ok_field field25_0 (by decide) rfl) ?_
 refine RS (ok_loadV (s := 1000001) (by decide) Try.underlying22 rfl rfl rfl (rfl)) ?_
 refine RBS rfl rfl rfl (.bool true) (by simp [h0]) ?_
 refine RM rfl ?_
 refine RQ (ok_field field29_1 (by decide) rfl) ?_
 refine RQ (ok_field field25_1 (by decide) rfl) ?_
 refine RQ (ok_loadV (s := 1000001) (by decide) Try.underlying23 rfl rfl rfl (rfl)) ?_
 refine RQ (ok_bin rfl rfl rfl) ?_; refine RZ (.bool true) (by simp [h1]) ?_
 refine RP rfl rfl ?_
 refine RM rfl ?_
 refine RQ (ok_field field29_2 (by decide) rfl) ?_
 refine RQ (ok_loadP (s := 1000001) (by decide) Try.underlying27 rfl size27 rfl rfl (by simp [recV, ht]) (rec_tag ht)) ?_
 refine RQ (ok_litP [] Try.underlying27 info5 zero27 (by decide) trivial rfl) ?_; refine RZ (aggV (zD.map byteV)) (by rfl) ?_
 refine RQ (ok_eqlT (n := 4) (decide (t = zD)) flat27 (by decide) (by kernel_rfl) (by kernel_rfl) rfl rfl (kinB ht) (kinB (l := zD) rfl) (decB _ _)) ?_; refine RZ (.bool true) (by simp [hz]) ?_
 refine RP rfl rfl ?_
 refine RA rfl ?_
 refine RN ?_
 refine A.seq ?_
 refine GS ?_
 refine TL ?_
 refine RS (ok_field field29_0 (by decide) rfl) ?_
 refine RS (ok_loadV (s := 1000001) (by decide) Try.underlying5 rfl rfl rfl (rfl)) ?_
 refine RBS rfl rfl rfl (.bool true) (by simp [hx]) ?_
 refine RM rfl ?_
 refine RQ (ok_move rfl) ?_
 refine RP rfl rfl ?_
 refine RM rfl ?_
 refine RK ?_
 refine RK ?_
 refine RK ?_
 refine RP rfl rfl ?_
 refine RM rfl ?_
 refine RK ?_
 refine RK ?_
 refine RK ?_
 refine RP rfl rfl ?_
 refine RN ?_
 refine A.sub (KC 35 rfl (KC 1000001 rfl KN)) ?_
 refine A.yes rfl ?_
 refine GS ?_
 refine TL ?_
 refine RA rfl ?_
 refine RN ?_
 refine A.ret ?_
 refine End.ret_then ?_
 exact End.ret1 rfl rfl (by first | exact Le.refl _ | exact Le.old _ _)
theorem rck_b1 (x : UInt8) (s c : Nat) (t : List UInt8) (ht : t.length = 32) (hx : x.toNat = 1) (hz : s ≠ 0) : Fn Try.prog 9 [.v (aggV (recV x s c t))] (.v (.int .i64 0)) := by
 refine Fn.of Try.func9 rfl (by kernel_rfl) Try.ntmps9 (by simp) (fun w => [(0, .v (aggV (recV x s c t)))]) (fun w => (Start.v rfl Start.nil)) fun w₀ => ?_
 refine GS ?_
 refine TN 0 ?_
 refine RN ?_
 refine ⟨_, _, eff_box (n := 36) (d := 1) (k := 1000001) rfl (by decide), fun b1 hb1 => ?_⟩
 have hBb1 := hb1.1
 refine TL ?_
 refine RA rfl ?_
 refine RN ?_
 refine GS ?_
 refine TL ?_
 refine RS (ok_field field29_1 (by decide) rfl) ?_
 refine RS (ok_field field25_0 (by decide) rfl) ?_
 refine RS (ok_loadV (s := 1000001) (by decide) Try.underlying22 rfl rfl rfl (rfl)) ?_
 refine RBS rfl rfl rfl (.bool false) (by simp [hz]) ?_
 refine RM rfl ?_
 refine RK ?_
 refine RK ?_
 refine RK ?_
 refine RK ?_
 refine RP rfl rfl ?_
 refine RM rfl ?_
 refine RK ?_
 refine RK ?_
 refine RK ?_
 refine RK ?_
 refine RP rfl rfl ?_
 refine RA rfl ?_
 refine RN ?_
 refine A.seq ?_
 refine GS ?_
 refine TL ?_
 refine RS (ok_field field29_0 (by decide) rfl) ?_
 refine RS (ok_loadV (s := 1000001) (by decide) Try.underlying5 rfl rfl rfl (rfl)) ?_
 refine RBS rfl rfl rfl (.bool false) (by simp; omega) ?_
 refine RM rfl ?_
 refine RK ?_
 refine RP rfl rfl ?_
 refine RM rfl ?_
 refine RQ (ok_field field29_0 (by decide) rfl) ?_
 refine RQ (ok_loadV (s := 1000001) (by decide) Try.underlying5 rfl rfl rfl (rfl)) ?_
 refine RQ (ok_bin rfl rfl rfl) ?_; refine RZ (.bool true) (by simp [hx]) ?_
 refine RP rfl rfl ?_
 refine RM rfl ?_
 refine RK ?_
 refine RK ?_
 refine RK ?_
 refine RP rfl rfl ?_
 refine RN ?_
 refine A.sub (KC 35 rfl (KC 1000001 rfl KN)) ?_
 refine A.yes rfl ?_
 refine GS ?_
 refine TL ?_
 refine RA rfl ?_
 refine RN ?_
 refine A.ret ?_
 refine End.ret_then ?_
 exact End.ret1 rfl rfl (by first | exact Le.refl _ | exact Le.old _ _)
theorem rck_b2 (x : UInt8) (s c : Nat) (t : List UInt8) (ht : t.length = 32) (hx : x.toNat = 1) (h0 : s = 0) (hz : c ≠ 0) : Fn Try.prog 9 [.v (aggV (recV x s c t))] (.v (.int .i64 0)) := by
 refine Fn.of Try.func9 rfl (by kernel_rfl) Try.ntmps9 (by simp) (fun w => [(0, .v (aggV (recV x s c t)))]) (fun w => (Start.v rfl Start.nil)) fun w₀ => ?_
 refine GS ?_
 refine TN 0 ?_
 refine RN ?_
 refine ⟨_, _, eff_box (n := 36) (d := 1) (k := 1000001) rfl (by decide), fun b1 hb1 => ?_⟩
 have hBb1 := hb1.1
 refine TL ?_
 refine RA rfl ?_
 refine RN ?_
 refine GS ?_
 refine TL ?_
 refine RS (ok_field field29_1 (by decide) rfl) ?_
 refine RS (ok_field field25_0 (by decide) rfl) ?_
 refine RS (ok_loadV (s := 1000001) (by decide) Try.underlying22 rfl rfl rfl (rfl)) ?_
 refine RBS rfl rfl rfl (.bool true) (by simp [h0]) ?_
 refine RM rfl ?_
 refine RQ (ok_field field29_1 (by decide) rfl) ?_
 refine RQ (ok_field field25_1 (by decide) rfl) ?_
 refine RQ (ok_loadV (s := 1000001) (by decide) Try.underlying23 rfl rfl rfl (rfl)) ?_
 refine RQ (ok_bin rfl rfl rfl) ?_; refine RZ (.bool false) (by simp [hz]) ?_
 refine RP rfl rfl ?_
 refine RM rfl ?_
 refine RK ?_
 refine RK ?_
 refine RK ?_
 refine RK ?_
 refine RP rfl rfl ?_
 refine RA rfl ?_
 refine RN ?_
 refine A.seq ?_
 refine GS ?_
 refine TL ?_
 refine RS (ok_field field29_0 (by decide) rfl) ?_
 refine RS (ok_loadV (s := 1000001) (by decide) Try.underlying5 rfl rfl rfl (rfl)) ?_
 refine RBS rfl rfl rfl (.bool false) (by simp; omega) ?_
 refine RM rfl ?_
 refine RK ?_
 refine RP rfl rfl ?_
 refine RM rfl ?_
 refine RQ (ok_field field29_0 (by decide) rfl) ?_
 refine RQ (ok_loadV (s := 1000001) (by decide) Try.underlying5 rfl rfl rfl (rfl)) ?_
 refine RQ (ok_bin rfl rfl rfl) ?_; refine RZ (.bool true) (by simp [hx]) ?_
 refine RP rfl rfl ?_
 refine RM rfl ?_
 refine RK ?_
 refine RK ?_
 refine RK ?_
 refine RP rfl rfl ?_
 refine RN ?_
 refine A.sub (KC 35 rfl (KC 1000001 rfl KN)) ?_
 refine A.yes rfl ?_
 refine GS ?_
 refine TL ?_
 refine RA rfl ?_
 refine RN ?_
 refine A.ret ?_
 refine End.ret_then ?_
 exact End.ret1 rfl rfl (by first | exact Le.refl _ | exact Le.old _ _)
theorem rck_b3 (x : UInt8) (s c : Nat) (t : List UInt8) (ht : t.length = 32) (hx : x.toNat = 1) (h0 : s = 0) (h1 : c = 0) (hz : t ≠ zD) : Fn Try.prog 9 [.v (aggV (recV x s c t))] (.v (.int .i64 0)) := by
 refine Fn.of Try.func9 rfl (by kernel_rfl) Try.ntmps9 (by simp) (fun w => [(0, .v (aggV (recV x s c t)))]) (fun w => (Start.v rfl Start.nil)) fun w₀ => ?_
 refine GS ?_
 refine TN 0 ?_
 refine RN ?_
 refine ⟨_, _, eff_box (n := 36) (d := 1) (k := 1000001) rfl (by decide), fun b1 hb1 => ?_⟩
 have hBb1 := hb1.1
 refine TL ?_
 refine RA rfl ?_
 refine RN ?_
 refine GS ?_
 refine TL ?_
 refine RS (ok_field field29_1 (by decide) rfl) ?_
 refine RS (ok_field field25_0 (by decide) rfl) ?_
 refine RS (ok_loadV (s := 1000001) (by decide) Try.underlying22 rfl rfl rfl (rfl)) ?_
 refine RBS rfl rfl rfl (.bool true) (by simp [h0]) ?_
 refine RM rfl ?_
 refine RQ (ok_field field29_1 (by decide) rfl) ?_
 refine RQ (ok_field field25_1 (by decide) rfl) ?_
 refine RQ (ok_loadV (s := 1000001) (by decide) Try.underlying23 rfl rfl rfl (rfl)) ?_
 refine RQ (ok_bin rfl rfl rfl) ?_; refine RZ (.bool true) (by simp [h1]) ?_
 refine RP rfl rfl ?_
 refine RM rfl ?_
 refine RQ (ok_field field29_2 (by decide) rfl) ?_
 refine RQ (ok_loadP (s := 1000001) (by decide) Try.underlying27 rfl size27 rfl rfl (by simp [recV, ht]) (rec_tag ht)) ?_
 refine RQ (ok_litP [] Try.underlying27 info5 zero27 (by decide) trivial rfl) ?_; refine RZ (aggV (zD.map byteV)) (by rfl) ?_
 refine RQ (ok_eqlT (n := 4) (decide (t = zD)) flat27 (by decide) (by kernel_rfl) (by kernel_rfl) rfl rfl (kinB ht) (kinB (l := zD) rfl) (decB _ _)) ?_; refine RZ (.bool false) (by simp [hz]) ?_
 refine RP rfl rfl ?_
 refine RA rfl ?_
 refine RN ?_
 refine A.seq ?_
 refine GS ?_
 refine TL ?_
 refine RS (ok_field field29_0 (by decide) rfl) ?_
 refine RS (ok_loadV (s := 1000001) (by decide) Try.underlying5 rfl rfl rfl (rfl)) ?_
 refine RBS rfl rfl rfl (.bool false) (by simp; omega) ?_
 refine RM rfl ?_
 refine RK ?_
 refine RP rfl rfl ?_
 refine RM rfl ?_
 refine RQ (ok_field field29_0 (by decide) rfl) ?_
 refine RQ (ok_loadV (s := 1000001) (by decide) Try.underlying5 rfl rfl rfl (rfl)) ?_
 refine RQ (ok_bin rfl rfl rfl) ?_; refine RZ (.bool true) (by simp [hx]) ?_
 refine RP rfl rfl ?_
 refine RM rfl ?_
 refine RK ?_
 refine RK ?_
 refine RK ?_
 refine RP rfl rfl ?_
 refine RN ?_
 refine A.sub (KC 35 rfl (KC 1000001 rfl KN)) ?_
 refine A.yes rfl ?_
 refine GS ?_
 refine TL ?_
 refine RA rfl ?_
 refine RN ?_
 refine A.ret ?_
 refine End.ret_then ?_
 exact End.ret1 rfl rfl (by first | exact Le.refl _ | exact Le.old _ _)
theorem rck_b4 (x : UInt8) (s c : Nat) (t : List UInt8) (ht : t.length = 32) (hx : x.toNat = 1) (h0 : s = 0) (h1 : c = 0) (hz : t = zD) : Fn Try.prog 9 [.v (aggV (recV x s c t))] (.v (.int .i64 0)) := by
 refine Fn.of Try.func9 rfl (by kernel_rfl) Try.ntmps9 (by simp) (fun w => [(0, .v (aggV (recV x s c t)))]) (fun w => (Start.v rfl Start.nil)) fun w₀ => ?_
 refine GS ?_
 refine TN 0 ?_
 refine RN ?_
 refine ⟨_, _, eff_box (n := 36) (d := 1) (k := 1000001) rfl (by decide), fun b1 hb1 => ?_⟩
 have hBb1 := hb1.1
 refine TL ?_
 refine RA rfl ?_
 refine RN ?_
 refine GS ?_
 refine TL ?_
 refine RS (ok_field field29_1 (by decide) rfl) ?_
 refine RS (ok_field field25_0 (by decide) rfl) ?_
 refine RS (ok_loadV (s := 1000001) (by decide) Try.underlying22 rfl rfl rfl (rfl)) ?_
 refine RBS rfl rfl rfl (.bool true) (by simp [h0]) ?_
 refine RM rfl ?_
 refine RQ (ok_field field29_1 (by decide) rfl) ?_
 refine RQ (ok_field field25_1 (by decide) rfl) ?_
 refine RQ (ok_loadV (s := 1000001) (by decide) Try.underlying23 rfl rfl rfl (rfl)) ?_
 refine RQ (ok_bin rfl rfl rfl) ?_; refine RZ (.bool true) (by simp [h1]) ?_
 refine RP rfl rfl ?_
 refine RM rfl ?_
 refine RQ (ok_field field29_2 (by decide) rfl) ?_
 refine RQ (ok_loadP (s := 1000001) (by decide) Try.underlying27 rfl size27 rfl rfl (by simp [recV, ht]) (rec_tag ht)) ?_
 refine RQ (ok_litP [] Try.underlying27 info5 zero27 (by decide) trivial rfl) ?_; refine RZ (aggV (zD.map byteV)) (by rfl) ?_
 refine RQ (ok_eqlT (n := 4) (decide (t = zD)) flat27 (by decide) (by kernel_rfl) (by kernel_rfl) rfl rfl (kinB ht) (kinB (l := zD) rfl) (decB _ _)) ?_; refine RZ (.bool true) (by simp [hz]) ?_
 refine RP rfl rfl ?_
 refine RA rfl ?_
 refine RN ?_
 refine A.seq ?_
 refine GS ?_
 refine TL ?_
 refine RS (ok_field field29_0 (by decide) rfl) ?_
 refine RS (ok_loadV (s := 1000001) (by decide) Try.underlying5 rfl rfl rfl (rfl)) ?_
 refine RBS rfl rfl rfl (.bool false) (by simp; omega) ?_
 refine RM rfl ?_
 refine RK ?_
 refine RP rfl rfl ?_
 refine RM rfl ?_
 refine RQ (ok_field field29_0 (by decide) rfl) ?_
 refine RQ (ok_loadV (s := 1000001) (by decide) Try.underlying5 rfl rfl rfl (rfl)) ?_
 refine RQ (ok_bin rfl rfl rfl) ?_; refine RZ (.bool true) (by simp [hx]) ?_
 refine RP rfl rfl ?_
 refine RM rfl ?_
 refine RK ?_
 refine RK ?_
 refine RK ?_
 refine RP rfl rfl ?_
 refine RN ?_
 refine A.sub (KC 35 rfl (KC 1000001 rfl KN)) ?_
 refine A.yes rfl ?_
 refine GS ?_
 refine TL ?_
 refine RA rfl ?_
 refine RN ?_
 refine A.ret ?_
 refine End.ret_then ?_
 exact End.ret1 rfl rfl (by first | exact Le.refl _ | exact Le.old _ _)
theorem rck_c1 (x : UInt8) (s c : Nat) (t : List UInt8) (ht : t.length = 32) (hx : x.toNat = 2) (hz : s ≠ 0) : Fn Try.prog 9 [.v (aggV (recV x s c t))] (.v (.int .i64 0)) := by
 refine Fn.of Try.func9 rfl (by kernel_rfl) Try.ntmps9 (by simp) (fun w => [(0, .v (aggV (recV x s c t)))]) (fun w => (Start.v rfl Start.nil)) fun w₀ => ?_
 refine GS ?_
 refine TN 0 ?_
 refine RN ?_
 refine ⟨_, _, eff_box (n := 36) (d := 1) (k := 1000001) rfl (by decide), fun b1 hb1 => ?_⟩
 have hBb1 := hb1.1
 refine TL ?_
 refine RA rfl ?_
 refine RN ?_
 refine GS ?_
 refine TL ?_
 refine RS (ok_field field29_1 (by decide) rfl) ?_
 refine RS (ok_field field25_0 (by decide) rfl) ?_
 refine RS (ok_loadV (s := 1000001) (by decide) Try.underlying22 rfl rfl rfl (rfl)) ?_
 refine RBS rfl rfl rfl (.bool false) (by simp [hz]) ?_
 refine RM rfl ?_
 refine RK ?_
 refine RK ?_
 refine RK ?_
 refine RK ?_
 refine RP rfl rfl ?_
 refine RM rfl ?_
 refine RK ?_
 refine RK ?_
 refine RK ?_
 refine RK ?_
 refine RP rfl rfl ?_
 refine RA rfl ?_
 refine RN ?_
 refine A.seq ?_
 refine GS ?_
 refine TL ?_
 refine RS (ok_field field29_0 (by decide) rfl) ?_
 refine RS (ok_loadV (s := 1000001) (by decide) Try.underlying5 rfl rfl rfl (rfl)) ?_
 refine RBS rfl rfl rfl (.bool false) (by simp; omega) ?_
 refine RM rfl ?_
 refine RK ?_
 refine RP rfl rfl ?_
 refine RM rfl ?_
 refine RQ (ok_field field29_0 (by decide) rfl) ?_
 refine RQ (ok_loadV (s := 1000001) (by decide) Try.underlying5 rfl rfl rfl (rfl)) ?_
 refine RQ (ok_bin rfl rfl rfl) ?_; refine RZ (.bool false) (by simp; omega) ?_
 refine RP rfl rfl ?_
 refine RM rfl ?_
 refine RQ (ok_field field29_0 (by decide) rfl) ?_
 refine RQ (ok_loadV (s := 1000001) (by decide) Try.underlying5 rfl rfl rfl (rfl)) ?_
 refine RQ (ok_bin rfl rfl rfl) ?_; refine RZ (.bool true) (by simp [hx]) ?_
 refine RP rfl rfl ?_
 refine RN ?_
 refine A.sub (KC 35 rfl (KC 1000001 rfl KN)) ?_
 refine A.yes rfl ?_
 refine GS ?_
 refine TL ?_
 refine RA rfl ?_
 refine RN ?_
 refine A.ret ?_
 refine End.ret_then ?_
 exact End.ret1 rfl rfl (by first | exact Le.refl _ | exact Le.old _ _)
theorem rck_c2 (x : UInt8) (s c : Nat) (t : List UInt8) (ht : t.length = 32) (hx : x.toNat = 2) (h0 : s = 0) (hz : c ≠ 0) : Fn Try.prog 9 [.v (aggV (recV x s c t))] (.v (.int .i64 0)) := by
 refine Fn.of Try.func9 rfl (by kernel_rfl) Try.ntmps9 (by simp) (fun w => [(0, .v (aggV (recV x s c t)))]) (fun w => (Start.v rfl Start.nil)) fun w₀ => ?_
 refine GS ?_
 refine TN 0 ?_
 refine RN ?_
 refine ⟨_, _, eff_box (n := 36) (d := 1) (k := 1000001) rfl (by decide), fun b1 hb1 => ?_⟩
 have hBb1 := hb1.1
 refine TL ?_
 refine RA rfl ?_
 refine RN ?_
 refine GS ?_
 refine TL ?_
 refine RS (ok_field field29_1 (by decide) rfl) ?_
 refine RS (ok_field field25_0 (by decide) rfl) ?_
 refine RS (ok_loadV (s := 1000001) (by decide) Try.underlying22 rfl rfl rfl (rfl)) ?_
 refine RBS rfl rfl rfl (.bool true) (by simp [h0]) ?_
 refine RM rfl ?_
 refine RQ (ok_field field29_1 (by decide) rfl) ?_
 refine RQ (ok_field field25_1 (by decide) rfl) ?_
 refine RQ (ok_loadV (s := 1000001) (by decide) Try.underlying23 rfl rfl rfl (rfl)) ?_
 refine RQ (ok_bin rfl rfl rfl) ?_; refine RZ (.bool false) (by simp [hz]) ?_
 refine RP rfl rfl ?_
 refine RM rfl ?_
 refine RK ?_
 refine RK ?_
 refine RK ?_
 refine RK ?_
 refine RP rfl rfl ?_
 refine RA rfl ?_
 refine RN ?_
 refine A.seq ?_
 refine GS ?_
 refine TL ?_
 refine RS (ok_field field29_0 (by decide) rfl) ?_
 refine RS (ok_loadV (s := 1000001) (by decide) Try.underlying5 rfl rfl rfl (rfl)) ?_
 refine RBS rfl rfl rfl (.bool false) (by simp; omega) ?_
 refine RM rfl ?_
 refine RK ?_
 refine RP rfl rfl ?_
 refine RM rfl ?_
 refine RQ (ok_field field29_0 (by decide) rfl) ?_
 refine RQ (ok_loadV (s := 1000001) (by decide) Try.underlying5 rfl rfl rfl (rfl)) ?_
 refine RQ (ok_bin rfl rfl rfl) ?_; refine RZ (.bool false) (by simp; omega) ?_
 refine RP rfl rfl ?_
 refine RM rfl ?_
 refine RQ (ok_field field29_0 (by decide) rfl) ?_
 refine RQ (ok_loadV (s := 1000001) (by decide) Try.underlying5 rfl rfl rfl (rfl)) ?_
 refine RQ (ok_bin rfl rfl rfl) ?_; refine RZ (.bool true) (by simp [hx]) ?_
 refine RP rfl rfl ?_
 refine RN ?_
 refine A.sub (KC 35 rfl (KC 1000001 rfl KN)) ?_
 refine A.yes rfl ?_
 refine GS ?_
 refine TL ?_
 refine RA rfl ?_
 refine RN ?_
 refine A.ret ?_
 refine End.ret_then ?_
 exact End.ret1 rfl rfl (by first | exact Le.refl _ | exact Le.old _ _)
theorem rck_c3 (x : UInt8) (s c : Nat) (t : List UInt8) (ht : t.length = 32) (hx : x.toNat = 2) (h0 : s = 0) (h1 : c = 0) (hz : t ≠ zD) : Fn Try.prog 9 [.v (aggV (recV x s c t))] (.v (.int .i64 0)) := by
 refine Fn.of Try.func9 rfl (by kernel_rfl) Try.ntmps9 (by simp) (fun w => [(0, .v (aggV (recV x s c t)))]) (fun w => (Start.v rfl Start.nil)) fun w₀ => ?_
 refine GS ?_
 refine TN 0 ?_
 refine RN ?_
 refine ⟨_, _, eff_box (n := 36) (d := 1) (k := 1000001) rfl (by decide), fun b1 hb1 => ?_⟩
 have hBb1 := hb1.1
 refine TL ?_
 refine RA rfl ?_
 refine RN ?_
 refine GS ?_
 refine TL ?_
 refine RS (ok_field field29_1 (by decide) rfl) ?_
 refine RS (ok_field field25_0 (by decide) rfl) ?_
 refine RS (ok_loadV (s := 1000001) (by decide) Try.underlying22 rfl rfl rfl (rfl)) ?_
 refine RBS rfl rfl rfl (.bool true) (by simp [h0]) ?_
 refine RM rfl ?_
 refine RQ (ok_field field29_1 (by decide) rfl) ?_
 refine RQ (ok_field field25_1 (by decide) rfl) ?_
 refine RQ (ok_loadV (s := 1000001) (by decide) Try.underlying23 rfl rfl rfl (rfl)) ?_
 refine RQ (ok_bin rfl rfl rfl) ?_; refine RZ (.bool true) (by simp [h1]) ?_
 refine RP rfl rfl ?_
 refine RM rfl ?_
 refine RQ (ok_field field29_2 (by decide) rfl) ?_
 refine RQ (ok_loadP (s := 1000001) (by decide) Try.underlying27 rfl size27 rfl rfl (by simp [recV, ht]) (rec_tag ht)) ?_
 refine RQ (ok_litP [] Try.underlying27 info5 zero27 (by decide) trivial rfl) ?_; refine RZ (aggV (zD.map byteV)) (by rfl) ?_
 refine RQ (ok_eqlT (n := 4) (decide (t = zD)) flat27 (by decide) (by kernel_rfl) (by kernel_rfl) rfl rfl (kinB ht) (kinB (l := zD) rfl) (decB _ _)) ?_; refine RZ (.bool false) (by simp [hz]) ?_
 refine RP rfl rfl ?_
 refine RA rfl ?_
 refine RN ?_
 refine A.seq ?_
 refine GS ?_
 refine TL ?_
 refine RS (ok_field field29_0 (by decide) rfl) ?_
 refine RS (ok_loadV (s := 1000001) (by decide) Try.underlying5 rfl rfl rfl (rfl)) ?_
 refine RBS rfl rfl rfl (.bool false) (by simp; omega) ?_
 refine RM rfl ?_
 refine RK ?_
 refine RP rfl rfl ?_
 refine RM rfl ?_
 refine RQ (ok_field field29_0 (by decide) rfl) ?_
 refine RQ (ok_loadV (s := 1000001) (by decide) Try.underlying5 rfl rfl rfl (rfl)) ?_
 refine RQ (ok_bin rfl rfl rfl) ?_; refine RZ (.bool false) (by simp; omega) ?_
 refine RP rfl rfl ?_
 refine RM rfl ?_
 refine RQ (ok_field field29_0 (by decide) rfl) ?_
 refine RQ (ok_loadV (s := 1000001) (by decide) Try.underlying5 rfl rfl rfl (rfl)) ?_
 refine RQ (ok_bin rfl rfl rfl) ?_; refine RZ (.bool true) (by simp [hx]) ?_
 refine RP rfl rfl ?_
 refine RN ?_
 refine A.sub (KC 35 rfl (KC 1000001 rfl KN)) ?_
 refine A.yes rfl ?_
 refine GS ?_
 refine TL ?_
 refine RA rfl ?_
 refine RN ?_
 refine A.ret ?_
 refine End.ret_then ?_
 exact End.ret1 rfl rfl (by first | exact Le.refl _ | exact Le.old _ _)
theorem rck_c4 (x : UInt8) (s c : Nat) (t : List UInt8) (ht : t.length = 32) (hx : x.toNat = 2) (h0 : s = 0) (h1 : c = 0) (hz : t = zD) : Fn Try.prog 9 [.v (aggV (recV x s c t))] (.v (.int .i64 0)) := by
 refine Fn.of Try.func9 rfl (by kernel_rfl) Try.ntmps9 (by simp) (fun w => [(0, .v (aggV (recV x s c t)))]) (fun w => (Start.v rfl Start.nil)) fun w₀ => ?_
 refine GS ?_
 refine TN 0 ?_
 refine RN ?_
 refine ⟨_, _, eff_box (n := 36) (d := 1) (k := 1000001) rfl (by decide), fun b1 hb1 => ?_⟩
 have hBb1 := hb1.1
 refine TL ?_
 refine RA rfl ?_
 refine RN ?_
 refine GS ?_
 refine TL ?_
 refine RS (ok_field field29_1 (by decide) rfl) ?_
 refine RS (ok_field field25_0 (by decide) rfl) ?_
 refine RS (ok_loadV (s := 1000001) (by decide) Try.underlying22 rfl rfl rfl (rfl)) ?_
 refine RBS rfl rfl rfl (.bool true) (by simp [h0]) ?_
 refine RM rfl ?_
 refine RQ (ok_field field29_1 (by decide) rfl) ?_
 refine RQ (ok_field field25_1 (by decide) rfl) ?_
 refine RQ (ok_loadV (s := 1000001) (by decide) Try.underlying23 rfl rfl rfl (rfl)) ?_
 refine RQ (ok_bin rfl rfl rfl) ?_; refine RZ (.bool true) (by simp [h1]) ?_
 refine RP rfl rfl ?_
 refine RM rfl ?_
 refine RQ (ok_field field29_2 (by decide) rfl) ?_
 refine RQ (ok_loadP (s := 1000001) (by decide) Try.underlying27 rfl size27 rfl rfl (by simp [recV, ht]) (rec_tag ht)) ?_
 refine RQ (ok_litP [] Try.underlying27 info5 zero27 (by decide) trivial rfl) ?_; refine RZ (aggV (zD.map byteV)) (by rfl) ?_
 refine RQ (ok_eqlT (n := 4) (decide (t = zD)) flat27 (by decide) (by kernel_rfl) (by kernel_rfl) rfl rfl (kinB ht) (kinB (l := zD) rfl) (decB _ _)) ?_; refine RZ (.bool true) (by simp [hz]) ?_
 refine RP rfl rfl ?_
 refine RA rfl ?_
 refine RN ?_
 refine A.seq ?_
 refine GS ?_
 refine TL ?_
 refine RS (ok_field field29_0 (by decide) rfl) ?_
 refine RS (ok_loadV (s := 1000001) (by decide) Try.underlying5 rfl rfl rfl (rfl)) ?_
 refine RBS rfl rfl rfl (.bool false) (by simp; omega) ?_
 refine RM rfl ?_
 refine RK ?_
 refine RP rfl rfl ?_
 refine RM rfl ?_
 refine RQ (ok_field field29_0 (by decide) rfl) ?_
 refine RQ (ok_loadV (s := 1000001) (by decide) Try.underlying5 rfl rfl rfl (rfl)) ?_
 refine RQ (ok_bin rfl rfl rfl) ?_; refine RZ (.bool false) (by simp; omega) ?_
 refine RP rfl rfl ?_
 refine RM rfl ?_
 refine RQ (ok_field field29_0 (by decide) rfl) ?_
 refine RQ (ok_loadV (s := 1000001) (by decide) Try.underlying5 rfl rfl rfl (rfl)) ?_
 refine RQ (ok_bin rfl rfl rfl) ?_; refine RZ (.bool true) (by simp [hx]) ?_
 refine RP rfl rfl ?_
 refine RN ?_
 refine A.sub (KC 35 rfl (KC 1000001 rfl KN)) ?_
 refine A.yes rfl ?_
 refine GS ?_
 refine TL ?_
 refine RA rfl ?_
 refine RN ?_
 refine A.ret ?_
 refine End.ret_then ?_
 exact End.ret1 rfl rfl (by first | exact Le.refl _ | exact Le.old _ _)
theorem rck_d1 (x : UInt8) (s c : Nat) (t : List UInt8) (ht : t.length = 32) (hx : 2 < x.toNat) (hz : s ≠ 0) : Fn Try.prog 9 [.v (aggV (recV x s c t))] (.v (.int .i64 1)) := by
 refine Fn.of Try.func9 rfl (by kernel_rfl) Try.ntmps9 (by simp) (fun w => [(0, .v (aggV (recV x s c t)))]) (fun w => (Start.v rfl Start.nil)) fun w₀ => ?_
 refine GS ?_
 refine TN 0 ?_
 refine RN ?_
 refine ⟨_, _, eff_box (n := 36) (d := 1) (k := 1000001) rfl (by decide), fun b1 hb1 => ?_⟩
 have hBb1 := hb1.1
 refine TL ?_
 refine RA rfl ?_
 refine RN ?_
 refine GS ?_
 refine TL ?_
 refine RS (ok_field field29_1 (by decide) rfl) ?_
 refine RS (ok_field field25_0 (by decide) rfl) ?_
 refine RS (ok_loadV (s := 1000001) (by decide) Try.underlying22 rfl rfl rfl (rfl)) ?_
 refine RBS rfl rfl rfl (.bool false) (by simp [hz]) ?_
 refine RM rfl ?_
 refine RK ?_
 refine RK ?_
 refine RK ?_
 refine RK ?_
 refine RP rfl rfl ?_
 refine RM rfl ?_
 refine RK ?_
 refine RK ?_
 refine RK ?_
 refine RK ?_
 refine RP rfl rfl ?_
 refine RA rfl ?_
 refine RN ?_
 refine A.seq ?_
 refine GS ?_
 refine TL ?_
 refine RS (ok_field field29_0 (by decide) rfl) ?_
 refine RS (ok_loadV (s := 1000001) (by decide) Try.underlying5 rfl rfl rfl (rfl)) ?_
 refine RBS rfl rfl rfl (.bool false) (by simp; omega) ?_
 refine RM rfl ?_
 refine RK ?_
 refine RP rfl rfl ?_
 refine RM rfl ?_
 refine RQ (ok_field field29_0 (by decide) rfl) ?_
 refine RQ (ok_loadV (s := 1000001) (by decide) Try.underlying5 rfl rfl rfl (rfl)) ?_
 refine RQ (ok_bin rfl rfl rfl) ?_; refine RZ (.bool false) (by simp; omega) ?_
 refine RP rfl rfl ?_
 refine RM rfl ?_
 refine RQ (ok_field field29_0 (by decide) rfl) ?_
 refine RQ (ok_loadV (s := 1000001) (by decide) Try.underlying5 rfl rfl rfl (rfl)) ?_
 refine RQ (ok_bin rfl rfl rfl) ?_; refine RZ (.bool false) (by simp; omega) ?_
 refine RP rfl rfl ?_
 refine RN ?_
 refine A.sub (KC 35 rfl (KC 1000001 rfl KN)) ?_
 refine A.no rfl ?_
 refine A.skip ?_
 refine EN ?_
 refine GS ?_
 refine TL ?_
 refine RA rfl ?_
 refine RN ?_
 refine A.ret ?_
 exact End.ret1 rfl rfl (by first | exact Le.refl _ | exact Le.old _ _)
theorem rck_d2 (x : UInt8) (s c : Nat) (t : List UInt8) (ht : t.length = 32) (hx : 2 < x.toNat) (h0 : s = 0) (hz : c ≠ 0) : Fn Try.prog 9 [.v (aggV (recV x s c t))] (.v (.int .i64 1)) := by
 refine Fn.of Try.func9 rfl (by kernel_rfl) Try.ntmps9 (by simp) (fun w => [(0, .v (aggV (recV x s c t)))]) (fun w => (Start.v rfl Start.nil)) fun w₀ => ?_
 refine GS ?_
 refine TN 0 ?_
 refine RN ?_
 refine ⟨_, _, eff_box (n := 36) (d := 1) (k := 1000001) rfl (by decide), fun b1 hb1 => ?_⟩
 have hBb1 := hb1.1
 refine TL ?_
 refine RA rfl ?_
 refine RN ?_
 refine GS ?_
 refine TL ?_
 refine RS (ok_field field29_1 (by decide) rfl) ?_
 refine RS (ok_field field25_0 (by decide) rfl) ?_
 refine RS (ok_loadV (s := 1000001) (by decide) Try.underlying22 rfl rfl rfl (rfl)) ?_
 refine RBS rfl rfl rfl (.bool true) (by simp [h0]) ?_
 refine RM rfl ?_
 refine RQ (ok_field field29_1 (by decide) rfl) ?_
 refine RQ (ok_field field25_1 (by decide) rfl) ?_
 refine RQ (ok_loadV (s := 1000001) (by decide) Try.underlying23 rfl rfl rfl (rfl)) ?_
 refine RQ (ok_bin rfl rfl rfl) ?_; refine RZ (.bool false) (by simp [hz]) ?_
 refine RP rfl rfl ?_
 refine RM rfl ?_
 refine RK ?_
 refine RK ?_
 refine RK ?_
 refine RK ?_
 refine RP rfl rfl ?_
 refine RA rfl ?_
 refine RN ?_
 refine A.seq ?_
 refine GS ?_
 refine TL ?_
 refine RS (ok_field field29_0 (by decide) rfl) ?_
 refine RS (ok_loadV (s := 1000001) (by decide) Try.underlying5 rfl rfl rfl (rfl)) ?_
 refine RBS rfl rfl rfl (.bool false) (by simp; omega) ?_
 refine RM rfl ?_
 refine RK ?_
 refine RP rfl rfl ?_
 refine RM rfl ?_
 refine RQ (ok_field field29_0 (by decide) rfl) ?_
 refine RQ (ok_loadV (s := 1000001) (by decide) Try.underlying5 rfl rfl rfl (rfl)) ?_
 refine RQ (ok_bin rfl rfl rfl) ?_; refine RZ (.bool false) (by simp; omega) ?_
 refine RP rfl rfl ?_
 refine RM rfl ?_
 refine RQ (ok_field field29_0 (by decide) rfl) ?_
 refine RQ (ok_loadV (s := 1000001) (by decide) Try.underlying5 rfl rfl rfl (rfl)) ?_
 refine RQ (ok_bin rfl rfl rfl) ?_; refine RZ (.bool false) (by simp; omega) ?_
 refine RP rfl rfl ?_
 refine RN ?_
 refine A.sub (KC 35 rfl (KC 1000001 rfl KN)) ?_
 refine A.no rfl ?_
 refine A.skip ?_
 refine EN ?_
 refine GS ?_
 refine TL ?_
 refine RA rfl ?_
 refine RN ?_
 refine A.ret ?_
 exact End.ret1 rfl rfl (by first | exact Le.refl _ | exact Le.old _ _)
theorem rck_d3 (x : UInt8) (s c : Nat) (t : List UInt8) (ht : t.length = 32) (hx : 2 < x.toNat) (h0 : s = 0) (h1 : c = 0) (hz : t ≠ zD) : Fn Try.prog 9 [.v (aggV (recV x s c t))] (.v (.int .i64 1)) := by
 refine Fn.of Try.func9 rfl (by kernel_rfl) Try.ntmps9 (by simp) (fun w => [(0, .v (aggV (recV x s c t)))]) (fun w => (Start.v rfl Start.nil)) fun w₀ => ?_
 refine GS ?_
 refine TN 0 ?_
 refine RN ?_
 refine ⟨_, _, eff_box (n := 36) (d := 1) (k := 1000001) rfl (by decide), fun b1 hb1 => ?_⟩
 have hBb1 := hb1.1
 refine TL ?_
 refine RA rfl ?_
 refine RN ?_
 refine GS ?_
 refine TL ?_
 refine RS (ok_field field29_1 (by decide) rfl) ?_
 refine RS (ok_field field25_0 (by decide) rfl) ?_
 refine RS (ok_loadV (s := 1000001) (by decide) Try.underlying22 rfl rfl rfl (rfl)) ?_
 refine RBS rfl rfl rfl (.bool true) (by simp [h0]) ?_
 refine RM rfl ?_
 refine RQ (ok_field field29_1 (by decide) rfl) ?_
 refine RQ (ok_field field25_1 (by decide) rfl) ?_
 refine RQ (ok_loadV (s := 1000001) (by decide) Try.underlying23 rfl rfl rfl (rfl)) ?_
 refine RQ (ok_bin rfl rfl rfl) ?_; refine RZ (.bool true) (by simp [h1]) ?_
 refine RP rfl rfl ?_
 refine RM rfl ?_
 refine RQ (ok_field field29_2 (by decide) rfl) ?_
 refine RQ (ok_loadP (s := 1000001) (by decide) Try.underlying27 rfl size27 rfl rfl (by simp [recV, ht]) (rec_tag ht)) ?_
 refine RQ (ok_litP [] Try.underlying27 info5 zero27 (by decide) trivial rfl) ?_; refine RZ (aggV (zD.map byteV)) (by rfl) ?_
 refine RQ (ok_eqlT (n := 4) (decide (t = zD)) flat27 (by decide) (by kernel_rfl) (by kernel_rfl) rfl rfl (kinB ht) (kinB (l := zD) rfl) (decB _ _)) ?_; refine RZ (.bool false) (by simp [hz]) ?_
 refine RP rfl rfl ?_
 refine RA rfl ?_
 refine RN ?_
 refine A.seq ?_
 refine GS ?_
 refine TL ?_
 refine RS (ok_field field29_0 (by decide) rfl) ?_
 refine RS (ok_loadV (s := 1000001) (by decide) Try.underlying5 rfl rfl rfl (rfl)) ?_
 refine RBS rfl rfl rfl (.bool false) (by simp; omega) ?_
 refine RM rfl ?_
 refine RK ?_
 refine RP rfl rfl ?_
 refine RM rfl ?_
 refine RQ (ok_field field29_0 (by decide) rfl) ?_
 refine RQ (ok_loadV (s := 1000001) (by decide) Try.underlying5 rfl rfl rfl (rfl)) ?_
 refine RQ (ok_bin rfl rfl rfl) ?_; refine RZ (.bool false) (by simp; omega) ?_
 refine RP rfl rfl ?_
 refine RM rfl ?_
 refine RQ (ok_field field29_0 (by decide) rfl) ?_
 refine RQ (ok_loadV (s := 1000001) (by decide) Try.underlying5 rfl rfl rfl (rfl)) ?_
 refine RQ (ok_bin rfl rfl rfl) ?_; refine RZ (.bool false) (by simp; omega) ?_
 refine RP rfl rfl ?_
 refine RN ?_
 refine A.sub (KC 35 rfl (KC 1000001 rfl KN)) ?_
 refine A.no rfl ?_
 refine A.skip ?_
 refine EN ?_
 refine GS ?_
 refine TL ?_
 refine RA rfl ?_
 refine RN ?_
 refine A.ret ?_
 exact End.ret1 rfl rfl (by first | exact Le.refl _ | exact Le.old _ _)
theorem rck_d4 (x : UInt8) (s c : Nat) (t : List UInt8) (ht : t.length = 32) (hx : 2 < x.toNat) (h0 : s = 0) (h1 : c = 0) (hz : t = zD) : Fn Try.prog 9 [.v (aggV (recV x s c t))] (.v (.int .i64 1)) := by
 refine Fn.of Try.func9 rfl (by kernel_rfl) Try.ntmps9 (by simp) (fun w => [(0, .v (aggV (recV x s c t)))]) (fun w => (Start.v rfl Start.nil)) fun w₀ => ?_
 refine GS ?_
 refine TN 0 ?_
 refine RN ?_
 refine ⟨_, _, eff_box (n := 36) (d := 1) (k := 1000001) rfl (by decide), fun b1 hb1 => ?_⟩
 have hBb1 := hb1.1
 refine TL ?_
 refine RA rfl ?_
 refine RN ?_
 refine GS ?_
 refine TL ?_
 refine RS (ok_field field29_1 (by decide) rfl) ?_
 refine RS (ok_field field25_0 (by decide) rfl) ?_
 refine RS (ok_loadV (s := 1000001) (by decide) Try.underlying22 rfl rfl rfl (rfl)) ?_
 refine RBS rfl rfl rfl (.bool true) (by simp [h0]) ?_
 refine RM rfl ?_
 refine RQ (ok_field field29_1 (by decide) rfl) ?_
 refine RQ (ok_field field25_1 (by decide) rfl) ?_
 refine RQ (ok_loadV (s := 1000001) (by decide) Try.underlying23 rfl rfl rfl (rfl)) ?_
 refine RQ (ok_bin rfl rfl rfl) ?_; refine RZ (.bool true) (by simp [h1]) ?_
 refine RP rfl rfl ?_
 refine RM rfl ?_
 refine RQ (ok_field field29_2 (by decide) rfl) ?_
 refine RQ (ok_loadP (s := 1000001) (by decide) Try.underlying27 rfl size27 rfl rfl (by simp [recV, ht]) (rec_tag ht)) ?_
 refine RQ (ok_litP [] Try.underlying27 info5 zero27 (by decide) trivial rfl) ?_; refine RZ (aggV (zD.map byteV)) (by rfl) ?_
 refine RQ (ok_eqlT (n := 4) (decide (t = zD)) flat27 (by decide) (by kernel_rfl) (by kernel_rfl) rfl rfl (kinB ht) (kinB (l := zD) rfl) (decB _ _)) ?_; refine RZ (.bool true) (by simp [hz]) ?_
 refine RP rfl rfl ?_
 refine RA rfl ?_
 refine RN ?_
 refine A.seq ?_
 refine GS ?_
 refine TL ?_
 refine RS (ok_field field29_0 (by decide) rfl) ?_
 refine RS (ok_loadV (s := 1000001) (by decide) Try.underlying5 rfl rfl rfl (rfl)) ?_
 refine RBS rfl rfl rfl (.bool false) (by simp; omega) ?_
 refine RM rfl ?_
 refine RK ?_
 refine RP rfl rfl ?_
 refine RM rfl ?_
 refine RQ (ok_field field29_0 (by decide) rfl) ?_
 refine RQ (ok_loadV (s := 1000001) (by decide) Try.underlying5 rfl rfl rfl (rfl)) ?_
 refine RQ (ok_bin rfl rfl rfl) ?_; refine RZ (.bool false) (by simp; omega) ?_
 refine RP rfl rfl ?_
 refine RM rfl ?_
 refine RQ (ok_field field29_0 (by decide) rfl) ?_
 refine RQ (ok_loadV (s := 1000001) (by decide) Try.underlying5 rfl rfl rfl (rfl)) ?_
 refine RQ (ok_bin rfl rfl rfl) ?_; refine RZ (.bool false) (by simp; omega) ?_
 refine RP rfl rfl ?_
 refine RN ?_
 refine A.sub (KC 35 rfl (KC 1000001 rfl KN)) ?_
 refine A.no rfl ?_
 refine A.skip ?_
 refine EN ?_
 refine GS ?_
 refine TL ?_
 refine RA rfl ?_
 refine RN ?_
 refine A.ret ?_
 exact End.ret1 rfl rfl (by first | exact Le.refl _ | exact Le.old _ _)
theorem refCheckR_fn (x : UInt8) (s c : Nat) (t : List UInt8) (ht : t.length = 32) : Fn Try.prog 9 [.v (aggV (recV x s c t))] (.v (.int .i64 (ckR x s c t))) := by
 by_cases hz : s = 0 ∧ c = 0 ∧ t = zD
 ·by_cases hx : x.toNat = 0
  ·rw [show ckR x s c t = 0 from ckR_ok (by unfold BadR; exact fun h => h.elim (fun h => by omega) fun h => h.2 hz)]; exact rck_a4 x s c t ht hx hz.1 hz.2.1 hz.2.2
  by_cases hx : x.toNat = 1
  ·rw [show ckR x s c t = 0 from ckR_ok (by unfold BadR; omega)]; exact rck_b4 x s c t ht hx hz.1 hz.2.1 hz.2.2
  by_cases hx : x.toNat = 2
  ·rw [show ckR x s c t = 0 from ckR_ok (by unfold BadR; omega)]; exact rck_c4 x s c t ht hx hz.1 hz.2.1 hz.2.2
  ·rw [show ckR x s c t = 1 from ckR_bad (by unfold BadR; omega)]; exact rck_d4 x s c t ht (by omega) hz.1 hz.2.1 hz.2.2
 ·by_cases h0 : s = 0
  ·by_cases h1 : c = 0
   ·have h2 : t ≠ zD := fun h => hz ⟨h0, h1, h⟩
    by_cases hx : x.toNat = 0
    ·rw [show ckR x s c t = 1 from ckR_bad (.inr ⟨hx, hz⟩)]; exact rck_a3 x s c t ht hx h0 h1 h2
    by_cases hx : x.toNat = 1
    ·rw [show ckR x s c t = 0 from ckR_ok (by unfold BadR; omega)]; exact rck_b3 x s c t ht hx h0 h1 h2
    by_cases hx : x.toNat = 2
    ·rw [show ckR x s c t = 0 from ckR_ok (by unfold BadR; omega)]; exact rck_c3 x s c t ht hx h0 h1 h2
    ·rw [show ckR x s c t = 1 from ckR_bad (by unfold BadR; omega)]; exact rck_d3 x s c t ht (by omega) h0 h1 h2
   ·by_cases hx : x.toNat = 0
    ·rw [show ckR x s c t = 1 from ckR_bad (.inr ⟨hx, hz⟩)]; exact rck_a2 x s c t ht hx h0 h1
    by_cases hx : x.toNat = 1
    ·rw [show ckR x s c t = 0 from ckR_ok (by unfold BadR; omega)]; exact rck_b2 x s c t ht hx h0 h1
    by_cases hx : x.toNat = 2
    ·rw [show ckR x s c t = 0 from ckR_ok (by unfold BadR; omega)]; exact rck_c2 x s c t ht hx h0 h1
    ·rw [show ckR x s c t = 1 from ckR_bad (by unfold BadR; omega)]; exact rck_d2 x s c t ht (by omega) h0 h1
  ·by_cases hx : x.toNat = 0
   ·rw [show ckR x s c t = 1 from ckR_bad (.inr ⟨hx, hz⟩)]; exact rck_a1 x s c t ht hx h0
   by_cases hx : x.toNat = 1
   ·rw [show ckR x s c t = 0 from ckR_ok (by unfold BadR; omega)]; exact rck_b1 x s c t ht hx h0
   by_cases hx : x.toNat = 2
   ·rw [show ckR x s c t = 0 from ckR_ok (by unfold BadR; omega)]; exact rck_c1 x s c t ht hx h0
   ·rw [show ckR x s c t = 1 from ckR_bad (by unfold BadR; omega)]; exact rck_d1 x s c t ht (by omega) h0
theorem eck_a3 (x : UInt8) (t : List UInt8) (ht : t.length = 32) (hx : x.toNat = 0) (hz : t ≠ zD) : Fn Try.prog 16 [.v (aggV (entV x t))] (.v (.int .i64 1)) := by
 refine Fn.of Try.func16 rfl (by kernel_rfl) Try.ntmps16 (by simp) (fun w => [(0, .v (aggV (entV x t)))]) (fun w => (Start.v rfl Start.nil)) fun w₀ => ?_
 refine GS ?_
 refine TN 0 ?_
 refine RN ?_
 refine ⟨_, _, eff_box (n := 22) (d := 1) (k := 1000001) rfl (by decide), fun b1 hb1 => ?_⟩
 have hBb1 := hb1.1
 refine TL ?_
 refine RA rfl ?_
 refine RN ?_
 refine A.seq ?_
 refine GS ?_
 refine TL ?_
 refine RS (ok_field field43_0 (by decide) rfl) ?_
 refine RS (ok_loadV (s := 1000001) (by decide) Try.underlying5 rfl rfl rfl (rfl)) ?_
 refine RBS rfl rfl rfl (.bool true) (by simp [hx]) ?_
 refine RM rfl ?_
 refine RQ (ok_field field43_1 (by decide) rfl) ?_
 refine RQ (ok_loadP (s := 1000001) (by decide) Try.underlying27 rfl size27 rfl rfl (by simp [entV, ht]) (ent_tag ht)) ?_
 refine RQ (ok_litP [] Try.underlying27 info5 zero27 (by decide) trivial rfl) ?_; refine RZ (aggV (zD.map byteV)) (by rfl) ?_
 refine RQ (ok_eqlT (n := 4) (decide (t = zD)) flat27 (by decide) (by kernel_rfl) (by kernel_rfl) rfl rfl (kinB ht) (kinB (l := zD) rfl) (decB _ _)) ?_; refine RZ (.bool false) (by simp [hz]) ?_
 refine RP rfl rfl ?_
 refine RM rfl ?_
 refine RQ (ok_field field43_0 (by decide) rfl) ?_
 refine RQ (ok_loadV (s := 1000001) (by decide) Try.underlying5 rfl rfl rfl (rfl)) ?_
 refine RQ (ok_bin rfl rfl rfl) ?_; refine RZ (.bool false) (by simp; omega) ?_
 refine RP rfl rfl ?_
 refine RM rfl ?_
 refine RQ (ok_field field43_0 (by decide) rfl) ?_
 refine RQ (ok_loadV (s := 1000001) (by decide) Try.underlying5 rfl rfl rfl (rfl)) ?_
 refine RQ (ok_bin rfl rfl rfl) ?_; refine RZ (.bool false) (by simp; omega) ?_
 refine RP rfl rfl ?_
 refine RN ?_
 refine A.no rfl ?_
 refine A.skip ?_
 refine EN ?_
 refine GS ?_
 refine TL ?_
 refine RA rfl ?_
 refine RN ?_
 refine A.ret ?_
 exact End.ret1 rfl rfl (by first | exact Le.refl _ | exact Le.old _ _)
theorem eck_a4 (x : UInt8) (t : List UInt8) (ht : t.length = 32) (hx : x.toNat = 0) (hz : t = zD) : Fn Try.prog 16 [.v (aggV (entV x t))] (.v (.int .i64 0)) := by
 refine Fn.of Try.func16 rfl (by kernel_rfl) Try.ntmps16 (by simp) (fun w => [(0, .v (aggV (entV x t)))]) (fun w => (Start.v rfl Start.nil)) fun w₀ => ?_
 refine GS ?_
 refine TN 0 ?_
 refine RN ?_
 refine ⟨_, _, eff_box (n := 22) (d := 1) (k := 1000001) rfl (by decide), fun b1 hb1 => ?_⟩
 have hBb1 := hb1.1
 refine TL ?_
 refine RA rfl ?_
 refine RN ?_
 refine A.seq ?_
 refine GS ?_
 refine TL ?_
 refine RS (ok_field field43_0 (by decide) rfl) ?_
 refine RS (ok_loadV (s := 1000001) (by decide) Try.underlying5 rfl rfl rfl (rfl)) ?_
 refine RBS rfl rfl rfl (.bool true) (by simp [hx]) ?_
 refine RM rfl ?_
 refine RQ (ok_field field43_1 (by decide) rfl) ?_
 refine RQ (ok_loadP (s := 1000001) (by decide) Try.underlying27 rfl size27 rfl rfl (by simp [entV, ht]) (ent_tag ht)) ?_
 refine RQ (ok_litP [] Try.underlying27 info5 zero27 (by decide) trivial rfl) ?_; refine RZ (aggV (zD.map byteV)) (by rfl) ?_
 refine RQ (ok_eqlT (n := 4) (decide (t = zD)) flat27 (by decide) (by kernel_rfl) (by kernel_rfl) rfl rfl (kinB ht) (kinB (l := zD) rfl) (decB _ _)) ?_; refine RZ (.bool true) (by simp [hz]) ?_
 refine RP rfl rfl ?_
 refine RM rfl ?_
 refine RK ?_
 refine RK ?_
 refine RK ?_
 refine RP rfl rfl ?_
 refine RM rfl ?_
 refine RK ?_
 refine RK ?_
 refine RK ?_
 refine RP rfl rfl ?_
 refine RN ?_
 refine A.yes rfl ?_
 refine GS ?_
 refine TL ?_
 refine RA rfl ?_
 refine RN ?_
 refine A.ret ?_
 refine End.ret_then ?_
 exact End.ret1 rfl rfl (by first | exact Le.refl _ | exact Le.old _ _)
theorem eck_b (x : UInt8) (t : List UInt8) (ht : t.length = 32) (hx : x.toNat = 1) : Fn Try.prog 16 [.v (aggV (entV x t))] (.v (.int .i64 0)) := by
 refine Fn.of Try.func16 rfl (by kernel_rfl) Try.ntmps16 (by simp) (fun w => [(0, .v (aggV (entV x t)))]) (fun w => (Start.v rfl Start.nil)) fun w₀ => ?_
 refine GS ?_
 refine TN 0 ?_
 refine RN ?_
 refine ⟨_, _, eff_box (n := 22) (d := 1) (k := 1000001) rfl (by decide), fun b1 hb1 => ?_⟩
 have hBb1 := hb1.1
 refine TL ?_
 refine RA rfl ?_
 refine RN ?_
 refine A.seq ?_
 refine GS ?_
 refine TL ?_
 refine RS (ok_field field43_0 (by decide) rfl) ?_
 refine RS (ok_loadV (s := 1000001) (by decide) Try.underlying5 rfl rfl rfl (rfl)) ?_
 refine RBS rfl rfl rfl (.bool false) (by simp; omega) ?_
 refine RM rfl ?_
 refine RK ?_
 refine RK ?_
 refine RK ?_
 refine RK ?_
 refine RP rfl rfl ?_
 refine RM rfl ?_
 refine RQ (ok_field field43_0 (by decide) rfl) ?_
 refine RQ (ok_loadV (s := 1000001) (by decide) Try.underlying5 rfl rfl rfl (rfl)) ?_
 refine RQ (ok_bin rfl rfl rfl) ?_; refine RZ (.bool true) (by simp [hx]) ?_
 refine RP rfl rfl ?_
 refine RM rfl ?_
 refine RK ?_
 refine RK ?_
 refine RK ?_
 refine RP rfl rfl ?_
 refine RN ?_
 refine A.yes rfl ?_
 refine GS ?_
 refine TL ?_
 refine RA rfl ?_
 refine RN ?_
 refine A.ret ?_
 refine End.ret_then ?_
 exact End.ret1 rfl rfl (by first | exact Le.refl _ | exact Le.old _ _)
theorem eck_c (x : UInt8) (t : List UInt8) (ht : t.length = 32) (hx : x.toNat = 2) : Fn Try.prog 16 [.v (aggV (entV x t))] (.v (.int .i64 0)) := by
 refine Fn.of Try.func16 rfl (by kernel_rfl) Try.ntmps16 (by simp) (fun w => [(0, .v (aggV (entV x t)))]) (fun w => (Start.v rfl Start.nil)) fun w₀ => ?_
 refine GS ?_
 refine TN 0 ?_
 refine RN ?_
 refine ⟨_, _, eff_box (n := 22) (d := 1) (k := 1000001) rfl (by decide), fun b1 hb1 => ?_⟩
 have hBb1 := hb1.1
 refine TL ?_
 refine RA rfl ?_
 refine RN ?_
 refine A.seq ?_
 refine GS ?_
 refine TL ?_
 refine RS (ok_field field43_0 (by decide) rfl) ?_
 refine RS (ok_loadV (s := 1000001) (by decide) Try.underlying5 rfl rfl rfl (rfl)) ?_
 refine RBS rfl rfl rfl (.bool false) (by simp; omega) ?_
 refine RM rfl ?_
 refine RK ?_
 refine RK ?_
 refine RK ?_
 refine RK ?_
 refine RP rfl rfl ?_
 refine RM rfl ?_
 refine RQ (ok_field field43_0 (by decide) rfl) ?_
 refine RQ (ok_loadV (s := 1000001) (by decide) Try.underlying5 rfl rfl rfl (rfl)) ?_
 refine RQ (ok_bin rfl rfl rfl) ?_; refine RZ (.bool false) (by simp; omega) ?_
 refine RP rfl rfl ?_
 refine RM rfl ?_
 refine RQ (ok_field field43_0 (by decide) rfl) ?_
 refine RQ (ok_loadV (s := 1000001) (by decide) Try.underlying5 rfl rfl rfl (rfl)) ?_
 refine RQ (ok_bin rfl rfl rfl) ?_; refine RZ (.bool true) (by simp [hx]) ?_
 refine RP rfl rfl ?_
 refine RN ?_
 refine A.yes rfl ?_
 refine GS ?_
 refine TL ?_
 refine RA rfl ?_
 refine RN ?_
 refine A.ret ?_
 refine End.ret_then ?_
 exact End.ret1 rfl rfl (by first | exact Le.refl _ | exact Le.old _ _)
theorem eck_d (x : UInt8) (t : List UInt8) (ht : t.length = 32) (hx : 2 < x.toNat) : Fn Try.prog 16 [.v (aggV (entV x t))] (.v (.int .i64 1)) := by
 refine Fn.of Try.func16 rfl (by kernel_rfl) Try.ntmps16 (by simp) (fun w => [(0, .v (aggV (entV x t)))]) (fun w => (Start.v rfl Start.nil)) fun w₀ => ?_
 refine GS ?_
 refine TN 0 ?_
 refine RN ?_
 refine ⟨_, _, eff_box (n := 22) (d := 1) (k := 1000001) rfl (by decide), fun b1 hb1 => ?_⟩
 have hBb1 := hb1.1
 refine TL ?_
 refine RA rfl ?_
 refine RN ?_
 refine A.seq ?_
 refine GS ?_
 refine TL ?_
 refine RS (ok_field field43_0 (by decide) rfl) ?_
 refine RS (ok_loadV (s := 1000001) (by decide) Try.underlying5 rfl rfl rfl (rfl)) ?_
 refine RBS rfl rfl rfl (.bool false) (by simp; omega) ?_
 refine RM rfl ?_
 refine RK ?_
 refine RK ?_
 refine RK ?_
 refine RK ?_
 refine RP rfl rfl ?_
 refine RM rfl ?_
 refine RQ (ok_field field43_0 (by decide) rfl) ?_
 refine RQ (ok_loadV (s := 1000001) (by decide) Try.underlying5 rfl rfl rfl (rfl)) ?_
 refine RQ (ok_bin rfl rfl rfl) ?_; refine RZ (.bool false) (by simp; omega) ?_
 refine RP rfl rfl ?_
 refine RM rfl ?_
 refine RQ (ok_field field43_0 (by decide) rfl) ?_
 refine RQ (ok_loadV (s := 1000001) (by decide) Try.underlying5 rfl rfl rfl (rfl)) ?_
 refine RQ (ok_bin rfl rfl rfl) ?_; refine RZ (.bool false) (by simp; omega) ?_
 refine RP rfl rfl ?_
 refine RN ?_
 refine A.no rfl ?_
 refine A.skip ?_
 refine EN ?_
 refine GS ?_
 refine TL ?_
 refine RA rfl ?_
 refine RN ?_
 refine A.ret ?_
 exact End.ret1 rfl rfl (by first | exact Le.refl _ | exact Le.old _ _)
theorem refCheckE_fn (x : UInt8) (t : List UInt8) (ht : t.length = 32) : Fn Try.prog 16 [.v (aggV (entV x t))] (.v (.int .i64 (ckE x t))) := by
 by_cases hx : x.toNat = 0
 ·by_cases hz : t = zD
  ·rw [show ckE x t = 0 from ckE_ok (by unfold BadE; simp [hz, hx])]; exact eck_a4 x t ht hx hz
  ·rw [show ckE x t = 1 from ckE_bad (.inr ⟨hx, hz⟩)]; exact eck_a3 x t ht hx hz
 by_cases hx : x.toNat = 1
 ·rw [show ckE x t = 0 from ckE_ok (by unfold BadE; omega)]; exact eck_b x t ht hx
 by_cases hx : x.toNat = 2
 ·rw [show ckE x t = 0 from ckE_ok (by unfold BadE; omega)]; exact eck_c x t ht hx
 ·rw [show ckE x t = 1 from ckE_bad (by unfold BadE; omega)]; exact eck_d x t ht (by omega)
set_option maxHeartbeats 1000000 in
theorem refRecord_fn (x : UInt8) (s c : Nat) (t : List UInt8) (ht : t.length = 32) (hs : s < 4294967296) (hc : c < 18446744073709551616)  : Fn Try.prog 15 [.v (aggV (recV x s c t))] (byt (recL x s c t)) := by
 refine Fn.of Try.func15 rfl (by kernel_rfl) Try.ntmps15 (by simp) (fun w => [(0, .v (aggV (recV x s c t)))]) (fun w => (Start.v rfl Start.nil)) fun w₀ => ?_
 refine GS ?_
 refine TN 0 ?_
 refine RN ?_
 refine ⟨_, _, eff_box (n := 13) (d := 1) (k := 1000001) rfl (by decide), fun b1 hb1 => ?_⟩
 have hBb1 := hb1.1
 refine TL ?_
 refine RA rfl ?_
 refine RN ?_
 refine GD ?_
 refine TD 9 ?_
 refine RS (ok_field field29_0 (by decide) rfl) ?_
 refine RS (ok_loadV (s := 1000001) (by decide) Try.underlying5 rfl rfl rfl (rfl)) ?_
 refine RS (ok_build [.v (byteV x)] Try.underlying31 info5 rfl (by decide) (by decide) rfl ⟨rfl, rfl, trivial⟩ (fun d hd w x h => by simp only [List.mem_cons, List.not_mem_nil, or_false] at hd; rcases hd with rfl; exact v_one rfl h)) ?_
 refine RS (ok_field field29_1 (by decide) rfl) ?_
 refine RS (ok_loadP (s := 1000001) (by decide) Try.underlying25 rfl size25 rfl rfl (by simp [recV]) (rfl)) ?_
 refine RS (ok_call (ref8Put_fn s c hs hc) (A1 rfl)) ?_
 refine RS (ok_appendFull (l := [x]) (m := nonceL s c) Try.underlying31 info5 (by decide) rfl rfl (Le.eq (by rfl)) rfl (Le.refl _) (Nat.succ_pos _) (by rw [nonceL_length]; decide) (by simp only [nonceL_length, List.length_cons, List.length_nil]; omega)) ?_
 refine RS (ok_field field29_2 (by decide) rfl) ?_
 refine RS (OpOk.fact (ok_sliceX (l := 0) (h := 32) (m := 32) Try.underlying27 info5 rfl (.inr ⟨rfl, rfl⟩) (.inr ⟨rfl, rfl, rfl⟩) (.inr ⟨rfl, rfl⟩) (by decide) (by decide) (by decide) (.inl (by decide))) (d := byt t) (s := 1000001) (by decide) rfl (slice_byt t ht.symm (by decide) (by decide) (rec_tag ht))) ?_
 refine RN ?_
 refine ⟨_, eff_appendS (vs := t.map byteV) Try.underlying31 info5 (by decide) rfl rfl rfl (Le.eq (byt_vals _)) (by simp [byteV, Value.oneCell']) (by simp only [List.length_map, nonceL_length, ht, List.length_cons, List.length_nil]; omega) (by decide) (fun g hg => (LT 1000001 rfl LN)), ?_⟩
 refine TL ?_
 refine RA rfl ?_
 refine RN ?_
 refine A.sub (KE 2 rfl (show own w₀.heap.size 5 _ _ = own w₀.heap.size 5 (1 + 12 + 32) (([x] ++ nonceL s c).map byteV ++ t.map byteV) from by rw [nonceL_length, List.length_map, ht]; rfl) (KC 1000001 rfl KN)) ?_
 refine A.ret ?_
 exact End.ret1 rfl rfl ((Le.eq (by rw [← List.map_append]; rfl)).trans (own_byt (B := w₀.heap.size) (e := 5) (n := 1 + 12 + 32) (l := recL x s c t) (recL_len x s c ht).symm))
theorem refEntry_fn (x : UInt8) (t : List UInt8) (ht : t.length = 32)  : Fn Try.prog 20 [.v (aggV (entV x t))] (byt (entL x t)) := by
 refine Fn.of Try.func20 rfl (by kernel_rfl) Try.ntmps20 (by simp) (fun w => [(0, .v (aggV (entV x t)))]) (fun w => (Start.v rfl Start.nil)) fun w₀ => ?_
 refine GS ?_
 refine TN 0 ?_
 refine RN ?_
 refine ⟨_, _, eff_box (n := 9) (d := 1) (k := 1000001) rfl (by decide), fun b1 hb1 => ?_⟩
 have hBb1 := hb1.1
 refine TL ?_
 refine RA rfl ?_
 refine RN ?_
 refine GD ?_
 refine TL ?_
 refine RS (ok_field field43_0 (by decide) rfl) ?_
 refine RS (ok_loadV (s := 1000001) (by decide) Try.underlying5 rfl rfl rfl (rfl)) ?_
 refine RS (ok_build [.v (byteV x)] Try.underlying31 info5 rfl (by decide) (by decide) rfl ⟨rfl, rfl, trivial⟩ (fun d hd w x h => by simp only [List.mem_cons, List.not_mem_nil, or_false] at hd; rcases hd with rfl; exact v_one rfl h)) ?_
 refine RS (ok_field field43_1 (by decide) rfl) ?_
 refine RS (OpOk.fact (ok_sliceX (l := 0) (h := 32) (m := 32) Try.underlying27 info5 rfl (.inr ⟨rfl, rfl⟩) (.inr ⟨rfl, rfl, rfl⟩) (.inr ⟨rfl, rfl⟩) (by decide) (by decide) (by decide) (.inl (by decide))) (d := byt t) (s := 1000001) (by decide) rfl (slice_byt t ht.symm (by decide) (by decide) (ent_tag ht))) ?_
 refine RS (ok_appendFull (l := [x]) (m := t) Try.underlying31 info5 (by decide) rfl rfl (Le.eq (by rfl)) rfl (Le.refl _) (Nat.succ_pos _) (by omega) (by simp only [ht, List.length_cons, List.length_nil]; omega)) ?_
 refine RA rfl ?_
 refine RN ?_
 refine A.ret ?_
 exact End.ret1 rfl rfl (own_byt (B := w₀.heap.size) (e := 5) (n := [x].length + t.length) (l := entL x t) (by rw [entL_len x ht, ht]; rfl))
set_option maxHeartbeats 1000000 in
theorem refCell_fn (t : List UInt8) (ht : t.length = 32) (e m : Nat) (he : e < 18446744073709551616) (hm : m < 18446744073709551616)  : Fn Try.prog 23 [.v (aggV (celV t e m))] (byt (celL t e m)) := by
 refine Fn.of Try.func23 rfl (by kernel_rfl) Try.ntmps23 (by simp) (fun w => [(0, .v (aggV (celV t e m)))]) (fun w => (Start.v rfl Start.nil)) fun w₀ => ?_
 refine GS ?_
 refine TN 0 ?_
 refine RN ?_
 refine ⟨_, _, eff_box (n := 17) (d := 1) (k := 1000001) rfl (by decide), fun b1 hb1 => ?_⟩
 have hBb1 := hb1.1
 refine TL ?_
 refine RA rfl ?_
 refine RN ?_
 refine GS ?_
 refine TF 3 ?_
 refine RS (ok_build0own Try.underlying31 info5) ?_
 refine RS (ok_field field52_0 (by decide) rfl) ?_
 refine RS (OpOk.fact (ok_sliceX (l := 0) (h := 32) (m := 32) Try.underlying27 info5 rfl (.inr ⟨rfl, rfl⟩) (.inr ⟨rfl, rfl, rfl⟩) (.inr ⟨rfl, rfl⟩) (by decide) (by decide) (by decide) (.inl (by decide))) (d := byt t) (s := 1000001) (by decide) rfl (slice_byt t ht.symm (by decide) (by decide) (cel_root ht e m))) ?_
 refine RN ?_
 refine ⟨_, eff_appendS (vs := t.map byteV) Try.underlying31 info5 (by decide) rfl rfl rfl (Le.eq (byt_vals _)) (by simp [byteV, Value.oneCell']) (by simp only [List.length_map, ht]; decide) (by decide) (fun g hg => (LV 1 rfl (LT 1000001 rfl LN))), ?_⟩
 refine TL ?_
 refine RA rfl ?_
 refine RN ?_
 refine A.regsZ 5 [⟨false, false, some 4⟩, ⟨false, true, none⟩, ⟨false, true, none⟩, ⟨false, false, some 4⟩, ⟨true, false, some 8⟩, ⟨false, true, none⟩, ⟨false, true, none⟩, ⟨false, false, some 8⟩, ⟨true, false, none⟩, ⟨false, false, none⟩] [(3, 4)] (KC 1 rfl (KC 3 rfl (KC 1000001 rfl KN))) (by kernel_rfl) (by kernel_rfl) (by kernel_rfl) (by kernel_rfl) (by kernel_rfl) (StayL.cons (k := 1) (StayT.v _) (StayL.dies (k := 3) 4 (by decide) (by decide) (StayL.cons (k := 1000001) (StayT.blk (by decide)) StayL.nil))) ?_
 refine RunZ.step rfl rfl (ok_move rfl) (fun h => by cases h) ?_
 refine RunZ.step rfl rfl (ok_field field52_1 (by decide) rfl) (fun _ => StayT.v _) ?_
 refine RunZ.step rfl rfl (ok_loadV (s := 1000001) (by decide) Try.underlying23 rfl rfl rfl (cel_e ht e m)) (fun _ => StayT.v _) ?_
 refine RunZ.step rfl rfl (ok_call ((refPut64_fn ((e : Nat) : Int) (by omega) (by omega)).le (d' := bytes (be 8 e) 8) (Le.refl _)) (A1 rfl)) (fun h => by cases h) ?_
 refine RunZ.eff rfl rfl (okz_append (vs := (be 8 e).map byteV) Try.underlying31 info5 (by decide) rfl rfl rfl ((le_byt _ 8).trans (Le.eq (byt_vals _))) (by simp [byteV, Value.oneCell']) (by simp only [List.length_map, be_length]; omega)) (fun h => by cases h) ?_
 refine RunZ.step rfl rfl (ok_field field52_2 (by decide) rfl) (fun _ => StayT.v _) ?_
 refine RunZ.step rfl rfl (ok_loadV (s := 1000001) (by decide) Try.underlying23 rfl rfl rfl (cel_m ht e m)) (fun _ => StayT.v _) ?_
 refine RunZ.step rfl rfl (ok_call ((refPut64_fn ((m : Nat) : Int) (by omega) (by omega)).le (d' := bytes (be 8 m) 8) (Le.refl _)) (A1 rfl)) (fun h => by cases h) ?_
 refine RunZ.eff rfl rfl (okz_append (vs := (be 8 m).map byteV) Try.underlying31 info5 (by decide) rfl rfl rfl ((le_byt _ 8).trans (Le.eq (byt_vals _))) (by simp [byteV, Value.oneCell']) (by simp only [List.length_map, be_length]; omega)) (fun h => by cases h) ?_
 refine RunZ.step rfl rfl (ok_assign rfl) (fun h => by cases h) ?_
 refine RunZ.end_ (KC 2 rfl (KC 1000001 rfl KN)) (by kernel_rfl) (MadeL.made (k := 2) 9 rfl (MadeL.stays (k := 1000001) (StayT.blk (by decide)) MadeL.nil)) ?_
 refine A.ret ?_
 exact End.ret1 rfl rfl ((Le.eq (by simp only [List.length_map, be_length, ht, List.nil_append, List.append_assoc, ← List.map_append, celL])).trans (own_byt (B := w₀.heap.size) (e := 5) (n := 0 + 32 + 8 + 8) (l := celL t e m) (celL_len ht e m).symm))
end Go.Proofs.Ytbmpjeheaemgmaa
