/-
  OWN TEXTS of this seat, put together, part 4: C12b, C02a, C02b, C02c, C01c, C02g, St, C02h, Dig, C02d, C02e, C02f, C02i, C02j, C02k, C13b, C13c, Merk, MerkV, MerkD, Leave, Cell, Ledg, Parts.
-/
import Derived.Test.YtmkpekmhhbcifaaGreatDoorQd0
import Derived.Test.YtmkpekmhhbcifaaGreatDoorQd2
import Derived.Test.YtmkpekmhhbcifaaGreatDoorQd3
import Derived.Test.YtmkpekmhhbcifaaGreatDoorQd1
namespace Go.Proofs.YtmkpekmhhbcifaaGreatDoor
set_option linter.unusedVariables false
set_option linter.unusedSimpArgs false
set_option maxRecDepth 20000
open Go Go.RowKit
theorem Height_ok (n : Nat) (h1 : 1 ≤ n) (h2 : n ≤ 4096)  : Fn Tryz.prog 41 [.v (nI (n))] (.v (.tuple #[nI (hg n), .int .i64 0])) := by
 refine FV Tryz.func41 rfl Tryz.ntmps41 rfl fun w₀ => ?_
 refine GV rfl (QS (GT (RM rfl ?_)));refine RS (ok_call (Check_ok n h1 h2) (A1 rfl)) ?_;refine RVN 1 rfl ?_;refine GT (RV 2 rfl ?_);refine RF ?_;refine RN (A.no rfl ?_);refine QK (GS (TN 1 (RVN 1 rfl ?_)));refine ZM 1000011 (fun B' => OCB (shapeOf_fnB n h1 h2) (A1 rfl)) rfl fun b11 ⟨hBb11, hb11⟩ => ?_
 refine TL (RS (ok_call (height_fn n b11) (A1 rfl)) ?_);refine RVN 2 rfl ?_;refine A.ret ?_;exact End.ret2V rfl rfl rfl
theorem Total_ok (n : Nat) (h1 : 1 ≤ n) (h2 : n ≤ 4096)  : Fn Tryz.prog 45 [.v (nI (n))] (.v (.tuple #[nI (tot n (hg n + 1)), .int .i64 0])) := by
 have hh := hg_le n
 refine FV Tryz.func45 rfl Tryz.ntmps45 rfl fun w₀ => ?_
 refine GV rfl (QS (GT (RM rfl ?_)));refine RS (ok_call (Check_ok n h1 h2) (A1 rfl)) ?_;refine RVN 1 rfl ?_;refine GT (RV 2 rfl ?_);refine RF ?_;refine RN (A.no rfl ?_);refine QK (GV rfl (QS (GS (TN 1 (RVN 1 rfl ?_)))));refine ZM 1000014 (fun B' => OCB (shapeOf_fnB n h1 h2) (A1 rfl)) rfl fun b14 ⟨hBb14, hb14⟩ => ?_
 refine TL (RS (ok_fieldV (off := 1) (by kernel_rfl) rfl rfl) ?_);refine RS (ok_lenV U27 rfl) ?_;refine RVN 1 rfl ?_;refine A.block ?_;refine A.loop (ι := Nat) (fun i => i ≤ hg n + 1) (fun i => [(5, .v (nI (tot n i))), (15, .v (.slice (some ⟨b14,0, none⟩) (hg n + 1) 6)), (16, .v (nI (hg n + 1))), (17, .v (nI (i))), (1000014, blk b14 200 (rowU n (hg n + 1)))]) (fun i => hg n + 1 - i) 0 ?_ ?_ ?_
 ·exact Nat.zero_le _
 ·exact (Sv [5,15,16,17,1000014] rfl)
 intro i hi
 refine GV rfl (QS ?_);refine A.cond rfl (fun hc18 => ?_) (fun hc18 => ?_)
 ·have hlt : i < hg n + 1 := by simp at hc18; omega
  refine QK (QSB (GT (RS (ok_indexV i U27 info3 rfl rfl rfl (by omega)) ?_)));refine RS (ok_loadV (s := 1000014) (by decide) U3 rfl rfl rfl (by rw [Nat.zero_add]; exact rowU_get (by omega) (by omega))) ?_;refine RVN 1 rfl ?_;refine GTE (RV 3 rfl ?_);refine RZ (nI (tot n (i + 1))) (wrap_eq (by rw [tot_succ]; omega) (by have := tot_small h1 h2 (l := i + 1) (by omega); omega)) ?_;refine RVN 1 rfl ?_;refine End.normal_block (EN (GTE (RB rfl rfl rfl ?_)));refine RZ (nI (i + 1)) (wrap_eq (by omega) (by omega)) ?_;refine RVN 1 rfl ?_;refine End.normal_then ?_;refine End.again (i + 1) ?_ ?_ ?_
  ·show _ ≤ _; omega
  ·show _ - _ < _ - _; omega
  ·exact (Sv [5,15,16,17,1000014] rfl)
 ·have hie : i = hg n + 1 := by simp at hc18; omega
  refine A.exit (End.exit_then (End.exit_then (End.exit_here (EN (GT (RM rfl ?_))))));refine RZ (nI (tot n (hg n + 1))) (by rw [hie]) ?_;refine RVN 2 rfl ?_;refine A.ret ?_;exact End.ret2V rfl rfl rfl
theorem Total_bad (m : Int) (hm : ¬ (1 ≤ m ∧ m ≤ 4096))  : Fn Tryz.prog 45 [.v (.int .i64 (m))] (.v (.tuple #[.int .i64 0, .int .i64 1])) := by
 refine FV Tryz.func45 rfl Tryz.ntmps45 rfl fun w₀ => ?_
 refine GV rfl (QS (GT (RM rfl ?_)));refine RS (ok_call (Check_bad m hm) (A1 rfl)) ?_;refine RVN 1 rfl ?_;refine GT (RV 2 rfl ?_);refine RT ?_;refine RN (A.yes rfl ?_);refine GV rfl (A.ret (End.ret_then ?_));exact End.ret2V rfl rfl rfl
theorem Count_ok (n : Nat) (h1 : 1 ≤ n) (h2 : n ≤ 4096) (l : Nat) (hl : l ≤ hg n) : Fn Tryz.prog 72 [.v (nI (n)), .v (nI (l))] (.v (.tuple #[nI (un n (l + 1)), .int .i64 0])) := by
 have hh := hg_le n
 refine FV Tryz.func72 rfl Tryz.ntmps72 rfl fun w₀ => ?_
 refine GV rfl (GS (TN 1 (RVN 1 rfl ?_)));refine ZM 1000008 (fun B' => OCB (shapeOf_fnB n h1 h2) (A1 rfl)) rfl fun b8 ⟨hBb8, hb8⟩ => ?_
 refine TN 2 (RN ?_);refine ZN 1000006 zero134 fun b6 ⟨hBb6, hb6⟩ => ?_
 refine TF 3 (RN ?_);refine ZA 1000006 (size134.of rfl) hBb6 rfl rfl rfl (LT 1000008 rfl (LW [1,6] rfl)) ?_;refine TL (RN (QS (GT (RL 1000006 U134 rfl rfl (size134.of rfl) ?_))));refine RM rfl ?_;refine RS (ok_call (hasLevel_y n b8 l hl) (A2 rfl rfl)) ?_;refine RVN 1 rfl ?_;refine A.no rfl ?_;refine QK (GT (RS (ok_field field134_1 (by decide) rfl) ?_));refine RLV 1000006 U27 rfl rfl rfl ?_;refine RM rfl ?_;refine RS (ok_indexV l U27 info3 rfl rfl rfl (by omega)) ?_;refine RS (ok_loadV (s := 1000008) (by decide) U3 rfl rfl rfl (by rw [Nat.zero_add]; exact rowU_get (by omega) (by omega))) ?_;refine RVN 2 rfl ?_;refine A.ret ?_;exact End.ret2V rfl rfl rfl
theorem Parts_ok (n : Nat) (h1 : 1 ≤ n) (h2 : n ≤ 4096) (l j : Nat) (hl : l ≤ hg n) (hj : j < un n (l + 1))  : Fn Tryz.prog 53 [.v (nI (n)), .v (nI (l)), .v (nI (j))] (.v (.tuple #[nI (pts n l j), .int .i64 0])) := by
 refine FV Tryz.func53 rfl Tryz.ntmps53 rfl fun w₀ => ?_
 refine GV rfl (GS (TN 1 (RVN 1 rfl ?_)));refine ZM 1000011 (fun B' => OCB (shapeOf_fnB n h1 h2) (A1 rfl)) rfl fun b11 ⟨hBb11, hb11⟩ => ?_
 refine TN 5 (RV 2 rfl ?_);refine RS (ok_litS [(0, nI l), (1, nI j)] (plV l j) ⟨rfl, rfl, rfl, rfl, trivial⟩ (buildP _ _)) ?_;refine RN ?_;refine ZN 1000008 zero134 fun b8 ⟨hBb8, hb8⟩ => ?_
 refine TN 6 (RN ?_);refine ZN 1000009 zero67 fun b9 ⟨hBb9, hb9⟩ => ?_
 refine TF 7 (RN ?_);refine ZA 1000008 (size134.of rfl) hBb8 rfl rfl rfl (LT 1000009 rfl (LT 1000011 rfl (LW [8,9,14] rfl))) ?_;refine TF 8 (RN ?_);refine ZA 1000009 (size67.of rfl) hBb9 rfl rfl rfl (LT 1000008 rfl (LT 1000011 rfl (LW [8,9] rfl))) ?_;refine TL (RN (QS (GT (RL 1000008 U134 rfl rfl (size134.of rfl) ?_))));refine RL 1000009 U67 rfl rfl (size67.of rfl) ?_;refine RS (ok_callK 1000011 (has_y n b11 l j hl hj) (by decide) rfl (A2 rfl rfl)) ?_;refine RVN 1 rfl ?_;refine A.no rfl ?_;refine QK (GT (RL 1000008 U134 rfl rfl (size134.of rfl) ?_));refine RL 1000009 U67 rfl rfl (size67.of rfl) ?_;refine RS (ok_callK 1000011 (parts_fn n b11 h1 h2 l j hl hj) (by decide) rfl (A2 rfl rfl)) ?_;refine RVN 2 rfl ?_;refine A.ret ?_;exact End.ret2V rfl rfl rfl
theorem Parts_no (n : Nat) (h1 : 1 ≤ n) (h2 : n ≤ 4096) (l j : Int) (hp : ¬ IsP n l j)  : Fn Tryz.prog 53 [.v (nI (n)), .v (.int .i64 (l)), .v (.int .i64 (j))] (.v (.tuple #[.int .i64 0, .int .i64 1])) := by
 refine FV Tryz.func53 rfl Tryz.ntmps53 rfl fun w₀ => ?_
 refine GV rfl (GS (TN 1 (RVN 1 rfl ?_)));refine ZM 1000011 (fun B' => OCB (shapeOf_fnB n h1 h2) (A1 rfl)) rfl fun b11 ⟨hBb11, hb11⟩ => ?_
 refine TN 5 (RV 2 rfl ?_);refine RS (ok_litS [(0, .int .i64 (l)), (1, .int .i64 (j))] ([.int .i64 (l), .int .i64 (j)]) ⟨rfl, rfl, rfl, rfl, trivial⟩ (buildP _ _)) ?_;refine RN ?_;refine ZN 1000008 zero134 fun b8 ⟨hBb8, hb8⟩ => ?_
 refine TN 6 (RN ?_);refine ZN 1000009 zero67 fun b9 ⟨hBb9, hb9⟩ => ?_
 refine TF 7 (RN ?_);refine ZA 1000008 (size134.of rfl) hBb8 rfl rfl rfl (LT 1000009 rfl (LT 1000011 rfl (LW [8,9,14] rfl))) ?_;refine TF 8 (RN ?_);refine ZA 1000009 (size67.of rfl) hBb9 rfl rfl rfl (LT 1000008 rfl (LT 1000011 rfl (LW [8,9] rfl))) ?_;refine TL (RN (QS (GT (RL 1000008 U134 rfl rfl (size134.of rfl) ?_))));refine RL 1000009 U67 rfl rfl (size67.of rfl) ?_;refine RS (ok_callK 1000011 (has_n n b11 l j hp) (by decide) rfl (A2 rfl rfl)) ?_;refine RVN 1 rfl ?_;refine A.yes rfl ?_;refine GV rfl (A.ret (End.ret_then ?_));exact End.ret2V rfl rfl rfl
theorem Parent_up (n : Nat) (h1 : 1 ≤ n) (h2 : n ≤ 4096) (l j : Nat) (hl : l ≤ hg n) (hj : j < un n (l + 1)) (hu : l < hg n) : Fn Tryz.prog 92 [.v (nI (n)), .v (aggV (plV l j))] (.v (.tuple #[aggV (plV (l + 1) (j / 4)), nI (j % 4), .int .i64 0])) := by
 have hu0 := un_le h1 (l + 1)
 have hv0 := un_pos h1 (l + 1)
 have hh := hg_le n
 refine FV Tryz.func92 rfl Tryz.ntmps92 rfl fun w₀ => ?_
 refine GS (TN 0 (RN ?_));refine ZB 1000003 rfl fun b3 ⟨hBb3, hb3⟩ => ?_
 refine TN 1 (RN ?_);refine ZN 1000004 zero67 fun b4 ⟨hBb4, hb4⟩ => ?_
 have hlt_b3_b4 := hb4 1000003 b3 _ _ rfl
 refine TL (RVN 2 rfl ?_);refine GS (TN 1 (RVN 1 rfl ?_));refine ZM 1000009 (fun B' => OCB (shapeOf_fnB n h1 h2) (A1 rfl)) rfl fun b9 ⟨hBb9, hb9⟩ => ?_
 have hlt_b3_b9 := hb9 1000003 b3 _ _ rfl
 have hlt_b4_b9 := hb9 1000004 b4 _ _ rfl
 refine TN 2 (RN ?_);refine ZN 1000007 zero134 fun b7 ⟨hBb7, hb7⟩ => ?_
 refine TF 3 (RN ?_);refine ZA 1000007 (size134.of rfl) hBb7 rfl rfl rfl (LT 1000003 rfl (LT 1000004 rfl (LT 1000009 rfl (LW [3,4,7] rfl)))) ?_;refine TL (RN (QSB (GT (RL 1000007 U134 rfl rfl (size134.of rfl) ?_))));refine RL 1000003 U67 rfl rfl (size67.of rfl) ?_;refine RS (ok_callK 1000009 (has_y n b9 l j hl hj) (by decide) rfl (A2 rfl rfl)) ?_;refine RVN 2 rfl ?_;refine A.no rfl ?_;refine GTD (RS (ok_field field67_0 (by decide) rfl) ?_);refine RLV 1000003 U3 rfl rfl rfl ?_;refine RL 1000007 U134 rfl rfl (size134.of rfl) ?_;refine RS (ok_call (height_fn n b9) (A1 rfl)) ?_;refine RB rfl rfl rfl ?_;refine RF ?_;refine RVN 1 rfl ?_;refine A.no rfl ?_;refine A.skip (End.normal_block (EN (A.regsOK (k := 1000004) (ys := plV (l + 1) (j / 4)) 10 (by kernel_rfl) (by kernel_rfl) (by kernel_rfl) rfl (Sv [3,4,16,1000003,1000007,1000009] rfl) rfl hBb4 (size67.of (rfl)) (rfl) (rfl) (LV 3 rfl (LV 4 rfl (LV 16 rfl (LB 1000003 rfl (LT 1000007 rfl (LT 1000009 rfl LN)))))) ?_)));refine OncesK.cons (_) rfl rfl (.inl rfl) FromN.all (ok_field field67_0 (by decide) rfl) ?_;refine OncesK.cons ((23, .v _) :: _) rfl rfl (.inl rfl) (FromN.op 0 (by kernel_rfl) rfl rfl FromN.all) (ok_loadV (s := 1000003) (by decide) U3 rfl rfl rfl (rfl)) ?_;refine OncesK.cons ((24, .v _) :: _) rfl rfl (.inl rfl) (FromN.op 1 (by kernel_rfl) rfl rfl FromN.all) (OpOk.asV (nI (l + 1)) (wrap_eq (by omega) (by omega)) (ok_bin rfl rfl rfl)) ?_;refine OncesK.cons (_) rfl rfl (.inl rfl) FromN.all (ok_field field67_1 (by decide) rfl) ?_;refine OncesK.cons ((26, .v _) :: _) rfl rfl (.inl rfl) (FromN.op 3 (by kernel_rfl) rfl rfl FromN.all) (ok_loadV (s := 1000003) (by decide) U3 rfl rfl rfl (rfl)) ?_;refine OncesK.cons ((27, .v _) :: _) rfl rfl (.inl rfl) (FromN.op 4 (by kernel_rfl) rfl rfl FromN.all) (OpOk.asV (nI ((j) / 4)) (by rw [tdiv_lit _ (by decide)]; exact wrap_eq rfl (by first | omega | (simp only [Int.toNat]; omega))) (ok_div rfl rfl (by decide))) ?_;refine OncesK.cons ((25, .v _) :: (28, .v _) :: _) rfl rfl (.inl rfl) (FromN.op 2 (by kernel_rfl) rfl rfl (FromN.op 5 (by kernel_rfl) rfl rfl FromN.all)) (ok_litS [(0, nI (l + 1)), (1, nI (j / 4))] (plV (l + 1) (j / 4)) ⟨rfl, rfl, rfl, rfl, trivial⟩ (buildP _ _)) ?_;refine OncesK.cons (_) rfl rfl (.inl rfl) FromN.all (ok_field field67_1 (by decide) rfl) ?_;refine OncesK.cons ((30, .v _) :: _) rfl rfl (.inl rfl) (FromN.op 7 (by kernel_rfl) rfl rfl FromN.all) (ok_loadV (s := 1000003) (by decide) U3 rfl rfl rfl (rfl)) ?_;refine OncesK.cons ((31, .v _) :: _) rfl rfl (.inl rfl) (FromN.op 8 (by kernel_rfl) rfl rfl FromN.all) (OpOk.asV (nI ((j) % 4)) (by rw [tmod_lit _ (by decide)]; rfl) (ok_rem rfl rfl (by decide))) ?_;refine OncesK.store ((29, .v _) :: _) rfl (FromN.op 6 (by kernel_rfl) rfl rfl FromN.all) rfl rfl ?_;refine OncesK.cons ((32, .v _) :: _) rfl rfl (.inl rfl) (FromN.op 9 (by kernel_rfl) rfl rfl FromN.all) (ok_assign rfl) ?_;refine OncesK.cons (_) rfl rfl (.inl rfl) FromN.all (ok_assign rfl) ?_
 refine OncesK.nil ⟨_, (FromE.op (t := 5) 11 rfl rfl (FromE.op (t := 6) 12 rfl rfl FromE.all)), ?_⟩
 refine A.sub (Sv [4,5,6,1000003,1000004,1000007,1000009] rfl) ?_;refine A.ret ?_;exact End.cellVV rfl U67 rfl (size67.of rfl) rfl (s := 1000004) rfl rfl rfl
theorem Child_ok (n : Nat) (h1 : 1 ≤ n) (h2 : n ≤ 4096) (l j : Nat) (hl : l ≤ hg n) (hj : j < un n (l + 1)) (h0 : 0 < l) (x : Nat) (hx : x < pts n l j) : Fn Tryz.prog 99 [.v (nI (n)), .v (aggV (plV l j)), .v (nI (x))] (.v (.tuple #[aggV (plV (l - 1) (4 * j + x)), .int .i64 0])) := by
 have hu0 := un_le h1 (l)
 have hv0 := un_pos h1 (l)
 have hu1 := un_le h1 (l + 1)
 have hv1 := un_pos h1 (l + 1)
 have hh := hg_le n
 have hp := pts_pos hj
 refine FV Tryz.func99 rfl Tryz.ntmps99 rfl fun w₀ => ?_
 refine GS (TN 0 (RN ?_));refine ZB 1000004 rfl fun b4 ⟨hBb4, hb4⟩ => ?_
 refine TN 1 (RN ?_);refine ZN 1000006 zero67 fun b6 ⟨hBb6, hb6⟩ => ?_
 have hlt_b4_b6 := hb6 1000004 b4 _ _ rfl
 refine TL (RVN 1 rfl ?_);refine GS (TN 1 (RVN 1 rfl ?_));refine ZM 1000010 (fun B' => OCB (shapeOf_fnB n h1 h2) (A1 rfl)) rfl fun b10 ⟨hBb10, hb10⟩ => ?_
 have hlt_b4_b10 := hb10 1000004 b4 _ _ rfl
 have hlt_b6_b10 := hb10 1000006 b6 _ _ rfl
 refine TN 2 (RN ?_);refine ZN 1000008 zero134 fun b8 ⟨hBb8, hb8⟩ => ?_
 refine TF 3 (RN ?_);refine ZA 1000008 (size134.of rfl) hBb8 rfl rfl rfl (LT 1000004 rfl (LT 1000006 rfl (LT 1000010 rfl (LW [2,4,6,8] rfl)))) ?_;refine TL (RN (QSB (GT (RL 1000008 U134 rfl rfl (size134.of rfl) ?_))));refine RL 1000004 U67 rfl rfl (size67.of rfl) ?_;refine RS (ok_callK 1000010 (has_y n b10 l j hl hj) (by decide) rfl (A2 rfl rfl)) ?_;refine RV 3 rfl ?_;refine RQ (ok_call (within_y _ _ (by omega) (by omega)) (A2 rfl rfl)) ?_;refine RVN 3 rfl ?_;refine A.no rfl ?_;refine GT (RS (ok_field field67_0 (by decide) rfl) ?_);refine RLV 1000004 U3 rfl rfl rfl ?_;refine RB rfl rfl rfl ?_;refine RF ?_;refine RV 2 rfl ?_;refine RQ (ok_loadA (s := 1000008) (by decide) U134 rfl (size134.of (rfl)) rfl rfl) ?_;refine RQ (ok_loadA (s := 1000004) (by decide) U67 rfl (size67.of (rfl)) rfl rfl) ?_;refine RQ (ok_callK 1000010 (parts_fn n b10 h1 h2 l j hl hj) (by decide) rfl (A2 rfl rfl)) ?_;refine RQ (ok_bin rfl rfl rfl) ?_;refine RF ?_;refine RVN 2 rfl ?_;refine A.sub (Sv [2,4,6,22,1000004,1000006,1000008,1000010] rfl) ?_;refine A.no rfl ?_;refine A.skip (End.normal_block (EN (GS (TF 9 (RS (ok_field field67_0 (by decide) rfl) ?_)))));refine RLV 1000004 U3 rfl rfl rfl ?_;refine RB rfl rfl rfl ?_;refine RZ (nI (l - 1)) (wrap_eq (by omega) (by omega)) ?_;refine RS (ok_field field67_1 (by decide) rfl) ?_;refine RLV 1000004 U3 rfl rfl rfl ?_;refine RB rfl rfl rfl ?_;refine RZ (nI (4 * j)) (wrap_eq (by omega) (by omega)) ?_;refine RV 2 rfl ?_;refine RZ (nI (4 * j + x)) (wrap_eq (by omega) (by omega)) ?_;refine RS (ok_litS [(0, nI (l - 1)), (1, nI (4 * j + x))] (plV (l - 1) (4 * j + x)) ⟨rfl, rfl, rfl, rfl, trivial⟩ (buildP _ _)) ?_;refine RN ?_;refine ZA 1000006 (size67.of rfl) hBb6 rfl rfl rfl (LV 6 rfl (LB 1000004 rfl (LT 1000008 rfl (LT 1000010 rfl LN)))) ?_;refine TL (RVN 1 rfl ?_);refine A.ret ?_;exact End.cellV rfl U67 rfl (size67.of rfl) rfl (s := 1000006) rfl rfl
theorem Child_leaf (n : Nat) (h1 : 1 ≤ n) (h2 : n ≤ 4096) (l j : Nat) (hl : l ≤ hg n) (hj : j < un n (l + 1)) (h0 : l = 0) (x : Nat) (hx : x < 4) : Fn Tryz.prog 99 [.v (nI (n)), .v (aggV (plV l j)), .v (nI (x))] (.v (.tuple #[aggV [.int .i64 0, .int .i64 0], .int .i64 11])) := by
 refine FV Tryz.func99 rfl Tryz.ntmps99 rfl fun w₀ => ?_
 refine GS (TN 0 (RN ?_));refine ZB 1000004 rfl fun b4 ⟨hBb4, hb4⟩ => ?_
 refine TN 1 (RN ?_);refine ZN 1000006 zero67 fun b6 ⟨hBb6, hb6⟩ => ?_
 have hlt_b4_b6 := hb6 1000004 b4 _ _ rfl
 refine TL (RVN 1 rfl ?_);refine GS (TN 1 (RVN 1 rfl ?_));refine ZM 1000010 (fun B' => OCB (shapeOf_fnB n h1 h2) (A1 rfl)) rfl fun b10 ⟨hBb10, hb10⟩ => ?_
 have hlt_b4_b10 := hb10 1000004 b4 _ _ rfl
 have hlt_b6_b10 := hb10 1000006 b6 _ _ rfl
 refine TN 2 (RN ?_);refine ZN 1000008 zero134 fun b8 ⟨hBb8, hb8⟩ => ?_
 refine TF 3 (RN ?_);refine ZA 1000008 (size134.of rfl) hBb8 rfl rfl rfl (LT 1000004 rfl (LT 1000006 rfl (LT 1000010 rfl (LW [2,4,6,8] rfl)))) ?_;refine TL (RN (QSB (GT (RL 1000008 U134 rfl rfl (size134.of rfl) ?_))));refine RL 1000004 U67 rfl rfl (size67.of rfl) ?_;refine RS (ok_callK 1000010 (has_y n b10 l j hl hj) (by decide) rfl (A2 rfl rfl)) ?_;refine RV 3 rfl ?_;refine RQ (ok_call (within_y _ _ (by omega) (by omega)) (A2 rfl rfl)) ?_;refine RVN 3 rfl ?_;refine A.no rfl ?_;refine GT (RS (ok_field field67_0 (by decide) rfl) ?_);refine RLV 1000004 U3 rfl rfl rfl ?_;refine RB rfl rfl rfl ?_;refine RT ?_;refine RVN 8 rfl ?_;refine A.sub (Sv [2,4,6,22,1000004,1000006,1000008,1000010] rfl) ?_;refine A.yes rfl ?_;refine GS (TF 1 (RS (ok_lit [] ([.int .i64 0] ++ [.int .i64 0]) (fun _ _ => rfl) (by kernel_rfl)) ?_));refine RN ?_;refine ZA 1000006 (size67.of rfl) hBb6 rfl rfl rfl (LV 6 rfl (LB 1000004 rfl (LT 1000008 rfl (LT 1000010 rfl LN)))) ?_;refine TL (RVN 1 rfl ?_);refine A.ret (End.ret_block (End.ret_then ?_));exact End.cellV rfl U67 rfl (size67.of rfl) rfl (s := 1000006) rfl rfl
theorem Child_none (n : Nat) (h1 : 1 ≤ n) (h2 : n ≤ 4096) (l j : Nat) (hl : l ≤ hg n) (hj : j < un n (l + 1)) (h0 : 0 < l) (x : Nat) (hx : x < 4) (hx' : pts n l j ≤ x) : Fn Tryz.prog 99 [.v (nI (n)), .v (aggV (plV l j)), .v (nI (x))] (.v (.tuple #[aggV [.int .i64 0, .int .i64 0], .int .i64 11])) := by
 refine FV Tryz.func99 rfl Tryz.ntmps99 rfl fun w₀ => ?_
 refine GS (TN 0 (RN ?_));refine ZB 1000004 rfl fun b4 ⟨hBb4, hb4⟩ => ?_
 refine TN 1 (RN ?_);refine ZN 1000006 zero67 fun b6 ⟨hBb6, hb6⟩ => ?_
 have hlt_b4_b6 := hb6 1000004 b4 _ _ rfl
 refine TL (RVN 1 rfl ?_);refine GS (TN 1 (RVN 1 rfl ?_));refine ZM 1000010 (fun B' => OCB (shapeOf_fnB n h1 h2) (A1 rfl)) rfl fun b10 ⟨hBb10, hb10⟩ => ?_
 have hlt_b4_b10 := hb10 1000004 b4 _ _ rfl
 have hlt_b6_b10 := hb10 1000006 b6 _ _ rfl
 refine TN 2 (RN ?_);refine ZN 1000008 zero134 fun b8 ⟨hBb8, hb8⟩ => ?_
 refine TF 3 (RN ?_);refine ZA 1000008 (size134.of rfl) hBb8 rfl rfl rfl (LT 1000004 rfl (LT 1000006 rfl (LT 1000010 rfl (LW [2,4,6,8] rfl)))) ?_;refine TL (RN (QSB (GT (RL 1000008 U134 rfl rfl (size134.of rfl) ?_))));refine RL 1000004 U67 rfl rfl (size67.of rfl) ?_;refine RS (ok_callK 1000010 (has_y n b10 l j hl hj) (by decide) rfl (A2 rfl rfl)) ?_;refine RV 3 rfl ?_;refine RQ (ok_call (within_y _ _ (by omega) (by omega)) (A2 rfl rfl)) ?_;refine RVN 3 rfl ?_;refine A.no rfl ?_;refine GT (RS (ok_field field67_0 (by decide) rfl) ?_);refine RLV 1000004 U3 rfl rfl rfl ?_;refine RB rfl rfl rfl ?_;refine RF ?_;refine RV 2 rfl ?_;refine RQ (ok_loadA (s := 1000008) (by decide) U134 rfl (size134.of (rfl)) rfl rfl) ?_;refine RQ (ok_loadA (s := 1000004) (by decide) U67 rfl (size67.of (rfl)) rfl rfl) ?_;refine RQ (ok_callK 1000010 (parts_fn n b10 h1 h2 l j hl hj) (by decide) rfl (A2 rfl rfl)) ?_;refine RQ (ok_bin rfl rfl rfl) ?_;refine RT ?_;refine RVN 2 rfl ?_;refine A.sub (Sv [2,4,6,22,1000004,1000006,1000008,1000010] rfl) ?_;refine A.yes rfl ?_;refine GS (TF 1 (RS (ok_lit [] ([.int .i64 0] ++ [.int .i64 0]) (fun _ _ => rfl) (by kernel_rfl)) ?_));refine RN ?_;refine ZA 1000006 (size67.of rfl) hBb6 rfl rfl rfl (LV 6 rfl (LB 1000004 rfl (LT 1000008 rfl (LT 1000010 rfl LN)))) ?_;refine TL (RVN 1 rfl ?_);refine A.ret (End.ret_block (End.ret_then ?_));exact End.cellV rfl U67 rfl (size67.of rfl) rfl (s := 1000006) rfl rfl
theorem Group_ok (n : Nat) (h1 : 1 ≤ n) (h2 : n ≤ 4096) (x : Nat) (hx : x < n) : Fn Tryz.prog 49 [.v (nI (n)), .v (nI (x))] (.v (.tuple #[aggV (plV 0 (x / 4)), nI (x % 4), .int .i64 0])) := by
 refine FV Tryz.func49 rfl Tryz.ntmps49 rfl fun w₀ => ?_
 refine GS (TN 0 (RN ?_));refine ZN 1000004 zero67 fun b4 ⟨hBb4, hb4⟩ => ?_
 refine TL (RVN 2 rfl ?_);refine QS (GT (RV 2 rfl ?_));refine RS (ok_call (hasBlock_y n h1 h2 x hx) (A2 rfl rfl)) ?_;refine RVN 1 rfl ?_;refine A.no rfl ?_;refine QK (GS (TF 5 (RM rfl ?_)));refine RS (ok_div rfl rfl (by decide)) ?_;refine RZ (nI ((x) / 4)) (by rw [tdiv_lit _ (by decide)]; exact wrap_eq rfl (by first | omega | (simp only [Int.toNat]; omega))) ?_;refine RS (ok_litS [(0, nI 0), (1, nI (x / 4))] (plV 0 (x / 4)) ⟨rfl, rfl, rfl, rfl, trivial⟩ (buildP _ _)) ?_;refine RM rfl ?_;refine RS (ok_rem rfl rfl (by decide)) ?_;refine RZ (nI ((x) % 4)) (by rw [tmod_lit _ (by decide)]; rfl) ?_;refine RN ?_;refine ZA 1000004 (size67.of rfl) hBb4 rfl rfl rfl (LW [4,16] rfl) ?_;refine TL (RVN 2 rfl ?_);refine A.ret ?_;exact End.cellVV rfl U67 rfl (size67.of rfl) rfl (s := 1000004) rfl rfl rfl
theorem zero155 : ZeroIs Tryz.prog 155 (List.replicate 64 (.int .u32 0)) := by unfold ZeroIs; kernel_rfl
theorem size155 : SizeIs Tryz.prog 155 64 := by unfold SizeIs; kernel_rfl
theorem zero156 : ZeroIs Tryz.prog 156 (List.replicate 8 (.int .u32 0)) := by unfold ZeroIs; kernel_rfl
theorem size156 : SizeIs Tryz.prog 156 8 := by unfold SizeIs; kernel_rfl
theorem K64_lit : K64.length = 64 := by decide
theorem refrotr_fn (x : UInt32) (n : Nat) (hn0 : 0 < n) (hn : n < 32) : Fn Tryz.prog 118 [.v (u32V x), .v (.int .i64 (n : Int))] (.v (u32V (rotr32 x n))) := by
 have hx := u32_lt x
 refine FV Tryz.func118 rfl Tryz.ntmps118 rfl fun w₀ => ?_
 refine GV rfl (GTD (RV 2 rfl ?_));refine RS (ok_shr rfl rfl (Int.natCast_nonneg n)) ?_;refine RZ (.int .u32 ((x.toNat / 2 ^ n : Nat) : Int)) (by rw [Int.toNat_natCast, show min n IntKind.u32.bits = n from Nat.min_eq_left (by show n ≤ 32; omega), shr_nat]) ?_;refine RV 3 rfl ?_;refine RZ (.int .i64 ((32 - n : Nat) : Int)) (by rw [wrap_i64 (by omega) (by omega)]; congr 1; omega) ?_;refine RS (ok_shl rfl rfl (Int.natCast_nonneg _)) ?_;refine RZ (.int .u32 ((x.toNat * 2 ^ (32 - n) % 4294967296 : Nat) : Int)) (by rw [Int.toNat_natCast, show min (32 - n) IntKind.u32.bits = 32 - n from Nat.min_eq_left (by show 32 - n ≤ 32; omega), ← wrap_u32_nat]; simp) ?_;refine RB rfl rfl rfl ?_;refine RZ (u32V (rotr32 x n)) (by
  show Value.int .u32 (IntKind.u32.wrap ((BitVec.ofInt 32 _ ||| BitVec.ofInt 32 _).toNat : Int)) = _
  rw [or_u32_nat (Nat.lt_of_le_of_lt (Nat.div_le_self _ _) hx) (Nat.mod_lt _ (by decide)), rotr32_val, ← rotB_go hx (by omega), Nat.or_comm, show 32 - (32 - n) = n from by omega]) ?_
 refine RVN 1 rfl ?_;refine A.ret ?_;exact ER rfl rfl
set_option maxHeartbeats 1000000 in
theorem refConstants_fn  : Fn Tryz.prog 87 [] (tup [.v (aggV (K64.map u32V)), .v (aggV (H8.list.map u32V))]) := by
 refine FV Tryz.func87 rfl Tryz.ntmps87 rfl fun w₀ => ?_
 refine GS (TN 0 (RN ?_));refine ZN 1000000 zero155 fun b0 ⟨hBb0, hb0⟩ => ?_
 refine TN 1 (RN ?_);refine ZN 1000001 zero156 fun b1 ⟨hBb1, hb1⟩ => ?_
 refine TL (RN (GS (TF 2 (RS (ok_litA [_, _, _, _, _, _, _, _, _, _, _, _, _, _, _, _, _, _, _, _, _, _, _, _, _, _, _, _, _, _, _, _, _, _, _, _, _, _, _, _, _, _, _, _, _, _, _, _, _, _, _, _, _, _, _, _, _, _, _, _, _, _, _, _] U155 info46 zero155 rfl ⟨rfl, rfl, rfl, rfl, rfl, rfl, rfl, rfl, rfl, rfl, rfl, rfl, rfl, rfl, rfl, rfl, rfl, rfl, rfl, rfl, rfl, rfl, rfl, rfl, rfl, rfl, rfl, rfl, rfl, rfl, rfl, rfl, rfl, rfl, rfl, rfl, rfl, rfl, rfl, rfl, rfl, rfl, rfl, rfl, rfl, rfl, rfl, rfl, rfl, rfl, rfl, rfl, rfl, rfl, rfl, rfl, rfl, rfl, rfl, rfl, rfl, rfl, rfl, rfl, rfl, rfl, rfl, rfl, rfl, rfl, rfl, rfl, rfl, rfl, rfl, rfl, rfl, rfl, rfl, rfl, rfl, rfl, rfl, rfl, rfl, rfl, rfl, rfl, rfl, rfl, rfl, rfl, rfl, rfl, rfl, rfl, rfl, rfl, rfl, rfl, rfl, rfl, rfl, rfl, rfl, rfl, rfl, rfl, rfl, rfl, rfl, rfl, rfl, rfl, rfl, rfl, rfl, rfl, rfl, rfl, rfl, rfl, rfl, rfl, rfl, rfl, rfl, rfl, trivial⟩ rfl) ?_))));refine RZ (aggV (K64.map u32V)) (by kernel_rfl) ?_;refine RS (ok_litA [_, _, _, _, _, _, _, _] U156 info46 zero156 rfl ⟨rfl, rfl, rfl, rfl, rfl, rfl, rfl, rfl, rfl, rfl, rfl, rfl, rfl, rfl, rfl, rfl, trivial⟩ rfl) ?_;refine RZ (aggV (H8.list.map u32V)) (by kernel_rfl) ?_;refine RN ?_;refine ZA 1000000 (size155.of rfl) hBb0 rfl rfl rfl (LT 1000001 rfl (LW [0,1,3] rfl)) ?_;refine TF 3 (RN ?_);refine ZA 1000001 (size156.of rfl) hBb1 rfl rfl rfl (LT 1000000 rfl (LW [0,1] rfl)) ?_;refine TL (RN (A.ret ?_));exact End.cell2 (s := 1000000) (s' := 1000001) rfl U155 rfl (size155.of (rfl)) rfl rfl (Le.refl _) U156 rfl (size156.of (rfl)) rfl rfl (Le.refl _)
set_option maxHeartbeats 400000 in
theorem refCompress_fn (h : R8) (l : List UInt8) (hl : l.length = 64) : Fn Tryz.prog 88 [.v (aggV (h.list.map u32V)), byt l] (.v (aggV ((compress h l).list.map u32V))) := by
 refine Fn.of Tryz.func88 rfl (by kernel_rfl) Tryz.ntmps88 (by simp) (fun w => [(0, .v (aggV (h.list.map u32V))), (1, old w.heap.size (byt l))]) (fun w => (Start.v rfl (Start.old rfl Start.nil))) fun w₀ => ?_
 refine GS (TN 0 (RN ?_));refine ZB 1000002 rfl fun b2 ⟨hBb2, hb2⟩ => ?_
 refine TN 1 (RN ?_);refine ZN 1000004 zero156 fun b4 ⟨hBb4, hb4⟩ => ?_
 have hlt_b2_b4 := hb4 1000002 b2 _ _ rfl
 refine TL (RN (GS (TN 4 (RS (ok_call refConstants_fn Args.nil) ?_))));refine RM rfl ?_;refine RS (ok_extract rfl rfl) ?_;refine RS (ok_extract rfl rfl) ?_;refine RN ?_;refine ZN 1000005 zero155 fun b5 ⟨hBb5, hb5⟩ => ?_
 refine TN 5 (RN ?_);refine ZN 1000006 zero156 fun b6 ⟨hBb6, hb6⟩ => ?_
 have hlt_b2_b6 := hb6 1000002 b2 _ _ rfl
 have hlt_b4_b6 := hb6 1000004 b4 _ _ rfl
 refine TF 6 (RN ?_);refine ZA 1000005 (size155.of rfl) hBb5 rfl rfl rfl (LO 1 rfl (LT 1000002 rfl (LT 1000004 rfl (LT 1000006 rfl (LW [2,4,5,6,29] rfl))))) ?_;refine TF 7 (RN ?_);refine ZA 1000006 (size156.of rfl) hBb6 rfl rfl rfl (LO 1 rfl (LB 1000002 rfl (LB 1000004 rfl (LT 1000005 rfl (LW [2,4,5] rfl))))) ?_;refine TL (RN (GS (TN 0 (RN ?_))));refine ZN 1000007 zero155 fun b7 ⟨hBb7, hb7⟩ => ?_
 have hlt_b5_b7 := hb7 1000005 b5 _ _ rfl
 refine TL (RN (QS (GV rfl (A.block ?_))));refine A.loop (ι := Nat) (fun j => j ≤ 64) (fun j => [(1, old w₀.heap.size (byt l)), (2, .v (.pointer (some ⟨b2,0, none⟩))), (4, .v (.pointer (some ⟨b4,0, none⟩))), (5, .v (.pointer (some ⟨b5,0, none⟩))), (7, .v (.pointer (some ⟨b7,0, none⟩))), (8, .v (.int .i64 ((j : Nat) : Int))), (1000002, blk b2 156 (h.list.map u32V)), (1000004, blk b4 156 (List.replicate 8 (.int .u32 0))), (1000005, blk b5 155 (K64.map u32V)), (1000007, blk b7 155 (table (sched l j) 64))]) (fun j => 64 - j) 0 ?_ ?_ ?_
 ·exact Nat.zero_le _
 ·exact (KC 1 rfl (KC 2 rfl (KC 4 rfl (KC 5 rfl (KC 7 rfl (KC 8 rfl (KC 1000002 rfl (KC 1000004 rfl (KC 1000005 rfl (KE 1000007 rfl (rfl) KN))))))))))
 intro j hj
 refine QS (GV rfl ?_);refine A.cond rfl (fun hc31 => ?_) (fun hc31 => ?_)
 ·have hlt : j < 64 := by simp at hc31; omega
  refine QK (QSB (QS (GV rfl ?_)));refine A.cond rfl (fun hc35 => ?_) (fun hc35 => ?_)
  ·have hj16 : j < 16 := by simp at hc35; omega
   refine GT (RV 3 rfl ?_);refine RZ (.int .i64 ((4 * j : Nat) : Int)) (by rw [wrap_i64 (by omega) (by omega)]; first | rfl | (congr 1; omega)) ?_;refine RV 2 rfl ?_;refine RZ (.int .i64 ((4 * j : Nat) : Int)) (by rw [wrap_i64 (by omega) (by omega)]; first | rfl | (congr 1; omega)) ?_;refine RB rfl rfl rfl ?_;refine RZ (.int .i64 ((4 * j + 4 : Nat) : Int)) (by rw [wrap_i64 (by omega) (by omega)]; first | rfl | (congr 1; omega)) ?_;refine RS (ok_slice (4 * j) (4 * j + 4) U23 info5 rfl (Le.old _ _) (.inl ⟨_, _, rfl, rfl⟩) (.inl ⟨_, _, rfl, rfl⟩) (by omega) (by simp; omega)) ?_;refine RS (ok_call (refGet_fn ((l.drop (4 * j)).take 4) 4 (by decide) (by decide)) (Args.cons rfl ((Le.eq (by simp only [byt, List.map_take, List.map_drop, List.drop_take]; congr 2; omega))) (A1 rfl))) ?_;refine RM rfl ?_;refine RS (ok_extract rfl rfl) ?_;refine RS (ok_extract rfl rfl) ?_;refine RVN 2 rfl ?_;refine GS (TF 4 (RV 2 rfl ?_));refine RS (ok_conv U47 U46 rfl) ?_;refine RZ (u32V (nextW l (sched l j) j)) (by rw [nextW, if_pos hj16, word, u32V_ofNat, getV, if_pos (by simp; omega), wrap_u32_nat]) ?_;refine RS (ok_index0 _ U155 info46 rfl rfl (rfl) (by omega)) ?_;refine RN ?_;refine ⟨_, eff_storeS (n := 202) (s := 1000007) info46 rfl rfl rfl hBb7 rfl (by rw [table_length (by rw [sched_length]; omega)]; omega) (LO 1 rfl (LT 1000002 rfl (LT 1000004 rfl (LB 1000005 rfl (LW [2,4,5,7,8] rfl))))), ?_⟩
   refine TL (RN (A.exit (End.exit_then (End.exit_here (EN (GTE (RV 2 rfl ?_)))))));refine RZ (.int .i64 ((j + 1 : Nat) : Int)) (by rw [wrap_i64 (by omega) (by omega)]; first | rfl | (congr 1; omega)) ?_;refine RVN 1 rfl ?_;refine End.sub (Sv [1,2,4,5,7,8,1000002,1000004,1000005,1000007] rfl) ?_;refine End.normal_then ?_;refine End.again (j + 1) ?_ ?_ ?_
   ·show _ ≤ _; omega
   ·show _ - _ < _ - _; omega
   ·exact (KC 1 rfl (KC 2 rfl (KC 4 rfl (KC 5 rfl (KC 7 rfl (KC 8 rfl (KC 1000002 rfl (KC 1000004 rfl (KC 1000005 rfl (KE 1000007 rfl (by rw [table_set (sched_length l j) hlt]; rfl) KN))))))))))
  ·have hj16 : ¬ j < 16 := by simp at hc35; omega
   refine QK (GTD (RV 2 rfl ?_));refine RZ (.int .i64 ((j - 15 : Nat) : Int)) (by rw [wrap_i64 (by omega) (by omega)]; first | rfl | (congr 1; omega)) ?_;refine RS (ok_index0 _ U155 info46 rfl rfl (rfl) (by omega)) ?_;refine RS (ok_loadV (s := 1000007) (by decide) U46 rfl rfl rfl (table_get (by rw [sched_length]; omega))) ?_;refine RV 2 rfl ?_;refine RZ (.int .i64 ((j - 2 : Nat) : Int)) (by rw [wrap_i64 (by omega) (by omega)]; first | rfl | (congr 1; omega)) ?_;refine RS (ok_index0 _ U155 info46 rfl rfl (rfl) (by omega)) ?_;refine RS (ok_loadV (s := 1000007) (by decide) U46 rfl rfl rfl (table_get (by rw [sched_length]; omega))) ?_;refine RVN 2 rfl ?_;refine A.reg (by kernel_rfl) (by kernel_rfl) (.inr (by kernel_rfl)) ?_;refine TD 29 ?_;refine RV 3 rfl ?_;refine RZ (.int .i64 ((j - 16 : Nat) : Int)) (by rw [wrap_i64 (by omega) (by omega)]; first | rfl | (congr 1; omega)) ?_;refine RS (ok_index0 _ U155 info46 rfl rfl (rfl) (by omega)) ?_;refine RS (ok_loadV (s := 1000007) (by decide) U46 rfl rfl rfl (table_get (by rw [sched_length]; omega))) ?_;refine RV 2 rfl ?_;refine RZ (.int .i64 ((j - 7 : Nat) : Int)) (by rw [wrap_i64 (by omega) (by omega)]; first | rfl | (congr 1; omega)) ?_;refine RS (ok_index0 _ U155 info46 rfl rfl (rfl) (by omega)) ?_;refine RS (ok_loadV (s := 1000007) (by decide) U46 rfl rfl rfl (table_get (by rw [sched_length]; omega))) ?_;refine RS (ok_add32 rfl rfl) ?_;refine RM rfl ?_;refine RS (ok_call (refrotr_fn _ 7 (by decide) (by decide)) (A2 rfl rfl)) ?_;refine RM rfl ?_;refine RS (ok_call (refrotr_fn _ 18 (by decide) (by decide)) (A2 rfl rfl)) ?_;refine RS (ok_xor32 rfl rfl) ?_;refine RM rfl ?_;refine RS (ok_shr32 3 rfl rfl rfl (by decide)) ?_;refine RS (ok_xor32 rfl rfl) ?_;refine RS (ok_add32 rfl rfl) ?_;refine RM rfl ?_;refine RS (ok_call (refrotr_fn _ 17 (by decide) (by decide)) (A2 rfl rfl)) ?_;refine RM rfl ?_;refine RS (ok_call (refrotr_fn _ 19 (by decide) (by decide)) (A2 rfl rfl)) ?_;refine RS (ok_xor32 rfl rfl) ?_;refine RM rfl ?_;refine RS (ok_shr32 10 rfl rfl rfl (by decide)) ?_;refine RS (ok_xor32 rfl rfl) ?_;refine RS (ok_add32 rfl rfl) ?_;refine RZ (u32V (nextW l (sched l j) j)) (by rw [nextW, if_neg hj16]; rfl) ?_;refine RS (ok_index0 _ U155 info46 rfl rfl (rfl) (by omega)) ?_;refine RN ?_;refine ⟨_, eff_storeS (n := 202) (s := 1000007) info46 rfl rfl rfl hBb7 rfl (by rw [table_length (by rw [sched_length]; omega)]; omega) (LO 1 rfl (LT 1000002 rfl (LT 1000004 rfl (LB 1000005 rfl (LW [2,4,5,7,8] rfl))))), ?_⟩
   refine TL (RN (End.sub (Sv [1,2,4,5,7,8,1000002,1000004,1000005,1000007] rfl) ?_));refine End.normal_block (EN (GTE (RV 2 rfl ?_)));refine RZ (.int .i64 ((j + 1 : Nat) : Int)) (by rw [wrap_i64 (by omega) (by omega)]; first | rfl | (congr 1; omega)) ?_;refine RVN 1 rfl ?_;refine End.normal_then ?_;refine End.again (j + 1) ?_ ?_ ?_
   ·show _ ≤ _; omega
   ·show _ - _ < _ - _; omega
   ·exact (KC 1 rfl (KC 2 rfl (KC 4 rfl (KC 5 rfl (KC 7 rfl (KC 8 rfl (KC 1000002 rfl (KC 1000004 rfl (KC 1000005 rfl (KE 1000007 rfl (by rw [table_set (sched_length l j) hlt]; rfl) KN))))))))))
 ·obtain rfl : j = 64 := by simp at hc31; omega
  refine A.exit (End.exit_then (End.exit_then (End.exit_here (EN (GTD (RS (ok_index0 (0) U156 info46 rfl rfl (rfl) (by decide)) ?_))))));refine RLV 1000002 U46 rfl rfl rfl ?_;refine RS (ok_index0 (1) U156 info46 rfl rfl (rfl) (by decide)) ?_;refine RLV 1000002 U46 rfl rfl rfl ?_;refine RS (ok_index0 (2) U156 info46 rfl rfl (rfl) (by decide)) ?_;refine RLV 1000002 U46 rfl rfl rfl ?_;refine RS (ok_index0 (3) U156 info46 rfl rfl (rfl) (by decide)) ?_;refine RLV 1000002 U46 rfl rfl rfl ?_;refine RS (ok_index0 (4) U156 info46 rfl rfl (rfl) (by decide)) ?_;refine RLV 1000002 U46 rfl rfl rfl ?_;refine RS (ok_index0 (5) U156 info46 rfl rfl (rfl) (by decide)) ?_;refine RLV 1000002 U46 rfl rfl rfl ?_;refine RS (ok_index0 (6) U156 info46 rfl rfl (rfl) (by decide)) ?_;refine RLV 1000002 U46 rfl rfl rfl ?_;refine RS (ok_index0 (7) U156 info46 rfl rfl (rfl) (by decide)) ?_;refine RLV 1000002 U46 rfl rfl rfl ?_;refine RVN 8 rfl ?_;refine A.sub (Sv [2,4,5,7,13,14,15,16,17,18,19,20,1000002,1000004,1000005,1000007] rfl) ?_;refine QS (GV rfl (A.block ?_));refine A.loop (ι := Nat) (fun i => i ≤ 64) (fun i => [(2, .v (.pointer (some ⟨b2,0, none⟩))), (4, .v (.pointer (some ⟨b4,0, none⟩))), (5, .v (.pointer (some ⟨b5,0, none⟩))), (7, .v (.pointer (some ⟨b7,0, none⟩))), (13, .v (u32V (rounds h K64 (sched l 64) i).a)), (14, .v (u32V (rounds h K64 (sched l 64) i).b)), (15, .v (u32V (rounds h K64 (sched l 64) i).c)), (16, .v (u32V (rounds h K64 (sched l 64) i).d)), (17, .v (u32V (rounds h K64 (sched l 64) i).e)), (18, .v (u32V (rounds h K64 (sched l 64) i).f)), (19, .v (u32V (rounds h K64 (sched l 64) i).g)), (20, .v (u32V (rounds h K64 (sched l 64) i).h)), (21, .v (.int .i64 ((i : Nat) : Int))), (1000002, blk b2 156 (h.list.map u32V)), (1000004, blk b4 156 (List.replicate 8 (.int .u32 0))), (1000005, blk b5 155 (K64.map u32V)), (1000007, blk b7 155 (table (sched l 64) 64))]) (fun i => 64 - i) 0 ?_ ?_ ?_
  ·exact Nat.zero_le _
  ·exact (Sv [2,4,5,7,13,14,15,16,17,18,19,20,21,1000002,1000004,1000005,1000007] rfl)
  intro i hi
  refine QS (GV rfl ?_);refine A.cond rfl (fun hc105 => ?_) (fun hc105 => ?_)
  ·have hlt : i < 64 := by simp at hc105; omega
   refine QK (QSB (GT (RV 2 rfl ?_)));refine RS (ok_and32 rfl rfl) ?_;refine RM rfl ?_;refine RS (ok_not32 rfl) ?_;refine RM rfl ?_;refine RS (ok_and32 rfl rfl) ?_;refine RS (ok_or32 rfl rfl) ?_;refine RZ (u32V (choice (rounds h K64 (sched l 64) i).e (rounds h K64 (sched l 64) i).f (rounds h K64 (sched l 64) i).g)) (by rw [choice_or]) ?_;refine RVN 1 rfl ?_;refine GT (RV 2 rfl ?_);refine RS (ok_and32 rfl rfl) ?_;refine RV 2 rfl ?_;refine RS (ok_and32 rfl rfl) ?_;refine RS (ok_or32 rfl rfl) ?_;refine RV 2 rfl ?_;refine RS (ok_and32 rfl rfl) ?_;refine RS (ok_or32 rfl rfl) ?_;refine RZ (u32V (most (rounds h K64 (sched l 64) i).a (rounds h K64 (sched l 64) i).b (rounds h K64 (sched l 64) i).c)) (by rw [most_or]) ?_;refine RVN 1 rfl ?_;refine GTD (RV 2 rfl ?_);refine RS (ok_call (refrotr_fn _ 6 (by decide) (by decide)) (A2 rfl rfl)) ?_;refine RM rfl ?_;refine RS (ok_call (refrotr_fn _ 11 (by decide) (by decide)) (A2 rfl rfl)) ?_;refine RS (ok_xor32 rfl rfl) ?_;refine RM rfl ?_;refine RS (ok_call (refrotr_fn _ 25 (by decide) (by decide)) (A2 rfl rfl)) ?_;refine RS (ok_xor32 rfl rfl) ?_;refine RS (ok_add32 rfl rfl) ?_;refine RM rfl ?_;refine RS (ok_add32 rfl rfl) ?_;refine RM rfl ?_;refine RS (ok_index0 _ U155 info46 rfl rfl (rfl) (by omega)) ?_;refine RS (ok_loadV (s := 1000005) (by decide) U46 rfl rfl rfl (map_get32 (by rw [K64_lit]; omega))) ?_;refine RS (ok_add32 rfl rfl) ?_;refine RM rfl ?_;refine RS (ok_index0 _ U155 info46 rfl rfl (rfl) (by omega)) ?_;refine RS (ok_loadV (s := 1000007) (by decide) U46 rfl rfl rfl (table_get (by rw [sched_length]; omega))) ?_;refine RS (ok_add32 rfl rfl) ?_;refine RVN 1 rfl ?_;refine A.sub (Sv [2,4,5,7,13,14,15,16,17,18,19,21,23,24,1000002,1000004,1000005,1000007] rfl) ?_;refine GT (RM rfl ?_);refine RS (ok_call (refrotr_fn _ 2 (by decide) (by decide)) (A2 rfl rfl)) ?_;refine RM rfl ?_;refine RS (ok_call (refrotr_fn _ 13 (by decide) (by decide)) (A2 rfl rfl)) ?_;refine RS (ok_xor32 rfl rfl) ?_;refine RM rfl ?_;refine RS (ok_call (refrotr_fn _ 22 (by decide) (by decide)) (A2 rfl rfl)) ?_;refine RS (ok_xor32 rfl rfl) ?_;refine RM rfl ?_;refine RS (ok_add32 rfl rfl) ?_;refine RVN 1 rfl ?_;refine GTE (RV 5 rfl ?_);refine RS (ok_add32 rfl rfl) ?_;refine RV 5 rfl ?_;refine RS (ok_add32 rfl rfl) ?_;refine RVN 8 rfl ?_;refine End.sub (Sv [2,4,5,7,13,14,15,16,17,18,19,20,21,1000002,1000004,1000005,1000007] rfl) ?_;refine End.normal_block (EN (GTE (RV 2 rfl ?_)));refine RZ (.int .i64 ((i + 1 : Nat) : Int)) (by rw [wrap_i64 (by omega) (by omega)]; first | rfl | (congr 1; omega)) ?_;refine RVN 1 rfl ?_;refine End.normal_then ?_;refine End.again (i + 1) ?_ ?_ ?_
   ·show _ ≤ _; omega
   ·show _ - _ < _ - _; omega
   ·exact (Sv [2,4,5,7,13,14,15,16,17,18,19,20,21,1000002,1000004,1000005,1000007] rfl)
  ·obtain rfl : i = 64 := by simp at hc105; omega
   refine A.exit (End.exit_then (End.exit_then (End.exit_here (EN (GS (TF 33 (RS (ok_index0 (0) U156 info46 rfl rfl (rfl) (by decide)) ?_)))))));refine RLV 1000002 U46 rfl rfl rfl ?_;refine RM rfl ?_;refine RS (ok_add32 rfl rfl) ?_;refine RS (ok_index0 (1) U156 info46 rfl rfl (rfl) (by decide)) ?_;refine RLV 1000002 U46 rfl rfl rfl ?_;refine RM rfl ?_;refine RS (ok_add32 rfl rfl) ?_;refine RS (ok_index0 (2) U156 info46 rfl rfl (rfl) (by decide)) ?_;refine RLV 1000002 U46 rfl rfl rfl ?_;refine RM rfl ?_;refine RS (ok_add32 rfl rfl) ?_;refine RS (ok_index0 (3) U156 info46 rfl rfl (rfl) (by decide)) ?_;refine RLV 1000002 U46 rfl rfl rfl ?_;refine RM rfl ?_;refine RS (ok_add32 rfl rfl) ?_;refine RS (ok_index0 (4) U156 info46 rfl rfl (rfl) (by decide)) ?_;refine RLV 1000002 U46 rfl rfl rfl ?_;refine RM rfl ?_;refine RS (ok_add32 rfl rfl) ?_;refine RS (ok_index0 (5) U156 info46 rfl rfl (rfl) (by decide)) ?_;refine RLV 1000002 U46 rfl rfl rfl ?_;refine RM rfl ?_;refine RS (ok_add32 rfl rfl) ?_;refine RS (ok_index0 (6) U156 info46 rfl rfl (rfl) (by decide)) ?_;refine RLV 1000002 U46 rfl rfl rfl ?_;refine RM rfl ?_;refine RS (ok_add32 rfl rfl) ?_;refine RS (ok_index0 (7) U156 info46 rfl rfl (rfl) (by decide)) ?_;refine RLV 1000002 U46 rfl rfl rfl ?_;refine RM rfl ?_;refine RS (ok_add32 rfl rfl) ?_;refine RS (ok_litA [_, _, _, _, _, _, _, _] U156 info46 zero156 rfl ⟨rfl, rfl, rfl, rfl, rfl, rfl, rfl, rfl, rfl, rfl, rfl, rfl, rfl, rfl, rfl, rfl, trivial⟩ rfl) ?_;refine RZ (aggV ((compress h l).list.map u32V)) (by rw [compress, R8.add_list]) ?_;refine RN ?_;refine ⟨_, eff_storeA (n := 202) (s := 1000004) (size156.of (R8.size _)) rfl rfl (all_u32 _) hBb4 rfl ((R8.size _).symm) (LV 4 rfl (LB 1000002 rfl (LT 1000005 rfl (LT 1000007 rfl LN)))), ?_⟩
   refine TL (RN (A.sub (Sv [4,1000002,1000004,1000005,1000007] rfl) ?_));refine A.ret ?_;exact End.cell1 (s := 1000004) rfl U156 rfl (size156.of (R8.size _)) rfl rfl (Le.refl _)
set_option maxHeartbeats 400000 in
theorem refSum_fn (l : List UInt8) (hl : l.length ≤ 1000000) : Fn Tryz.prog 56 [byt l] (.v (aggV ((sha l).map byteV))) := by
 have hpl := padded_length l
 have hpm := padded_mod l
 refine Fn.of Tryz.func56 rfl (by kernel_rfl) Tryz.ntmps56 (by simp) (fun w => [(0, old w.heap.size (byt l))]) (fun w => (Start.old rfl Start.nil)) fun w₀ => ?_
 refine GS (TN 0 (RN ?_));refine ZN 1000002 zero40 fun b2 ⟨hBb2, hb2⟩ => ?_
 refine TL (RN (GS (TF 2 (RS (ok_build0own U23 info5) ?_))));refine RVN 1 rfl ?_;refine ⟨_, eff_appendS (vs := l.map byteV) U23 info5 (by decide) rfl rfl rfl ((Le.old _ _).trans (Le.eq (byt_vals l))) (by simp [byteV, Value.oneCell']) (by simp; omega) (by decide) (fun g hg => (LO 0 rfl (LV 2 rfl (LT 1000002 rfl LN)))), ?_⟩
 refine TF 4 (RS (ok_build [byteD 128] U23 info5 rfl (by decide) (by decide) rfl ⟨rfl, rfl, trivial⟩ (fun d hd w x h => by simp only [List.mem_cons, List.not_mem_nil, or_false] at hd; rcases hd with rfl; exact v_one rfl h)) ?_);refine RN ?_;refine ⟨_, eff_appendS (vs := [byteV 128]) U23 info5 (by decide) rfl rfl rfl (le_lst _ _) (by simp [byteV, Value.oneCell']) (by simp; omega) (by decide) (fun g hg => (LO 0 rfl (LV 2 rfl (LT 1000002 rfl LN)))), ?_⟩
 refine TL (RVN 1 rfl ?_);refine QSB ?_;refine A.loop (ι := Nat) (fun z => z ≤ ((119 - l.length % 64) % 64)) (fun z => [(0, old w₀.heap.size (byt l)), (2, .v (.pointer (some ⟨b2,0, none⟩))), (3, own w₀.heap.size 5 (l.length + 1 + z) ((l ++ 128 :: List.replicate z 0).map byteV)), (1000002, blk b2 40 (List.replicate 32 (.int .u8 0)))]) (fun z => ((119 - l.length % 64) % 64) - z) 0 ?_ ?_ ?_
 ·exact Nat.zero_le _
 ·exact (KC 0 rfl (KC 2 rfl (KE 3 rfl (by simp) (KC 1000002 rfl KN))))
 intro z hz
 refine QS (GT (RM rfl ?_));refine RS (ok_lenB U23 rfl (own_byt (by simp; omega))) ?_;refine RZ (.int .i64 ((l.length + 1 + z : Nat) : Int)) (by congr 2; simp; omega) ?_;refine RS (ok_rem rfl rfl (by decide)) ?_;refine RZ (.int .i64 (((l.length + 1 + z) % 64 : Nat) : Int)) (by rw [tmod_lit _ (by decide)]; rfl) ?_;refine RVN 1 rfl ?_;refine A.cond rfl (fun hc19 => ?_) (fun hc19 => ?_)
 ·have hzl : z < ((119 - l.length % 64) % 64) := by simp at hc19; omega
  refine QK (A.block (GE (TF 2 (RM rfl ?_))));refine RS (ok_build [byteD 0] U23 info5 rfl (by decide) (by decide) rfl ⟨rfl, rfl, trivial⟩ (fun d hd w x h => by simp only [List.mem_cons, List.not_mem_nil, or_false] at hd; rcases hd with rfl; exact v_one rfl h)) ?_;refine RN ?_;refine ⟨_, eff_appendS (vs := [byteV 0]) U23 info5 (by decide) rfl rfl rfl (le_lst _ _) (by simp [byteV, Value.oneCell']) (by simp; omega) (by decide) (fun g hg => (LO 0 rfl (LV 2 rfl (LT 1000002 rfl LN)))), ?_⟩
  refine TL (RVN 1 rfl ?_);refine End.normal_block (End.normal_then ?_);refine End.again (z + 1) ?_ ?_ ?_
  ·show _ ≤ _; omega
  ·show _ - _ < _ - _; omega
  ·exact (KC 0 rfl (KC 2 rfl (KE 3 rfl (by rw [List.replicate_succ']; simp [Nat.add_assoc]) (KC 1000002 rfl KN))))
 ·obtain rfl : z = ((119 - l.length % 64) % 64) := by simp at hc19; omega
  refine A.exit (End.exit_then (End.exit_then (End.exit_here (EN (GS (TF 6 (RV 2 rfl ?_)))))));refine RS (ok_lenB U23 rfl (Le.old _ _)) ?_;refine RS (ok_conv U3 U47 rfl) ?_;refine RZ (.int .u64 ((l.length : Nat) : Int)) (by rw [wrapN_u64 (by omega)]) ?_;refine RB rfl rfl rfl ?_;refine RZ (.int .u64 ((8 * l.length : Nat) : Int)) (by rw [wrap_u64 (by omega) (by omega)]; congr 1) ?_;refine RS (ok_call (refPut64_fn ((8 * l.length : Nat) : Int) (by omega) (by omega)) (A1 rfl)) ?_;refine RN ?_;refine ⟨_, eff_appendS (vs := (be 8 (8 * l.length)).map byteV) U23 info5 (by decide) rfl rfl rfl ((le_byt _ _).trans (Le.eq (byt_vals _))) (by simp [byteV, Value.oneCell']) (by simp [be_length]; omega) (by decide) (fun g hg => (LV 2 rfl (LT 1000002 rfl LN))), ?_⟩
  refine TL (RVN 1 rfl ?_);refine GS (TN 4 (RS (ok_call refConstants_fn Args.nil) ?_));refine RM rfl ?_;refine RS (ok_extract rfl rfl) ?_;refine RS (ok_extract rfl rfl) ?_;refine RN ?_;refine ZN 1000004 zero155 fun b4 ⟨hBb4, hb4⟩ => ?_
  refine TN 5 (RN ?_);refine ZN 1000005 zero156 fun b5 ⟨hBb5, hb5⟩ => ?_
  refine TF 6 (RN ?_);refine ZA 1000004 (size155.of rfl) hBb4 rfl rfl rfl (LeftS.cons (t := 3) rfl (Surv.own (by decide)) (LT 1000002 rfl (LT 1000005 rfl (LW [2,5,33] rfl)))) ?_;refine TF 7 (RN ?_);refine ⟨_, eff_storeA (n := 69) (s := 1000005) (size156.of (R8.size _)) rfl rfl (all_u32 _) hBb5 rfl (by first | exact (R8.size _).trans (R8.size _).symm | rfl) (LeftS.cons (t := 3) rfl (Surv.own (by decide)) (LT 1000002 rfl (LT 1000004 rfl (LW [2,5] rfl)))), ?_⟩
  refine TL (RN (QS (GV rfl (A.block ?_))));refine A.loop (ι := Nat) (fun k => k ≤ ((padded l).length / 64)) (fun k => [(2, .v (.pointer (some ⟨b2,0, none⟩))), (3, own w₀.heap.size 5 ((padded l).length) ((padded l).map byteV)), (5, .v (.pointer (some ⟨b5,0, none⟩))), (6, .v (.int .i64 ((64 * k : Nat) : Int))), (1000002, blk b2 40 (List.replicate 32 (.int .u8 0))), (1000005, blk b5 156 ((chain H8 (padded l) k).list.map u32V))]) (fun k => ((padded l).length / 64) - k) 0 ?_ ?_ ?_
  ·exact Nat.zero_le _
  ·exact (KC 2 rfl (KE 3 rfl (by rw [hpl]; simp [padded, be_length, Nat.add_assoc]) (KC 5 rfl (KC 6 rfl (KC 1000002 rfl (KC 1000005 rfl KN))))))
  intro k hk
  refine QS (GT (RV 2 rfl ?_));refine RS (ok_lenB U23 rfl (own_byt rfl)) ?_;refine RVN 1 rfl ?_;refine A.cond rfl (fun hc37 => ?_) (fun hc37 => ?_)
  ·have hlt : 64 * k < (padded l).length := by simp at hc37; omega
   have hk1 : k < ((padded l).length / 64) := by omega
   refine QK (QSB (A.reg (by kernel_rfl) (by kernel_rfl) (.inr (by kernel_rfl)) ?_));refine TD 7 ?_;refine RL 1000005 U156 rfl rfl (size156.of (R8.size _)) ?_;refine RV 4 rfl ?_;refine RZ (.int .i64 ((64 * k + 64 : Nat) : Int)) (by rw [wrap_i64 (by omega) (by omega)]; first | rfl | (congr 1; omega)) ?_;refine RS (ok_slice (64 * k) (64 * k + 64) U23 info5 rfl (own_byt rfl) (.inl ⟨_, _, rfl, rfl⟩) (.inl ⟨_, _, rfl, rfl⟩) (by omega) (by simp; omega)) ?_;refine RS (ok_call (refCompress_fn (chain H8 (padded l) k) (((padded l).drop (64 * k)).take 64) (by simp; omega)) (Args.cons rfl (Le.refl _) (Args.cons rfl (Le.eq (by simp only [byt, List.map_take, List.map_drop, List.drop_take]; congr 2; omega)) Args.nil))) ?_;refine RZ (aggV ((chain H8 (padded l) (k + 1)).list.map u32V)) (rfl) ?_;refine RN ?_;refine ⟨_, eff_storeA (n := 69) (s := 1000005) (size156.of (R8.size _)) rfl rfl (all_u32 _) hBb5 rfl (by first | exact (R8.size _).trans (R8.size _).symm | rfl) (LeftS.cons (t := 3) rfl (Surv.own (by decide)) (LT 1000002 rfl (LW [2,5,6] rfl))), ?_⟩
   refine TL (RN (End.normal_block (EN (GTE (RV 2 rfl ?_)))));refine RZ (.int .i64 ((64 * (k + 1) : Nat) : Int)) (by rw [wrap_i64 (by omega) (by omega)]; first | rfl | (congr 1; omega)) ?_;refine RVN 1 rfl ?_;refine End.normal_then ?_;refine End.again (k + 1) ?_ ?_ ?_
   ·show _ ≤ _; omega
   ·show _ - _ < _ - _; omega
   ·exact (Sv [2,3,5,6,1000002,1000005] rfl)
  ·obtain rfl : k = ((padded l).length / 64) := by simp at hc37; omega
   refine A.exit (End.exit_then (End.exit_then (End.exit_here (EN (GS (TN 0 (RN ?_)))))));refine ZN 1000007 zero40 fun b7 ⟨hBb7, hb7⟩ => ?_
   have hlt_b2_b7 := hb7 1000002 b2 _ _ rfl
   refine TL (RN (QS (GV rfl (A.block ?_))));refine A.loop (ι := Nat) (fun i => i ≤ 8) (fun i => [(2, .v (.pointer (some ⟨b2,0, none⟩))), (5, .v (.pointer (some ⟨b5,0, none⟩))), (7, .v (.pointer (some ⟨b7,0, none⟩))), (8, .v (.int .i64 ((i : Nat) : Int))), (1000002, blk b2 40 (List.replicate 32 (.int .u8 0))), (1000005, blk b5 156 ((shaR l).list.map u32V)), (1000007, blk b7 40 (tableB ((sha l).take (4 * i)) 32))]) (fun i => 8 - i) 0 ?_ ?_ ?_
   ·exact Nat.zero_le _
   ·exact (KC 2 rfl (KC 5 rfl (KC 7 rfl (KC 8 rfl (KC 1000002 rfl (KC 1000005 rfl (KE 1000007 rfl (by rw [Nat.mul_zero, List.take_zero, ← tableB_nil]) KN)))))))
   intro i hi
   refine QS (GV rfl ?_);refine A.cond rfl (fun hc48 => ?_) (fun hc48 => ?_)
   ·have hi8 : i < 8 := by simp at hc48; omega
    refine QK (QSB (GT (RM rfl ?_)));refine RS (ok_index0 _ U156 info46 rfl rfl (rfl) (by omega)) ?_;refine RS (ok_loadV (s := 1000005) (by decide) U46 rfl rfl rfl (map_get32 (by show i < 8; omega))) ?_;refine RS (ok_callB (refPut32_fnB ((((shaR l).list.getD i 0).toNat : Nat) : Int) (Int.natCast_nonneg _) (by have := u32_lt ((shaR l).list.getD i 0); omega)) (fun _ _ => fresh_mono _ _) (A1 rfl)) ?_;refine RVN 1 rfl ?_;refine GV rfl (A.block ?_);refine A.loop (ι := Nat) (fun k => k ≤ 4) (fun k => [(2, .v (.pointer (some ⟨b2,0, none⟩))), (5, .v (.pointer (some ⟨b5,0, none⟩))), (7, .v (.pointer (some ⟨b7,0, none⟩))), (8, .v (.int .i64 ((i : Nat) : Int))), (9, fresh w₀.heap.size 5 ((be 4 ((shaR l).list.getD i 0).toNat).map byteV) 4), (10, .v (.int .i64 ((k : Nat) : Int))), (1000002, blk b2 40 (List.replicate 32 (.int .u8 0))), (1000005, blk b5 156 ((shaR l).list.map u32V)), (1000007, blk b7 40 (tableB ((sha l).take (4 * i + k)) 32))]) (fun k => 4 - k) 0 ?_ ?_ ?_
    ·exact Nat.zero_le _
    ·exact (Sv [2,5,7,8,9,10,1000002,1000005,1000007] rfl)
    intro k hk
    refine QS (GV rfl ?_);refine A.cond rfl (fun hc56 => ?_) (fun hc56 => ?_)
    ·have hk4 : k < 4 := by simp at hc56; omega
     refine QK (QSB (GE (TF 9 (RV 2 rfl ?_))));refine RZ (.int .i64 ((4 * i : Nat) : Int)) (by rw [wrap_i64 (by omega) (by omega)]; first | rfl | (congr 1; omega)) ?_;refine RV 2 rfl ?_;refine RZ (.int .i64 ((4 * i + k : Nat) : Int)) (by rw [wrap_i64 (by omega) (by omega)]; first | rfl | (congr 1; omega)) ?_;refine RV 2 rfl ?_;refine RS (ok_index (d := byteD ((sha l).getD (4 * i + k) 0)) U23 info5 rfl ((fresh_bytes (l := be 4 ((shaR l).list.getD i 0).toNat) (by rw [be_length]) (by decide)).trans (le_byt _ _)) rfl (by omega) (by rw [Int.toNat_natCast, List.getElem?_map, sha_get l (by omega) (by omega)]; rfl)) ?_;refine RS (ok_load U5 rfl rfl) ?_;refine RS (ok_index0 _ U40 info5 rfl rfl (rfl) (by omega)) ?_;refine RN ?_;refine ⟨_, eff_storeS (n := 69) (s := 1000007) info5 rfl rfl rfl hBb7 rfl (by rw [tableB_length (by simp [sha_length]; omega)]; omega) (LeftS.cons (t := 9) rfl (Surv.fresh (by decide)) (LB 1000002 rfl (LT 1000005 rfl (LW [2,5,7,8,10] rfl)))), ?_⟩
     refine TL (RN (End.normal_block (EN (GTE (RV 2 rfl ?_)))));refine RZ (.int .i64 ((k + 1 : Nat) : Int)) (by rw [wrap_i64 (by omega) (by omega)]; first | rfl | (congr 1; omega)) ?_;refine RVN 1 rfl ?_;refine End.normal_then ?_;refine End.again (k + 1) ?_ ?_ ?_
     ·show _ ≤ _; omega
     ·show _ - _ < _ - _; omega
     ·exact (KC 2 rfl (KC 5 rfl (KC 7 rfl (KC 8 rfl (KC 9 rfl (KC 10 rfl (KC 1000002 rfl (KC 1000005 rfl (KE 1000007 rfl (by rw [tableB_step (sha_length l) (by omega)]; rfl) KN)))))))))
    ·obtain rfl : k = 4 := by simp at hc56; omega
     refine A.exit (End.exit_then (End.exit_then (End.exit_here (End.normal_block (EN (GTE (RV 2 rfl ?_)))))));refine RZ (.int .i64 ((i + 1 : Nat) : Int)) (by rw [wrap_i64 (by omega) (by omega)]; first | rfl | (congr 1; omega)) ?_;refine RVN 1 rfl ?_;refine End.normal_then ?_;refine End.again (i + 1) ?_ ?_ ?_
     ·show _ ≤ _; omega
     ·show _ - _ < _ - _; omega
     ·exact (Sv [2,5,7,8,1000002,1000005,1000007] rfl)
   ·obtain rfl : i = 8 := by simp at hc48; omega
    refine A.exit (End.exit_then (End.exit_then (End.exit_here (EN (GS (TF 1 (RL 1000007 U40 rfl rfl (size40.of (by rw [tableB_length (by simp [sha_length])])) ?_)))))));refine RZ (aggV ((sha l).map byteV)) (by rw [tableB_full (by simp [sha_length]), List.take_of_length_le (by rw [sha_length]; decide)]) ?_;refine RN ?_;refine ⟨_, eff_storeA (n := 69) (s := 1000002) (size40.of (by rw [List.length_map, sha_length])) rfl rfl (all_bytes _) hBb2 rfl (by rw [List.length_map, sha_length, List.length_replicate]) (LV 2 rfl (LT 1000005 rfl (LB 1000007 rfl LN))), ?_⟩
    refine TL (RN (A.ret ?_));exact End.cell1 (s := 1000002) rfl U40 rfl (size40.of (by rw [List.length_map, sha_length])) rfl rfl (Le.refl _)
theorem rot_amount (n : Int) : ∃ s : Nat, s < 32 ∧ n % 32 = (s : Int) ∧ (n % 18446744073709551616 % 32 = (s : Int)) := ⟨(n % 32).toNat, by omega, by omega, by omega⟩
theorem RotateLeft32_fn (v n : Int) (hv0 : 0 ≤ v) (hv : v < 4294967296) : Fn Tryz.prog 164 [.v (.int .u32 v), .v (.int .i64 n)] (.v (.int .u32 (rotB v.toNat (n % 32).toNat))) := by
 obtain ⟨V, rfl⟩ := Int.eq_ofNat_of_zero_le hv0
 obtain ⟨s, hs, h1, h2⟩ := rot_amount n
 obtain ⟨M, hM⟩ := Int.eq_ofNat_of_zero_le (Int.emod_nonneg n (show (18446744073709551616 : Int) ≠ 0 by decide))
 have hMlt : M < 18446744073709551616 := by omega
 have hMs : M % 32 = s := by omega
 rw [h1]
 simp only [Int.toNat_natCast]
 refine FV Tryz.func164 rfl Tryz.ntmps164 rfl fun w₀ => ?_
 refine GV rfl (GT (RM rfl ?_));refine RS (ok_conv U3 U161 rfl) ?_;refine RZ (.int .u64 (M : Int)) (by rw [wrap_u64_int, hM]) ?_;refine RB rfl rfl rfl ?_;refine RZ (.int .u64 (s : Int)) (by rw [show IntKind.u64.bits = 64 from rfl, show (31 : Int) = ((31 : Nat) : Int) from rfl, and_u64_nat hMlt (by decide), and31, hMs]) ?_;refine RVN 1 rfl ?_;refine GT (RV 2 rfl ?_);refine RS (ok_shl rfl rfl (by omega)) ?_;refine RZ (.int .u32 ((V * 2 ^ s % 4294967296 : Nat) : Int)) (by rw [Int.toNat_natCast, show min s IntKind.u32.bits = s from by simp only [IntKind.bits]; omega, ← wrap_u32_nat]; congr 2) ?_;refine RV 3 rfl ?_;refine RZ (.int .u64 ((32 - s : Nat) : Int)) (by rw [wrap_u64 (by omega) (by omega)]; congr 1; omega) ?_;refine RS (ok_shr rfl rfl (by omega)) ?_;refine RZ (.int .u32 ((V / 2 ^ (32 - s) : Nat) : Int)) (by rw [Int.toNat_natCast, show min (32 - s) IntKind.u32.bits = 32 - s from by simp only [IntKind.bits]; omega, shr_nat]) ?_;refine RB rfl rfl rfl ?_;refine RZ (.int .u32 ((rotB V s : Nat) : Int)) (by rw [show IntKind.u32.bits = 32 from rfl, or_u32_nat (Nat.mod_lt _ (by decide)) (Nat.lt_of_le_of_lt (Nat.div_le_self _ _) (by omega)), rotB_go (by omega) hs]) ?_;refine RVN 1 rfl ?_;refine A.ret ?_;exact ER rfl rfl
theorem Rot_fn (v n : Int) (hv0 : 0 ≤ v) (hv : v < 4294967296) : Fn Tryz.prog 162 [.v (.int .u32 v), .v (.int .i64 n)] (.v (.int .u32 (rotB v.toNat (n % 32).toNat))) := by
 refine FV Tryz.func162 rfl Tryz.ntmps162 rfl fun w₀ => ?_
 refine GV rfl (GT (RV 2 rfl ?_));refine RS (ok_call (RotateLeft32_fn v n hv0 hv) (Args.cons rfl LA (Args.cons rfl LA Args.nil))) ?_;refine RVN 1 rfl ?_;refine A.ret ?_;exact ER rfl rfl
abbrev tabs : Env := [(1900002, tab 2 (H8.list.map u32V)), (1900003, tab 3 (K64.map u32V))]
theorem tabs_v : ∀ p ∈ tabs, vbase ≤ p.1 := fun p hp => by
 simp only [tabs, List.mem_cons, List.not_mem_nil, or_false] at hp
 rcases hp with rfl | rfl <;> decide
theorem tabs_hi {w : World} (h : ∀ p ∈ tabs, p.2.Of w undef) : 3 < w.heap.size := by
 have := h (1900003, tab 3 (K64.map u32V)) (by simp [tabs])
 exact this.1
theorem size223 : SizeIs Tryz.prog 223 64 := by unfold SizeIs; kernel_rfl
theorem rotr_fn (x : UInt32) (n : Nat) (hn0 : 0 < n) (hn : n < 32) : Fn Tryz.prog 159 [.v (u32V x), .v (.int .i64 (n : Int))] (.v (u32V (rotr32 x n))) := by
 have hx := u32_lt x
 refine FV Tryz.func159 rfl Tryz.ntmps159 rfl fun w₀ => ?_
 refine GV rfl (GT (RV 2 rfl ?_));refine RS (ok_neg rfl) ?_;refine RZ (.int .i64 (-(n : Int))) (by rw [wrap_i64 (by omega) (by omega)]; congr 1; omega) ?_;refine RS (ok_call (Rot_fn (x.toNat : Int) (-(n : Int)) (Int.natCast_nonneg _) (by omega)) (A2 rfl rfl)) ?_;refine RZ (u32V (rotr32 x n)) (by rw [rotr32_val, Int.toNat_natCast, show (-(n : Int) % 32).toNat = 32 - n from by omega]) ?_;refine RVN 1 rfl ?_;refine A.ret ?_;exact ER rfl rfl
set_option maxHeartbeats 400000 in
theorem schedule_fn (l : List UInt8) (hl : l.length = 64) : Fn Tryz.prog 156 [.v (aggV (l.map byteV))] (.v (aggV ((sched l 64).map u32V))) := by
 refine FV Tryz.func156 rfl Tryz.ntmps156 rfl fun w₀ => ?_
 refine GS (TN 0 (RN ?_));refine ZB 1000001 rfl fun b1 ⟨hBb1, hb1⟩ => ?_
 refine TN 1 (RN ?_);refine ZN 1000002 zero155 fun b2 ⟨hBb2, hb2⟩ => ?_
 refine TL (RN (GS (TN 0 (RN ?_))));refine ZN 1000003 zero155 fun b3 ⟨hBb3, hb3⟩ => ?_
 have hlt_b2_b3 := hb3 1000002 b2 _ _ rfl
 refine TL (RN (QS (GV rfl (A.block ?_))));refine A.loop (ι := Nat) (fun j => j ≤ 16) (fun j => [(1, .v (.pointer (some ⟨b1,0, none⟩))), (2, .v (.pointer (some ⟨b2,0, none⟩))), (3, .v (.pointer (some ⟨b3,0, none⟩))), (10, .v (.int .i64 ((j : Nat) : Int))), (1000001, blk b1 223 (l.map byteV)), (1000002, blk b2 155 (List.replicate 64 (.int .u32 0))), (1000003, blk b3 155 (table (sched l j) 64))]) (fun j => 16 - j) 0 ?_ ?_ ?_
 ·exact Nat.zero_le _
 ·exact (KC 1 rfl (KC 2 rfl (KC 3 rfl (KC 10 rfl (KC 1000001 rfl (KC 1000002 rfl (KE 1000003 rfl (rfl) KN)))))))
 intro j hj
 refine GV rfl (QS ?_);refine A.cond rfl (fun hc11 => ?_) (fun hc11 => ?_)
 ·have hlt : j < 16 := by simp at hc11; omega
  refine QK (QSB (GV rfl (GE (TF 12 (RV 3 rfl ?_)))));refine RZ (.int .i64 ((4 * j : Nat) : Int)) (by rw [wrap_i64 (by omega) (by omega)]; first | rfl | (congr 1; omega)) ?_;refine RV 2 rfl ?_;refine RZ (.int .i64 ((j + 1 : Nat) : Int)) (by rw [wrap_i64 (by omega) (by omega)]; first | rfl | (congr 1; omega)) ?_;refine RB rfl rfl rfl ?_;refine RZ (.int .i64 ((4 * j + 4 : Nat) : Int)) (by rw [wrap_i64 (by omega) (by omega)]; first | rfl | (congr 1; omega)) ?_;refine RS (ok_sliceA (s := 1000001) (4 * j) (4 * j + 4) (by decide) U223 info5 rfl rfl (.inl ⟨_, _, rfl, rfl⟩) (.inl ⟨_, _, rfl, rfl⟩) (by omega) (by omega) (by rw [List.length_map, hl]) (by decide)) ?_;refine RS (ok_call (Get32_fn ((l.drop (4 * j)).take 4)) (Args.cons rfl (Le.eq (by rw [byt_vals]; congr 2; rw [List.map_take, List.map_drop, List.drop_take, show 4 * j + 4 - 4 * j = 4 from by omega])) Args.nil)) ?_;refine RM rfl ?_;refine RS (ok_extract rfl rfl) ?_;refine RZ (u32V (nextW l (sched l j) j)) (by rw [nextW, if_pos hlt, word, u32V_ofNat, getV, if_pos (by simp; omega), Nat.mod_eq_of_lt (word_lt l j)]) ?_;refine RS (ok_extract rfl rfl) ?_;refine RS (ok_index0 _ U155 info46 rfl rfl (rfl) (by omega)) ?_;refine RN ?_;refine ⟨_, eff_storeS (n := 70) (s := 1000003) info46 rfl rfl rfl hBb3 rfl (by rw [table_length (by rw [sched_length]; omega)]; omega) (LT 1000001 rfl (LB 1000002 rfl (LW [1,2,3,10] rfl))), ?_⟩
  refine TL (RN (End.normal_block (EN (GTE (RB rfl rfl rfl ?_)))));refine RZ (.int .i64 ((j + 1 : Nat) : Int)) (by rw [wrap_i64 (by omega) (by omega)]; first | rfl | (congr 1; omega)) ?_;refine RVN 1 rfl ?_;refine End.normal_then ?_;refine End.again (j + 1) ?_ ?_ ?_
  ·show _ ≤ _; omega
  ·show _ - _ < _ - _; omega
  ·exact (KC 1 rfl (KC 2 rfl (KC 3 rfl (KC 10 rfl (KC 1000001 rfl (KC 1000002 rfl (KE 1000003 rfl (by rw [table_set (sched_length l j) (by omega)]; rfl) KN)))))))
 ·obtain rfl : j = 16 := by simp at hc11; omega
  refine A.exit (End.exit_then (End.exit_then (End.exit_here (EN (QS (GV rfl (A.block ?_)))))));refine A.loop (ι := Nat) (fun j => 16 ≤ j ∧ j ≤ 64) (fun j => [(2, .v (.pointer (some ⟨b2,0, none⟩))), (3, .v (.pointer (some ⟨b3,0, none⟩))), (5, .v (.int .i64 ((j : Nat) : Int))), (1000002, blk b2 155 (List.replicate 64 (.int .u32 0))), (1000003, blk b3 155 (table (sched l j) 64))]) (fun j => 64 - j) 16 ?_ ?_ ?_
  ·exact ⟨Nat.le_refl _, by decide⟩
  ·exact (Sv [2,3,5,1000002,1000003] rfl)
  intro j hj
  refine QS (GV rfl ?_);refine A.cond rfl (fun hc27 => ?_) (fun hc27 => ?_)
  ·have hlt : j < 64 := by simp at hc27; omega
   refine QK (QSB (GTD (RV 2 rfl ?_)));refine RZ (.int .i64 ((j - 15 : Nat) : Int)) (by rw [wrap_i64 (by omega) (by omega)]; first | rfl | (congr 1; omega)) ?_;refine RS (ok_index0 _ U155 info46 rfl rfl (rfl) (by omega)) ?_;refine RS (ok_loadV (s := 1000003) (by decide) U46 rfl rfl rfl (table_get (by rw [sched_length]; omega))) ?_;refine RV 2 rfl ?_;refine RZ (.int .i64 ((j - 2 : Nat) : Int)) (by rw [wrap_i64 (by omega) (by omega)]; first | rfl | (congr 1; omega)) ?_;refine RS (ok_index0 _ U155 info46 rfl rfl (rfl) (by omega)) ?_;refine RS (ok_loadV (s := 1000003) (by decide) U46 rfl rfl rfl (table_get (by rw [sched_length]; omega))) ?_;refine RVN 2 rfl ?_;refine GT (RM rfl ?_);refine RS (ok_call (rotr_fn _ 7 (by decide) (by decide)) (A2 rfl rfl)) ?_;refine RM rfl ?_;refine RS (ok_call (rotr_fn _ 18 (by decide) (by decide)) (A2 rfl rfl)) ?_;refine RS (ok_xor32 rfl rfl) ?_;refine RM rfl ?_;refine RS (ok_shr32 3 rfl rfl rfl (by decide)) ?_;refine RS (ok_xor32 rfl rfl) ?_;refine RVN 1 rfl ?_;refine GT (RM rfl ?_);refine RS (ok_call (rotr_fn _ 17 (by decide) (by decide)) (A2 rfl rfl)) ?_;refine RM rfl ?_;refine RS (ok_call (rotr_fn _ 19 (by decide) (by decide)) (A2 rfl rfl)) ?_;refine RS (ok_xor32 rfl rfl) ?_;refine RM rfl ?_;refine RS (ok_shr32 10 rfl rfl rfl (by decide)) ?_;refine RS (ok_xor32 rfl rfl) ?_;refine RVN 1 rfl ?_;refine A.sub (Sv [2,3,5,8,9,1000002,1000003] rfl) ?_;refine A.reg (by kernel_rfl) (by kernel_rfl) (.inr (by kernel_rfl)) ?_;refine TD 15 ?_;refine RV 4 rfl ?_;refine RZ (.int .i64 ((j - 7 : Nat) : Int)) (by rw [wrap_i64 (by omega) (by omega)]; first | rfl | (congr 1; omega)) ?_;refine RS (ok_index0 _ U155 info46 rfl rfl (rfl) (by omega)) ?_;refine RS (ok_loadV (s := 1000003) (by decide) U46 rfl rfl rfl (table_get (by rw [sched_length]; omega))) ?_;refine RS (ok_add32 rfl rfl) ?_;refine RM rfl ?_;refine RS (ok_add32 rfl rfl) ?_;refine RV 2 rfl ?_;refine RZ (.int .i64 ((j - 16 : Nat) : Int)) (by rw [wrap_i64 (by omega) (by omega)]; first | rfl | (congr 1; omega)) ?_;refine RS (ok_index0 _ U155 info46 rfl rfl (rfl) (by omega)) ?_;refine RS (ok_loadV (s := 1000003) (by decide) U46 rfl rfl rfl (table_get (by rw [sched_length]; omega))) ?_;refine RS (ok_add32 rfl rfl) ?_;refine RZ (u32V (nextW l (sched l j) j)) (by rw [nextW, if_neg (by omega), sha0, sha1]; congr 1; ac_rfl) ?_;refine RS (ok_index0 _ U155 info46 rfl rfl (rfl) (by omega)) ?_;refine RN ?_;refine ⟨_, eff_storeS (n := 70) (s := 1000003) info46 rfl rfl rfl hBb3 rfl (by rw [table_length (by rw [sched_length]; omega)]; omega) (LB 1000002 rfl (LW [2,3,5] rfl)), ?_⟩
   refine TL (RN (End.normal_block (EN (GTE (RV 2 rfl ?_)))));refine RZ (.int .i64 ((j + 1 : Nat) : Int)) (by rw [wrap_i64 (by omega) (by omega)]; first | rfl | (congr 1; omega)) ?_;refine RVN 1 rfl ?_;refine End.normal_then ?_;refine End.again (j + 1) ?_ ?_ ?_
   ·show _ ∧ _; omega
   ·show _ - _ < _ - _; omega
   ·exact (KC 2 rfl (KC 3 rfl (KC 5 rfl (KC 1000002 rfl (KE 1000003 rfl (by rw [table_set (sched_length l j) hlt]; rfl) KN)))))
  ·obtain rfl : j = 64 := by simp at hc27; omega
   refine A.exit (End.exit_then (End.exit_then (End.exit_here (EN (GS (TF 1 (RL 1000003 U155 rfl rfl (size155.of (by rw [table_length (by rw [sched_length]; exact Nat.le_refl _)])) ?_)))))));refine RZ (aggV ((sched l 64).map u32V)) (by rw [table_full (sched_length l 64)]) ?_;refine RN ?_;refine ⟨_, eff_storeA (n := 70) (s := 1000002) (size155.of (by rw [List.length_map, sched_length])) rfl rfl (all_u32 _) hBb2 rfl (by rw [List.length_map, sched_length, List.length_replicate]) (LV 2 rfl (LB 1000003 rfl LN)), ?_⟩
   refine TL (RN (A.ret ?_));exact End.cell1 (s := 1000002) rfl U155 rfl (size155.of (by rw [List.length_map, sched_length])) rfl rfl (Le.refl _)
set_option maxHeartbeats 400000 in
theorem rounds_fn (h : R8) (ws : List UInt32) (hw : ws.length = 64) : FnM Tryz.prog 155 tabs [.v (aggV (h.list.map u32V)), .v (aggV (ws.map u32V))] (.v (aggV ((rounds h K64 ws 64).list.map u32V))) := by
 refine FnM.of Tryz.func155 rfl (by kernel_rfl) Tryz.ntmps155 (by simp) (by decide) (fun w => [(0, .v (aggV (h.list.map u32V))), (1, .v (aggV (ws.map u32V))), (1900002, tab 2 (H8.list.map u32V)), (1900003, tab 3 (K64.map u32V))]) (fun w => (StartM.v rfl (StartM.v rfl (StartM.m (by simp [tabs]) (by decide) (StartM.m (by simp [tabs]) (by decide) StartM.nil))))) fun w₀ hM => ?_
 have htab := tabs_hi hM
 refine GS (TN 0 (RN ?_));refine ZB 1000002 rfl fun b2 ⟨hBb2, hb2⟩ => ?_
 refine TN 1 (RN ?_);refine ZB 1000003 rfl fun b3 ⟨hBb3, hb3⟩ => ?_
 refine TN 2 (RN ?_);refine ZN 1000004 zero156 fun b4 ⟨hBb4, hb4⟩ => ?_
 have hlt_b2_b4 := hb4 1000002 b2 _ _ rfl
 refine TL (RN (GTD (RS (ok_index0 (0) U156 info46 rfl rfl (rfl) (by decide)) ?_)));refine RLV 1000002 U46 rfl rfl rfl ?_;refine RS (ok_index0 (1) U156 info46 rfl rfl (rfl) (by decide)) ?_;refine RLV 1000002 U46 rfl rfl rfl ?_;refine RS (ok_index0 (2) U156 info46 rfl rfl (rfl) (by decide)) ?_;refine RLV 1000002 U46 rfl rfl rfl ?_;refine RS (ok_index0 (3) U156 info46 rfl rfl (rfl) (by decide)) ?_;refine RLV 1000002 U46 rfl rfl rfl ?_;refine RS (ok_index0 (4) U156 info46 rfl rfl (rfl) (by decide)) ?_;refine RLV 1000002 U46 rfl rfl rfl ?_;refine RS (ok_index0 (5) U156 info46 rfl rfl (rfl) (by decide)) ?_;refine RLV 1000002 U46 rfl rfl rfl ?_;refine RS (ok_index0 (6) U156 info46 rfl rfl (rfl) (by decide)) ?_;refine RLV 1000002 U46 rfl rfl rfl ?_;refine RS (ok_index0 (7) U156 info46 rfl rfl (rfl) (by decide)) ?_;refine RLV 1000002 U46 rfl rfl rfl ?_;refine RVN 8 rfl ?_;refine A.sub (Sv [3,4,5,6,7,8,9,10,11,12,1000002,1000003,1000004,1900002,1900003] rfl) ?_;refine QS (GT (RS (ok_loadT (s := 1900003) (by decide) U155 rfl (size155.of (by rw [List.length_map, K64_lit])) rfl rfl) ?_));refine RVN 1 rfl ?_;refine A.block ?_;refine A.loop (ι := Nat) (fun i => i ≤ 64) (fun i => [(3, .v (.pointer (some ⟨b3,0, none⟩))), (4, .v (.pointer (some ⟨b4,0, none⟩))), (5, .v (u32V (rounds h K64 ws i).a)), (6, .v (u32V (rounds h K64 ws i).b)), (7, .v (u32V (rounds h K64 ws i).c)), (8, .v (u32V (rounds h K64 ws i).d)), (9, .v (u32V (rounds h K64 ws i).e)), (10, .v (u32V (rounds h K64 ws i).f)), (11, .v (u32V (rounds h K64 ws i).g)), (12, .v (u32V (rounds h K64 ws i).h)), (33, .v (aggV (K64.map u32V))), (34, .v (.int .i64 ((i : Nat) : Int))), (1000003, blk b3 155 (ws.map u32V)), (1000004, blk b4 156 (List.replicate 8 (.int .u32 0))), (1900002, tab 2 (H8.list.map u32V)), (1900003, tab 3 (K64.map u32V))]) (fun i => 64 - i) 0 ?_ ?_ ?_
 ·exact Nat.zero_le _
 ·exact (Sv [3,4,5,6,7,8,9,10,11,12,33,34,1000003,1000004,1900002,1900003] rfl)
 intro i hi
 refine GV rfl (QS ?_);refine A.cond rfl (fun hc35 => ?_) (fun hc35 => ?_)
 ·have hlt : i < 64 := by simp at hc35; omega
  refine QK (QSB (GT (RM rfl ?_)));refine RS (ok_indexV1 i U155 U46 rfl info46 rfl rfl rfl hlt (map_get32 (by rw [K64_lit]; omega))) ?_;refine RVN 2 rfl ?_;refine GTD (RV 2 rfl ?_);refine RS (ok_call (rotr_fn _ 6 (by decide) (by decide)) (A2 rfl rfl)) ?_;refine RM rfl ?_;refine RS (ok_call (rotr_fn _ 11 (by decide) (by decide)) (A2 rfl rfl)) ?_;refine RS (ok_xor32 rfl rfl) ?_;refine RM rfl ?_;refine RS (ok_call (rotr_fn _ 25 (by decide) (by decide)) (A2 rfl rfl)) ?_;refine RS (ok_xor32 rfl rfl) ?_;refine RS (ok_add32 rfl rfl) ?_;refine RV 2 rfl ?_;refine RS (ok_and32 rfl rfl) ?_;refine RM rfl ?_;refine RS (ok_not32 rfl) ?_;refine RM rfl ?_;refine RS (ok_and32 rfl rfl) ?_;refine RS (ok_xor32 rfl rfl) ?_;refine RS (ok_add32 rfl rfl) ?_;refine RM rfl ?_;refine RS (ok_add32 rfl rfl) ?_;refine RM rfl ?_;refine RS (ok_index0 _ U155 info46 rfl rfl (rfl) (by omega)) ?_;refine RS (ok_loadV (s := 1000003) (by decide) U46 rfl rfl rfl (map_get32 (by omega))) ?_;refine RS (ok_add32 rfl rfl) ?_;refine RVN 1 rfl ?_;refine A.sub (Sv [3,4,5,6,7,8,9,10,11,15,33,34,1000003,1000004,1900002,1900003] rfl) ?_;refine GT (RM rfl ?_);refine RS (ok_call (rotr_fn _ 2 (by decide) (by decide)) (A2 rfl rfl)) ?_;refine RM rfl ?_;refine RS (ok_call (rotr_fn _ 13 (by decide) (by decide)) (A2 rfl rfl)) ?_;refine RS (ok_xor32 rfl rfl) ?_;refine RM rfl ?_;refine RS (ok_call (rotr_fn _ 22 (by decide) (by decide)) (A2 rfl rfl)) ?_;refine RS (ok_xor32 rfl rfl) ?_;refine RV 2 rfl ?_;refine RS (ok_and32 rfl rfl) ?_;refine RV 2 rfl ?_;refine RS (ok_and32 rfl rfl) ?_;refine RS (ok_xor32 rfl rfl) ?_;refine RV 2 rfl ?_;refine RS (ok_and32 rfl rfl) ?_;refine RS (ok_xor32 rfl rfl) ?_;refine RS (ok_add32 rfl rfl) ?_;refine RVN 1 rfl ?_;refine GTE (RV 5 rfl ?_);refine RS (ok_add32 rfl rfl) ?_;refine RV 5 rfl ?_;refine RS (ok_add32 rfl rfl) ?_;refine RVN 8 rfl ?_;refine End.sub (Sv [3,4,5,6,7,8,9,10,11,12,33,34,1000003,1000004,1900002,1900003] rfl) ?_;refine End.normal_block (EN (GTE (RB rfl rfl rfl ?_)));refine RZ (.int .i64 ((i + 1 : Nat) : Int)) (by rw [wrap_i64 (by omega) (by omega)]; first | rfl | (congr 1; omega)) ?_;refine RVN 1 rfl ?_;refine End.normal_then ?_;refine End.again (i + 1) ?_ ?_ ?_
  ·show _ ≤ _; omega
  ·show _ - _ < _ - _; omega
  ·exact (Sv [3,4,5,6,7,8,9,10,11,12,33,34,1000003,1000004,1900002,1900003] rfl)
 ·obtain rfl : i = 64 := by simp at hc35; omega
  refine A.exit (End.exit_then (End.exit_then (End.exit_here (EN (GS (TF 9 (RV 8 rfl ?_)))))));refine RS (ok_litA [_, _, _, _, _, _, _, _] U156 info46 zero156 rfl ⟨rfl, rfl, rfl, rfl, rfl, rfl, rfl, rfl, rfl, rfl, rfl, rfl, rfl, rfl, rfl, rfl, trivial⟩ rfl) ?_;refine RZ (aggV ((rounds h K64 ws 64).list.map u32V)) (rfl) ?_;refine RN ?_;refine ⟨_, eff_storeA (n := 105) (s := 1000004) (size156.of (R8.size _)) rfl rfl (all_u32 _) hBb4 rfl ((R8.size _).symm) (LV 4 rfl (LT 1000003 rfl (LQ 1900002 rfl (LQ 1900003 rfl LN)))), ?_⟩
  refine TL (RN (A.ret ?_));exact End.cell1 (s := 1000004) rfl U156 rfl (size156.of (R8.size _)) rfl rfl (Le.refl _)
def restAt (l : List UInt8) (i : Nat) : UInt8 := if (l.length + 63 - i) / 64 = 0 then 0 else l.getD (64 * ((l.length + 63 - i) / 64 - 1) + i) 0
def restL (l : List UInt8) : List UInt8 := (List.range 64).map (restAt l)
def fullR (l : List UInt8) : R8 := if l.length < 64 then ⟨0,0,0,0,0,0,0,0⟩ else chain H8 l (l.length / 64)
def stM (f : R8) (r : List UInt8) (n : Nat) : List Value := f.list.map u32V ++ (r.map byteV ++ [.int .u64 (n : Int)])
def stL (l : List UInt8) : List Value := stM (fullR l) (restL l) l.length
def stV (l : List UInt8) : Value := aggV (stL l)
theorem restL_length (l : List UInt8) : (restL l).length = 64 := by simp [restL]
theorem restL_get (l : List UInt8) {i : Nat} (h : i < 64) : (restL l)[i]? = some (restAt l i) := by simp [restL, h]
theorem stM_length {f : R8} {r : List UInt8} {n : Nat} (hr : r.length = 64) : (stM f r n).length = 73 := by simp [stM, hr, R8.list]
theorem stM_full (f : R8) (r : List UInt8) (n : Nat) : ((stM f r n).drop 0).take 8 = f.list.map u32V := by
 rw [List.drop_zero, stM, List.take_left' (by simp [R8.list])]
theorem stM_rest {f : R8} {r : List UInt8} {n : Nat} (hr : r.length = 64) : ((stM f r n).drop 8).take 64 = r.map byteV := by
 rw [stM, List.drop_left' (by simp [R8.list]), List.take_left' (by simp [hr])]
theorem stM_size {f : R8} {r : List UInt8} {n : Nat} (hr : r.length = 64) : (stM f r n)[72]? = some (.int .u64 (n : Int)) := by
 rw [stM, List.getElem?_append_right (by simp [R8.list]), List.getElem?_append_right (by simp [R8.list, hr])]
 simp [R8.list, hr]
theorem stM_setSize {f : R8} {r : List UInt8} {n m : Nat} (hr : r.length = 64) : (stM f r n).set 72 (.int .u64 (m : Int)) = stM f r m := by
 rw [stM, List.set_append_right _ _ (by simp [R8.list]), List.set_append_right _ _ (by simp [R8.list, hr])]
 simp [R8.list, hr, stM]
theorem stM_setFull {f f' : R8} {r : List UInt8} {n : Nat} : (stM f r n).take 0 ++ f'.list.map u32V ++ (stM f r n).drop (0 + (f'.list.map u32V).length) = stM f' r n := by
 rw [R8.size, List.take_zero, List.nil_append, Nat.zero_add, stM, List.drop_left' (by simp [R8.list]), stM]
theorem stM_ones {f : R8} {r : List UInt8} {n : Nat} : (stM f r n).all (·.oneCell') = true := by
 simp [stM, List.all_append, u32V, byteV, Value.oneCell']
theorem stL_length (l : List UInt8) : (stL l).length = 73 := stM_length (restL_length l)
theorem stL_full (l : List UInt8) : ((stL l).drop 0).take 8 = (fullR l).list.map u32V := stM_full _ _ _
theorem stL_rest (l : List UInt8) : ((stL l).drop 8).take 64 = (restL l).map byteV := stM_rest (restL_length l)
theorem stL_size (l : List UInt8) : (stL l)[72]? = some (.int .u64 (l.length : Int)) := stM_size (restL_length l)
theorem stL_nil : stL [] = List.replicate 8 (.int .u32 0) ++ List.replicate 64 (.int .u8 0) ++ [.int .u64 0] := by kernel_rfl
theorem stL_ones (l : List UInt8) : (stL l).all (·.oneCell') = true := stM_ones
theorem chain_append (s : R8) (l b : List UInt8) : ∀ k, 64 * k ≤ l.length → chain s (l ++ b) k = chain s l k
 | 0, _ => rfl
 | k + 1, h => by
  have h1 := chain_append s l b k (by omega)
  rw [chain, chain, h1, List.drop_append_of_le_length (by omega), List.take_append_of_le_length (by simp; omega)]
theorem chain_start (l : List UInt8) (h : l.length < 64) : chain H8 l (l.length / 64) = H8 := by rw [Nat.div_eq_of_lt h]; rfl
theorem restAt_grow (l b : List UInt8) (i : Nat) (hi : i < 64) (hb : l.length % 64 + b.length ≤ 64) :
  restAt (l ++ b) i = if i < l.length % 64 then restAt l i else if i < l.length % 64 + b.length then b.getD (i - l.length % 64) 0 else restAt l i := by
 have hlen : (l ++ b).length = l.length + b.length := by simp
 by_cases h1 : i < l.length % 64
 ·rw [if_pos h1]
  have h2 : (l.length + b.length + 63 - i) / 64 = (l.length + 63 - i) / 64 := by omega
  have h3 : ¬ (l.length + 63 - i) / 64 = 0 := by omega
  have h4 : 64 * ((l.length + 63 - i) / 64 - 1) + i < l.length := by omega
  rw [restAt, restAt, hlen, h2, if_neg h3, if_neg h3, List.getD_eq_getElem?_getD, List.getD_eq_getElem?_getD, List.getElem?_append_left h4]
 ·rw [if_neg h1]
  by_cases h2 : i < l.length % 64 + b.length
  ·rw [if_pos h2]
   have h3 : (l.length + b.length + 63 - i) / 64 = l.length / 64 + 1 := by omega
   have h4 : 64 * (l.length / 64 + 1 - 1) + i = l.length + (i - l.length % 64) := by omega
   rw [restAt, hlen, h3, if_neg (by omega), h4, List.getD_eq_getElem?_getD, List.getElem?_append_right (by omega), List.getD_eq_getElem?_getD]
   congr 2
   omega
  ·rw [if_neg h2]
   have h3 : (l.length + b.length + 63 - i) / 64 = (l.length + 63 - i) / 64 := by omega
   by_cases h5 : (l.length + 63 - i) / 64 = 0
   ·rw [restAt, restAt, hlen, h3, if_pos h5, if_pos h5]
   ·have h4 : 64 * ((l.length + 63 - i) / 64 - 1) + i < l.length := by omega
    rw [restAt, restAt, hlen, h3, if_neg h5, if_neg h5, List.getD_eq_getElem?_getD, List.getD_eq_getElem?_getD, List.getElem?_append_left h4]
theorem restL_step (l b : List UInt8) (hb : l.length % 64 + b.length ≤ 64) : (restL l).take (l.length % 64) ++ b ++ (restL l).drop (l.length % 64 + b.length) = restL (l ++ b) := by
 have hk : l.length % 64 < 64 := Nat.mod_lt _ (by decide)
 apply List.ext_getElem?
 intro i
 rcases Nat.lt_or_ge i 64 with hi | hi
 ·rw [restL_get _ hi, restAt_grow l b i hi hb]
  by_cases h1 : i < l.length % 64
  ·rw [if_pos h1, List.append_assoc, List.getElem?_append_left (by simp [restL_length]; omega), List.getElem?_take, if_pos h1, restL_get _ hi]
  ·rw [if_neg h1]
   by_cases h2 : i < l.length % 64 + b.length
   ·rw [if_pos h2, List.append_assoc, List.getElem?_append_right (by simp [restL_length]; omega)]
    have h3 : i - ((restL l).take (l.length % 64)).length = i - l.length % 64 := by simp [restL_length]; omega
    rw [h3, List.getElem?_append_left (by omega), List.getD_eq_getElem?_getD, List.getElem?_eq_getElem (by omega)]
    rfl
   ·rw [if_neg h2, List.getElem?_append_right (by simp [restL_length]; omega), List.getElem?_drop]
    have h3 : l.length % 64 + b.length + (i - ((restL l).take (l.length % 64) ++ b).length) = i := by simp [restL_length]; omega
    rw [h3, restL_get _ hi]
 ·rw [List.getElem?_eq_none (by simp [restL_length]; omega), List.getElem?_eq_none (by rw [restL_length]; exact hi)]
theorem restL_take (l : List UInt8) : (restL l).take (l.length % 64) = l.drop (64 * (l.length / 64)) := by
 have hk : l.length % 64 < 64 := Nat.mod_lt _ (by decide)
 apply List.ext_getElem?
 intro i
 rw [List.getElem?_take, List.getElem?_drop]
 split
 ·rename_i hi
  rw [restL_get _ (by omega), restAt]
  have h3 : (l.length + 63 - i) / 64 = l.length / 64 + 1 := by omega
  rw [h3, if_neg (by omega), Nat.add_sub_cancel, List.getD_eq_getElem?_getD, List.getElem?_eq_getElem (by omega)]
  rfl
 ·rw [List.getElem?_eq_none (by omega)]
theorem restL_block (l : List UInt8) (h : l.length % 64 = 0) (h0 : 0 < l.length) : restL l = (l.drop (64 * (l.length / 64 - 1))).take 64 := by
 apply List.ext_getElem?
 intro i
 rw [List.getElem?_take, List.getElem?_drop]
 split
 ·rename_i hi
  rw [restL_get _ hi, restAt]
  have h3 : (l.length + 63 - i) / 64 = l.length / 64 := by omega
  rw [h3, if_neg (by omega), List.getD_eq_getElem?_getD, List.getElem?_eq_getElem (by omega)]
  rfl
 ·rw [List.getElem?_eq_none (by rw [restL_length]; omega)]
theorem fullR_same (l b : List UInt8) (h : (l.length + b.length) / 64 = l.length / 64) : fullR (l ++ b) = fullR l := by
 unfold fullR
 rw [List.length_append, h, chain_append _ _ _ _ (by omega)]
 by_cases h1 : l.length < 64
 ·rw [if_pos h1, if_pos (by omega)]
 ·rw [if_neg h1, if_neg (by omega)]
theorem fullR_step (l b : List UInt8) (h : l.length % 64 + b.length = 64) : fullR (l ++ b) = compress (chain H8 l (l.length / 64)) (restL (l ++ b)) := by
 have hk : l.length % 64 < 64 := Nat.mod_lt _ (by decide)
 have h1 : (l ++ b).length / 64 = l.length / 64 + 1 := by simp; omega
 rw [fullR, if_neg (by simp; omega), h1, chain, chain_append _ _ _ _ (by omega), restL_block _ (by simp; omega) (by simp; omega), h1, Nat.add_sub_cancel]
theorem st_copy (L r : List UInt8) : (stL L).take (8 + L.length % 64) ++ (r.take (64 - L.length % 64)).map byteV ++ (stL L).drop (8 + L.length % 64 + min r.length (64 - L.length % 64)) = stM (fullR L) (restL (L ++ r.take (64 - L.length % 64))) L.length := by
 have hk : L.length % 64 < 64 := Nat.mod_lt _ (by decide)
 have hb : (r.take (64 - L.length % 64)).length = min r.length (64 - L.length % 64) := by rw [List.length_take, Nat.min_comm]
 have h8 : ((fullR L).list.map u32V).length = 8 := R8.size _
 rw [← restL_step L (r.take (64 - L.length % 64)) (by rw [hb]; omega), hb]
 have h1 : (stL L).take (8 + L.length % 64) = (fullR L).list.map u32V ++ ((restL L).take (L.length % 64)).map byteV := by
  rw [stL, stM, List.take_append, h8, Nat.add_sub_cancel_left, List.take_of_length_le (by rw [h8]; omega), List.take_append_of_le_length (by simp [restL_length]; omega), List.map_take]
 have h2 : (stL L).drop (8 + L.length % 64 + min r.length (64 - L.length % 64)) = ((restL L).drop (L.length % 64 + min r.length (64 - L.length % 64))).map byteV ++ [.int .u64 (L.length : Int)] := by
  rw [stL, stM, List.drop_append, h8, List.drop_eq_nil_of_le (by rw [h8]; omega), List.nil_append, show 8 + L.length % 64 + min r.length (64 - L.length % 64) - 8 = L.length % 64 + min r.length (64 - L.length % 64) from by omega,
   List.drop_append_of_le_length (by simp [restL_length]; omega), List.map_drop]
 rw [h1, h2, stM]
 simp
theorem padded_tail (l e : List UInt8) : l ++ e = l.take (64 * (l.length / 64)) ++ (l.drop (64 * (l.length / 64)) ++ e) := by
 rw [← List.append_assoc, List.take_append_drop]
theorem chain_tail (s : R8) (a t : List UInt8) (k : Nat) (ha : a.length = 64 * k) : ∀ i, chain (chain s a k) t i = chain s (a ++ t) (k + i)
 | 0 => by rw [Nat.add_zero, chain_append _ _ _ _ (by omega)]; rfl
 | i + 1 => by
  have h1 : (a ++ t).drop (64 * (k + i)) = t.drop (64 * i) := by
   rw [List.drop_append, show a.drop (64 * (k + i)) = [] from List.drop_eq_nil_of_le (by omega), List.nil_append, show 64 * (k + i) - a.length = 64 * i from by omega]
  rw [chain, chain_tail s a t k ha i, ← Nat.add_assoc, chain, h1]
theorem tableB_more {bs c : List UInt8} {m : Nat} (h : bs.length + c.length ≤ m) : (tableB bs m).take bs.length ++ c.map byteV ++ (tableB bs m).drop (bs.length + c.length) = tableB (bs ++ c) m := by
 have h1 : m - bs.length = c.length + (m - (bs ++ c).length) := by rw [List.length_append]; omega
 rw [tableB, List.map_append, List.take_left' (by simp), List.drop_append, List.drop_eq_nil_of_le (by simp), List.nil_append, List.length_map, Nat.add_sub_cancel_left, h1, List.map_replicate, List.drop_replicate, Nat.add_sub_cancel_left, tableB, List.map_append, List.map_append, List.map_replicate]
theorem flatBe_take : ∀ (xs : List UInt32) (i : Nat), i < xs.length → (xs.flatMap fun x => be 4 x.toNat).take (4 * (i + 1)) = (xs.flatMap fun x => be 4 x.toNat).take (4 * i) ++ be 4 (xs.getD i 0).toNat
 | [], i, h => by simp at h
 | x :: xs, 0, _ => by
  rw [List.flatMap_cons, List.take_left' (by rw [be_length]), Nat.mul_zero, List.take_zero]; rfl
 | x :: xs, i + 1, h => by
  have hb : (be 4 x.toNat).length = 4 := be_length _ _
  have h1 : ∀ k, 4 ≤ k → (be 4 x.toNat ++ xs.flatMap fun x => be 4 x.toNat).take k = be 4 x.toNat ++ (xs.flatMap fun x => be 4 x.toNat).take (k - 4) := fun k hk => by
   rw [List.take_append, hb, show (be 4 x.toNat).take k = be 4 x.toNat from List.take_of_length_le (by omega)]
  rw [List.flatMap_cons, h1 _ (by omega), h1 _ (by omega), show 4 * (i + 1 + 1) - 4 = 4 * (i + 1) from by omega, show 4 * (i + 1) - 4 = 4 * i from by omega,
   flatBe_take xs i (by simpa using h), List.append_assoc]
  rfl
theorem sha_copy (l : List UInt8) {i : Nat} (h : i < 8) : (tableB ((sha l).take (4 * i)) 32).take (0 + 4 * i) ++ ((be 4 ((shaR l).list.getD i 0).toNat).take (32 - 4 * i)).map byteV ++ (tableB ((sha l).take (4 * i)) 32).drop (0 + 4 * i + min (be 4 ((shaR l).list.getD i 0).toNat).length (32 - 4 * i)) = tableB ((sha l).take (4 * (i + 1))) 32 := by
 have hb : (be 4 ((shaR l).list.getD i 0).toNat).length = 4 := be_length _ _
 have hl : ((sha l).take (4 * i)).length = 4 * i := by rw [List.length_take, sha_length]; omega
 have h1 : (sha l).take (4 * (i + 1)) = (sha l).take (4 * i) ++ be 4 ((shaR l).list.getD i 0).toNat := flatBe_take (shaR l).list i h
 have := tableB_more (bs := (sha l).take (4 * i)) (c := be 4 ((shaR l).list.getD i 0).toNat) (m := 32) (by rw [hl, hb]; omega)
 rw [h1, ← this, hl, hb, Nat.zero_add, show (be 4 ((shaR l).list.getD i 0).toNat).take (32 - 4 * i) = be 4 ((shaR l).list.getD i 0).toNat from List.take_of_length_le (by omega), Nat.min_eq_left (by omega)]
def endL (n : Nat) : List UInt8 := 128 :: (List.replicate ((119 - n % 64) % 64) 0 ++ be 8 (8 * n))
theorem endL_length (n : Nat) : (endL n).length = 1 + (119 - n % 64) % 64 + 8 := by simp [endL, be_length]; omega
def tailL (l : List UInt8) : List UInt8 := l.drop (64 * (l.length / 64)) ++ endL l.length
theorem tailL_length (l : List UInt8) : (tailL l).length = l.length % 64 + (1 + (119 - l.length % 64) % 64 + 8) := by
 rw [tailL, List.length_append, List.length_drop, endL_length]; omega
theorem tailL_mod (l : List UInt8) : (tailL l).length = 64 * ((tailL l).length / 64) := by
 rw [tailL_length]; omega
theorem tailL_sha (l : List UInt8) : chain (chain H8 l (l.length / 64)) (tailL l) ((tailL l).length / 64) = shaR l := by
 have ha : (l.take (64 * (l.length / 64))).length = 64 * (l.length / 64) := by rw [List.length_take]; omega
 have h1 : chain H8 l (l.length / 64) = chain H8 (l.take (64 * (l.length / 64))) (l.length / 64) := by
  have := chain_append H8 (l.take (64 * (l.length / 64))) (l.drop (64 * (l.length / 64))) (l.length / 64) (by omega)
  rwa [List.take_append_drop] at this
 have h2 : padded l = l.take (64 * (l.length / 64)) ++ tailL l := padded_tail l (endL l.length)
 have h3 : (padded l).length / 64 = l.length / 64 + (tailL l).length / 64 := by
  rw [h2, List.length_append, ha]; omega
 rw [h1, chain_tail _ _ _ _ ha, ← h2, ← h3]; rfl
theorem tailL_block (l : List UInt8) {ys : List Value} {i : Nat} (h : i < (tailL l).length / 64) : (((tailL l).map byteV ++ ys).drop (64 * i)).take 64 = (((tailL l).drop (64 * i)).take 64).map byteV := by
 rw [List.drop_append_of_le_length (by simp; omega), List.take_append_of_le_length (by simp; omega), List.map_take, List.map_drop]
theorem zero225 : ZeroIs Tryz.prog 225 (List.replicate 8 (.int .u32 0) ++ List.replicate 64 (.int .u8 0) ++ [.int .u64 0]) := by unfold ZeroIs; kernel_rfl
theorem size225 : SizeIs Tryz.prog 225 73 := by unfold SizeIs; kernel_rfl
theorem field225_0 : FieldIs Tryz.prog 225 0 0 8 := by unfold FieldIs; kernel_rfl
theorem field225_1 : FieldIs Tryz.prog 225 1 8 64 := by unfold FieldIs; kernel_rfl
theorem field225_2 : FieldIs Tryz.prog 225 2 72 1 := by unfold FieldIs; kernel_rfl
def half (s t : R8) (i : Nat) : List Value := ((s.add t).list.take i ++ s.list.drop i).map u32V
theorem half_length {s t : R8} {i : Nat} (h : i ≤ 8) : (half s t i).length = 8 := by
 have h1 : s.list.length = 8 := rfl
 have h2 : (s.add t).list.length = 8 := rfl
 simp [half, h1, h2]; omega
theorem half_get {s t : R8} {i : Nat} (h : i < 8) : (half s t i)[i]? = some (u32V (s.list.getD i 0)) := by
 rcases i with _ | _ | _ | _ | _ | _ | _ | _ | i
 all_goals first | rfl | omega
theorem half_set {s t : R8} {i : Nat} (h : i < 8) : (half s t i).set i (u32V (s.list.getD i 0 + t.list.getD i 0)) = half s t (i + 1) := by
 rcases i with _ | _ | _ | _ | _ | _ | _ | _ | i
 all_goals first | rfl | omega
set_option maxHeartbeats 400000 in
theorem Compress_fn (h : R8) (l : List UInt8) (hl : l.length = 64) : FnM Tryz.prog 149 tabs [.v (aggV (h.list.map u32V)), .v (aggV (l.map byteV))] (.v (aggV ((compress h l).list.map u32V))) := by
 refine FnM.of Tryz.func149 rfl (by kernel_rfl) Tryz.ntmps149 (by simp) (by decide) (fun w => [(0, .v (aggV (h.list.map u32V))), (1, .v (aggV (l.map byteV))), (1900002, tab 2 (H8.list.map u32V)), (1900003, tab 3 (K64.map u32V))]) (fun w => (StartM.v rfl (StartM.v rfl (StartM.m (by simp [tabs]) (by decide) (StartM.m (by simp [tabs]) (by decide) StartM.nil))))) fun w₀ hM => ?_
 have htab := tabs_hi hM
 refine GS (TN 0 (RN ?_));refine ZB 1000002 rfl fun b2 ⟨hBb2, hb2⟩ => ?_
 refine TN 1 (RN ?_);refine ZB 1000003 rfl fun b3 ⟨hBb3, hb3⟩ => ?_
 refine TN 2 (RN ?_);refine ZN 1000004 zero156 fun b4 ⟨hBb4, hb4⟩ => ?_
 have hlt_b2_b4 := hb4 1000002 b2 _ _ rfl
 refine TL (RN (QS (GTD (RL 1000002 U156 rfl rfl (size156.of (R8.size _)) ?_))));refine RL 1000003 U223 rfl rfl (size223.of (by rw [List.length_map, hl])) ?_;refine RS (ok_call (schedule_fn l hl) (A1 rfl)) ?_;refine RS (ok_callM (rounds_fn h (sched l 64) (sched_length l 64)) (Sub.cons rfl (Sub.cons rfl KN)) tabs_v (Args.cons rfl LA (Args.cons rfl LA Args.nil))) ?_;refine RVN 1 rfl ?_;refine A.block ?_;refine A.loop (ι := Nat) (fun i => i ≤ 8) (fun i => [(2, .v (.pointer (some ⟨b2,0, none⟩))), (4, .v (.pointer (some ⟨b4,0, none⟩))), (10, .v (aggV ((rounds h K64 (sched l 64) 64).list.map u32V))), (11, .v (.int .i64 ((i : Nat) : Int))), (1000002, blk b2 156 (half h (rounds h K64 (sched l 64) 64) i)), (1000004, blk b4 156 (List.replicate 8 (.int .u32 0))), (1900002, tab 2 (H8.list.map u32V)), (1900003, tab 3 (K64.map u32V))]) (fun i => 8 - i) 0 ?_ ?_ ?_
 ·exact Nat.zero_le _
 ·exact (KC 2 rfl (KC 4 rfl (KC 10 rfl (KC 11 rfl (KE 1000002 rfl (rfl) (KC 1000004 rfl (KC 1900002 rfl (KC 1900003 rfl KN))))))))
 intro i hi
 refine GV rfl (QS ?_);refine A.cond rfl (fun hc12 => ?_) (fun hc12 => ?_)
 ·have hlt : i < 8 := by simp at hc12; omega
  refine QK (QSB (GT (RM rfl ?_)));refine RS (ok_indexV1 i U156 U46 rfl info46 rfl rfl rfl hlt (map_get32 (by show i < 8; omega))) ?_;refine RVN 2 rfl ?_;refine GE (TF 6 (RM rfl ?_));refine RS (ok_index0 _ U156 info46 rfl rfl (rfl) (by omega)) ?_;refine RS (ok_loadV (s := 1000002) (by decide) U46 rfl rfl rfl (half_get hlt)) ?_;refine RM rfl ?_;refine RS (ok_add32 rfl rfl) ?_;refine RS (ok_index0 _ U156 info46 rfl rfl (rfl) (by omega)) ?_;refine RN ?_;refine ⟨_, eff_storeS (n := 23) (s := 1000002) info46 rfl rfl rfl hBb2 rfl (by rw [half_length (by omega)]; omega) (LB 1000004 rfl (LQ 1900002 rfl (LQ 1900003 rfl (LW [2,4,10,11] rfl)))), ?_⟩
  refine TL (RN (End.normal_block (EN (GTE (RB rfl rfl rfl ?_)))));refine RZ (.int .i64 ((i + 1 : Nat) : Int)) (by rw [wrap_i64 (by omega) (by omega)]; first | rfl | (congr 1; omega)) ?_;refine RVN 1 rfl ?_;refine End.normal_then ?_;refine End.again (i + 1) ?_ ?_ ?_
  ·show _ ≤ _; omega
  ·show _ - _ < _ - _; omega
  ·exact (KC 2 rfl (KC 4 rfl (KC 10 rfl (KC 11 rfl (KE 1000002 rfl (by rw [half_set hlt]) (KC 1000004 rfl (KC 1900002 rfl (KC 1900003 rfl KN))))))))
 ·obtain rfl : i = 8 := by simp at hc12; omega
  refine A.exit (End.exit_then (End.exit_then (End.exit_here (EN (GS (TF 1 (RL 1000002 U156 rfl rfl (size156.of (half_length (by omega))) ?_)))))));refine RZ (aggV ((compress h l).list.map u32V)) (rfl) ?_;refine RN ?_;refine ⟨_, eff_storeA (n := 23) (s := 1000004) (size156.of (R8.size _)) rfl rfl (all_u32 _) hBb4 rfl ((R8.size _).symm) (LV 4 rfl (LB 1000002 rfl (LQ 1900002 rfl (LQ 1900003 rfl LN)))), ?_⟩
  refine TL (RN (A.ret ?_));exact End.cell1 (s := 1000004) rfl U156 rfl (size156.of (R8.size _)) rfl rfl (Le.refl _)
theorem New_fn  : Fn Tryz.prog 136 [] (.v (stV [])) := by
 refine FV Tryz.func136 rfl Tryz.ntmps136 rfl fun w₀ => ?_
 refine GS (TN 0 (RN ?_));refine ZN 1000000 zero225 fun b0 ⟨hBb0, hb0⟩ => ?_
 refine TL (RN (GS (TF 1 (RS (ok_lit [] (List.replicate 8 (.int .u32 0) ++ List.replicate 64 (.int .u8 0) ++ [.int .u64 0]) (fun _ _ => rfl) (by kernel_rfl)) ?_))));refine RN ?_;refine ⟨_, eff_storeA (n := 2) (s := 1000000) (size225.of (by decide)) rfl rfl (by decide) hBb0 rfl (rfl) (LV 0 rfl LN), ?_⟩
 refine TL (RN (A.ret ?_));exact End.cell1 (s := 1000000) rfl U225 rfl (size225.of (by decide)) rfl rfl (Le.eq (by rw [stV, stL_nil]))
theorem filled_fn (f : R8) (r : List UInt8) (m : Nat) (hr : r.length = 64) (hm : m ≤ 1000000) : Fn Tryz.prog 148 [.v (aggV (stM f r m))] (.v (.int .i64 ((m % 64 : Nat) : Int))) := by
 refine FV Tryz.func148 rfl Tryz.ntmps148 rfl fun w₀ => ?_
 refine GS (TN 0 (RN ?_));refine ZB 1000001 rfl fun b1 ⟨hBb1, hb1⟩ => ?_
 refine TL (RVN 1 rfl ?_);refine GT (RS (ok_field field225_2 (by decide) rfl) ?_);refine RS (ok_loadV (s := 1000001) (by decide) U47 rfl rfl rfl (stM_size hr)) ?_;refine RS (ok_rem rfl rfl (by decide)) ?_;refine RZ (.int .u64 ((m % 64 : Nat) : Int)) (by rw [tmod_lit _ (by decide)]; rfl) ?_;refine RS (ok_conv U47 U3 rfl) ?_;refine RZ (.int .i64 ((m % 64 : Nat) : Int)) (by rw [wrap_i64 (by omega) (by omega)]) ?_;refine RVN 1 rfl ?_;refine A.ret ?_;exact ER rfl rfl
theorem compressed_fn (l : List UInt8) (hl : l.length ≤ 1000000) : FnM Tryz.prog 147 tabs [.v (stV l)] (.v (aggV ((chain H8 l (l.length / 64)).list.map u32V))) := by
 refine FnM.of Tryz.func147 rfl (by kernel_rfl) Tryz.ntmps147 (by simp) (by decide) (fun w => [(0, .v (stV l)), (1900002, tab 2 (H8.list.map u32V)), (1900003, tab 3 (K64.map u32V))]) (fun w => (StartM.v rfl (StartM.m (by simp [tabs]) (by decide) (StartM.m (by simp [tabs]) (by decide) StartM.nil)))) fun w₀ hM => ?_
 have htab := tabs_hi hM
 refine GS (TN 0 (RN ?_));refine ZB 1000001 rfl fun b1 ⟨hBb1, hb1⟩ => ?_
 refine TN 1 (RN ?_);refine ZN 1000002 zero156 fun b2 ⟨hBb2, hb2⟩ => ?_
 refine TL (RN (QS (GT (RS (ok_field field225_2 (by decide) rfl) ?_))));refine RS (ok_loadV (s := 1000001) (by decide) U47 rfl rfl rfl (stL_size l)) ?_;refine RVN 1 rfl ?_;refine A.cond rfl (fun hc5 => ?_) (fun hc5 => ?_)
 ·have hs : l.length < 64 := by simp at hc5; omega
  refine GS (TF 1 (RS (ok_loadT (s := 1900002) (by decide) U156 rfl (size156.of (R8.size _)) rfl rfl) ?_));refine RZ (aggV ((chain H8 l (l.length / 64)).list.map u32V)) (by rw [chain_start l hs]) ?_;refine RN ?_;refine ⟨_, eff_storeA (n := 9) (s := 1000002) (size156.of (R8.size _)) rfl rfl (all_u32 _) hBb2 rfl ((R8.size _).symm) (LV 2 rfl (LT 1000001 rfl (LQ 1900002 rfl (LQ 1900003 rfl LN)))), ?_⟩
  refine TL (RN (A.ret (End.ret_then ?_)));exact End.cell1 (s := 1000002) rfl U156 rfl (size156.of (R8.size _)) rfl rfl (Le.refl _)
 ·have hs : ¬ l.length < 64 := by simp at hc5; omega
  refine QK (GS (TF 2 (RS (ok_field field225_0 (by decide) rfl) ?_)));refine RS (ok_loadP (s := 1000001) (by decide) U156 rfl size156 rfl rfl (by rw [stL_length]; decide) (stL_full l)) ?_;refine RZ (aggV ((chain H8 l (l.length / 64)).list.map u32V)) (by rw [fullR, if_neg hs]) ?_;refine RN ?_;refine ⟨_, eff_storeA (n := 9) (s := 1000002) (size156.of (R8.size _)) rfl rfl (all_u32 _) hBb2 rfl ((R8.size _).symm) (LV 2 rfl (LT 1000001 rfl (LQ 1900002 rfl (LQ 1900003 rfl LN)))), ?_⟩
  refine TL (RN (A.ret ?_));exact End.cell1 (s := 1000002) rfl U156 rfl (size156.of (R8.size _)) rfl rfl (Le.refl _)
theorem ending_fn (l : List UInt8) (hl : l.length ≤ 1000000) : Fn Tryz.prog 150 [.v (stV l)] (byt (endL l.length)) := by
 refine FV Tryz.func150 rfl Tryz.ntmps150 rfl fun w₀ => ?_
 refine GS (TN 0 (RN ?_));refine ZB 1000001 rfl fun b1 ⟨hBb1, hb1⟩ => ?_
 refine TL (RVN 1 rfl ?_);refine GT (RL 1000001 U225 rfl rfl (size225.of (stL_length l)) ?_);refine RS (ok_call (filled_fn (fullR l) (restL l) l.length (restL_length l) hl) (A1 rfl)) ?_;refine RB rfl rfl rfl ?_;refine RZ (.int .i64 ((119 - l.length % 64 : Nat) : Int)) (by rw [wrap_i64 (by omega) (by omega)]; congr 1; omega) ?_;refine RS (ok_rem rfl rfl (by decide)) ?_;refine RZ (.int .i64 (((119 - l.length % 64) % 64 : Nat) : Int)) (by rw [tmod_lit _ (by decide)]; rfl) ?_;refine RVN 1 rfl ?_;refine GTD (RS (ok_build [byteD 128] U23 info5 rfl (by decide) (by decide) rfl ⟨rfl, rfl, trivial⟩ (fun d hd w x h => by simp only [List.mem_cons, List.not_mem_nil, or_false] at hd; rcases hd with rfl; exact v_one rfl h)) ?_);refine RM rfl ?_;refine RS (ok_make ((119 - l.length % 64) % 64) U23 info5 (by decide) rfl rfl rfl rfl rfl (by omega)) ?_;refine RS (ok_field field225_2 (by decide) rfl) ?_;refine RS (ok_loadV (s := 1000001) (by decide) U47 rfl rfl rfl (stL_size l)) ?_;refine RB rfl rfl rfl ?_;refine RZ (.int .u64 ((8 * l.length : Nat) : Int)) (by rw [wrap_u64 (by omega) (by omega)]; congr 1) ?_;refine RS (ok_call (Put64_fn ((8 * l.length : Nat) : Int) (by omega) (by omega)) (A1 rfl)) ?_;refine RS (ok_build [list [byteD 128] 1, fresh w₀.heap.size 5 (List.replicate ((119 - l.length % 64) % 64) (.int .u8 0)) ((119 - l.length % 64) % 64), bytes (be 8 (8 * l.length)) 8] U222 info23 rfl (by decide) (by decide) rfl ⟨rfl, rfl, rfl, rfl, rfl, rfl, trivial⟩ (fun d hd w x h => by simp only [List.mem_cons, List.not_mem_nil, or_false] at hd; rcases hd with rfl | rfl | rfl <;> first | exact list_one h | exact freshS_one h | exact bytes_one h)) ?_;refine RS (ok_call ((Join_fn [[128], List.replicate ((119 - l.length % 64) % 64) 0, be 8 (8 * l.length)] (by simp) (by simp [be_length]; omega)).le (d' := byt (endL l.length)) ((le_byt _ _).trans (Le.eq (by simp [endL])))) (Args.cons rfl (list_lst3 (le_lst _ _) (fresh_zeros (by simp only [maxLen]; omega)) (le_byt _ _)) Args.nil)) ?_;refine RVN 1 rfl ?_;refine A.ret ?_;exact ER rfl rfl
section
variable {κ : Cx}
end
theorem block_len (L r : List UInt8) (h : (L.length + min r.length (64 - L.length % 64)) % 64 = 0) (h0 : 0 < r.length) : L.length % 64 + (r.take (64 - L.length % 64)).length = 64 := by
 have hk : L.length % 64 < 64 := Nat.mod_lt _ (by decide)
 rw [List.length_take]; omega
theorem part_len (L r : List UInt8) (h : ¬ (L.length + min r.length (64 - L.length % 64)) % 64 = 0) : (L.length + (r.take (64 - L.length % 64)).length) / 64 = L.length / 64 := by
 have hk : L.length % 64 < 64 := Nat.mod_lt _ (by decide)
 rw [List.length_take]; omega
set_option maxHeartbeats 1000000 in
theorem Write_fn (l b : List UInt8) (hl : l.length + b.length ≤ 1000000) : FnM Tryz.prog 137 tabs [.v (stV l), byt b] (.v (stV (l ++ b))) := by
 refine FnM.of Tryz.func137 rfl (by kernel_rfl) Tryz.ntmps137 (by simp) (by decide) (fun w => [(0, .v (stV l)), (1, old w.heap.size (byt b)), (1900002, tab 2 (H8.list.map u32V)), (1900003, tab 3 (K64.map u32V))]) (fun w => (StartM.v rfl (StartM.old rfl (StartM.m (by simp [tabs]) (by decide) (StartM.m (by simp [tabs]) (by decide) StartM.nil))))) fun w₀ hM => ?_
 have htab := tabs_hi hM
 refine GS (TN 0 (RN ?_));refine ZB 1000002 rfl fun b2 ⟨hBb2, hb2⟩ => ?_
 refine TN 1 (RN ?_);refine ZN 1000004 zero225 fun b4 ⟨hBb4, hb4⟩ => ?_
 have hlt_b2_b4 := hb4 1000002 b2 _ _ rfl
 refine TL (RN (QSB ?_));refine A.loop (ι := Nat) (fun c => c ≤ b.length) (fun c => [(1, old w₀.heap.size (byt (b.drop c))), (2, .v (.pointer (some ⟨b2,0, none⟩))), (4, .v (.pointer (some ⟨b4,0, none⟩))), (1000002, blk b2 225 (stL (l ++ b.take c))), (1000004, blk b4 225 (List.replicate 8 (.int .u32 0) ++ List.replicate 64 (.int .u8 0) ++ [.int .u64 0])), (1900002, tab 2 (H8.list.map u32V)), (1900003, tab 3 (K64.map u32V))]) (fun c => b.length - c) 0 ?_ ?_ ?_
 ·exact Nat.zero_le _
 ·exact (KE 1 rfl (by rw [List.drop_zero]) (KC 2 rfl (KC 4 rfl (KE 1000002 rfl (by rw [List.take_zero, List.append_nil]) (KC 1000004 rfl (KC 1900002 rfl (KC 1900003 rfl KN)))))))
 intro c hc
 obtain ⟨L, hL⟩ : ∃ L, l ++ b.take c = L := ⟨_, rfl⟩
 obtain ⟨r, hr⟩ : ∃ r, b.drop c = r := ⟨_, rfl⟩
 have hLl : L.length = l.length + c := by rw [← hL]; simp; omega
 have hrl' : r.length = b.length - c := by rw [← hr]; simp
 rw [hL, hr]
 refine QS (GT (RM rfl ?_));refine RS (ok_lenB U23 rfl (Le.old _ _)) ?_;refine RVN 1 rfl ?_;refine A.cond rfl (fun hc9 => ?_) (fun hc9 => ?_)
 ·have hrl : 0 < r.length := by simp at hc9; omega
  refine QK (A.block (GS (TN 2 (RL 1000002 U225 rfl rfl (size225.of (stL_length _)) ?_))));refine RS (ok_callM (compressed_fn L (by omega)) (Sub.cons rfl (Sub.cons rfl KN)) tabs_v (Args.cons rfl LA Args.nil)) ?_;refine RN ?_;refine ZN 1000005 zero156 fun b5 ⟨hBb5, hb5⟩ => ?_
  refine TF 3 (RN ?_);refine ⟨_, eff_storeA (n := 36) (s := 1000005) (size156.of (R8.size _)) rfl rfl (all_u32 _) hBb5 rfl ((R8.size _).symm) (LO 1 rfl (LT 1000002 rfl (LT 1000004 rfl (LQ 1900002 rfl (LQ 1900003 rfl (LW [2,4,5] rfl)))))), ?_⟩
  refine TL (RN (GS (TF 5 (RS (ok_field field225_1 (by decide) rfl) ?_))));refine RL 1000002 U225 rfl rfl (size225.of (stL_length _)) ?_;refine RS (ok_call (filled_fn (fullR L) (restL L) L.length (restL_length L) (by omega)) (A1 rfl)) ?_;refine RS (ok_sliceX (l := L.length % 64) (h := 64) (m := 64) U223 info5 rfl (.inl ⟨_, _, rfl, rfl⟩) (.inr ⟨rfl, rfl, rfl⟩) (.inr ⟨rfl, rfl⟩) (by omega) (by omega) (by omega) (.inl (by omega))) ?_;refine RVN 1 rfl ?_;refine ⟨_, eff_copyS (n := 36) (s := 1000002) (l := r) U23 info5 rfl rfl (Le.old _ _) hBb2 rfl (by rw [stL_length]; omega) (by decide) (LO 1 rfl (LB 1000004 rfl (LT 1000005 rfl (LQ 1900002 rfl (LQ 1900003 rfl (LW [2,4,5] rfl)))))), ?_⟩
  refine TL (RVN 1 rfl ?_);refine A.sub (KC 1 rfl (KC 2 rfl (KC 4 rfl (KC 5 rfl (KC 6 rfl (KE 1000002 rfl (show blk b2 225 _ = blk b2 225 (stM (fullR L) (restL (L ++ r.take (64 - L.length % 64))) L.length) from congrArg _ (st_copy L r)) (KC 1000004 rfl (KC 1000005 rfl (KC 1900002 rfl (KC 1900003 rfl KN)))))))))) ?_;refine GT (RV 2 rfl ?_);refine RS ((ok_sliceO (l := min r.length (64 - L.length % 64)) (h := r.length) (f := byt r) (ds := r.map byteD) U23 info5 rfl (Le.refl _) (.inl ⟨_, _, rfl, rfl⟩) (.inr ⟨rfl, by simp⟩) (by omega) (by simp)).le (d' := old w₀.heap.size (byt (r.drop (min r.length (64 - L.length % 64))))) (Le.eq (by rw [byt, List.map_drop, List.take_of_length_le (by simp)]))) ?_;refine RVN 1 rfl ?_;refine GS (TF 6 (RS (ok_field field225_2 (by decide) rfl) ?_));refine RS (ok_loadV (s := 1000002) (by decide) U47 rfl rfl rfl (stM_size (restL_length _))) ?_;refine RM rfl ?_;refine RS (ok_conv U3 U47 rfl) ?_;refine RZ (.int .u64 ((min r.length (64 - L.length % 64) : Nat) : Int)) (by rw [wrapN_u64 (by omega)]) ?_;refine RB rfl rfl rfl ?_;refine RZ (.int .u64 ((L.length + min r.length (64 - L.length % 64) : Nat) : Int)) (by rw [wrap_u64 (by omega) (by omega)]; congr 1) ?_;refine RS (ok_field field225_2 (by decide) rfl) ?_;refine RN ?_;refine ⟨_, eff_storeS (n := 36) (s := 1000002) info47 rfl rfl rfl hBb2 rfl (by rw [stM_length (restL_length _)]; decide) (LO 1 rfl (LB 1000004 rfl (LT 1000005 rfl (LQ 1900002 rfl (LQ 1900003 rfl (LW [2,4,5] rfl)))))), ?_⟩
  refine TL (RN (A.sub (KC 1 rfl (KC 2 rfl (KC 4 rfl (KC 5 rfl (KE 1000002 rfl (show blk b2 225 _ = blk b2 225 (stM (fullR L) (restL (L ++ r.take (64 - L.length % 64))) (L.length + min r.length (64 - L.length % 64))) from congrArg _ (stM_setSize (restL_length _))) (KC 1000004 rfl (KC 1000005 rfl (KC 1900002 rfl (KC 1900003 rfl KN))))))))) ?_));refine GT (RL 1000002 U225 rfl rfl (size225.of (stM_length (restL_length _))) ?_);refine RS (ok_call (filled_fn (fullR L) (restL (L ++ r.take (64 - L.length % 64))) (L.length + min r.length (64 - L.length % 64)) (restL_length _) (by omega)) (A1 rfl)) ?_;refine RVN 1 rfl ?_;refine A.cond rfl (fun hc29 => ?_) (fun hc29 => ?_)
  ·refine GE (TF 5 (RL 1000005 U156 rfl rfl (size156.of (R8.size _)) ?_));refine RS (ok_field field225_1 (by decide) rfl) ?_;refine RS (ok_loadP (s := 1000002) (by decide) U223 rfl size223 rfl rfl (by rw [stM_length (restL_length _)]; decide) (stM_rest (restL_length _))) ?_;refine RS (ok_callM (Compress_fn (chain H8 L (L.length / 64)) (restL (L ++ r.take (64 - L.length % 64))) (restL_length _)) (Sub.cons rfl (Sub.cons rfl KN)) tabs_v (Args.cons rfl LA (Args.cons rfl LA Args.nil))) ?_;refine RS (ok_field field225_0 (by decide) rfl) ?_;refine RN ?_;refine ⟨_, eff_storeP (n := 36) (s := 1000002) (size156.of (R8.size _)) rfl rfl (all_u32 _) hBb2 rfl (by rw [stM_length (restL_length _), R8.size]; decide) (LO 1 rfl (LB 1000004 rfl (LT 1000005 rfl (LQ 1900002 rfl (LQ 1900003 rfl (LW [2,4] rfl)))))), ?_⟩
   refine TL (RN (End.sub (KC 1 rfl (KC 2 rfl (KC 4 rfl (KE 1000002 rfl (show blk b2 225 _ = blk b2 225 (stL (L ++ r.take (64 - L.length % 64))) from congrArg _ (by rw [stM_setFull, stL, fullR_step L _ (block_len L r (by have := beq_iff_eq.1 hc29; omega) (by omega)), List.length_append, List.length_take, Nat.min_comm (64 - L.length % 64)])) (KC 1000004 rfl (KC 1000005 rfl (KC 1900002 rfl (KC 1900003 rfl KN)))))))) ?_));refine End.normal_block (End.normal_then ?_);refine End.again (c + min r.length (64 - L.length % 64)) ?_ ?_ ?_
   ·show _ ≤ _; omega
   ·show _ - _ < _ - _; omega
   ·exact (KE 1 rfl (by rw [← List.drop_drop, hr]) (KC 2 rfl (KC 4 rfl (KE 1000002 rfl (by rw [List.take_add, hr, ← List.append_assoc, hL, Nat.min_comm r.length, ← List.take_eq_take_min]) (KC 1000004 rfl (KC 1900002 rfl (KC 1900003 rfl KN)))))))
  ·have hst : stM (fullR L) (restL (L ++ r.take (64 - L.length % 64))) (L.length + min r.length (64 - L.length % 64)) = stL (L ++ r.take (64 - L.length % 64)) := by
    rw [stL, fullR_same L _ (part_len L r (by have := beq_eq_false_iff_ne.1 hc29; omega)), List.length_append, List.length_take, Nat.min_comm (64 - L.length % 64)]
   rw [hst]
   refine A.skip (End.normal_block (End.normal_then ?_));refine End.again (c + min r.length (64 - L.length % 64)) ?_ ?_ ?_
   ·show _ ≤ _; omega
   ·show _ - _ < _ - _; omega
   ·exact (KE 1 rfl (by rw [← List.drop_drop, hr]) (KC 2 rfl (KC 4 rfl (KE 1000002 rfl (by rw [List.take_add, hr, ← List.append_assoc, hL, Nat.min_comm r.length, ← List.take_eq_take_min]) (KC 1000004 rfl (KC 1900002 rfl (KC 1900003 rfl KN)))))))
 ·have hr0 : r = [] := by simpa using hc9
  refine A.exit (End.exit_then (End.exit_then (End.exit_here (EN (GS (TF 1 (RL 1000002 U225 rfl rfl (size225.of (stL_length _)) ?_)))))));refine RN ?_;refine ⟨_, eff_storeA (n := 36) (s := 1000004) (size225.of (stL_length _)) rfl rfl (stL_ones _) hBb4 rfl ((stL_length _).symm) (LV 4 rfl (LB 1000002 rfl (LQ 1900002 rfl (LQ 1900003 rfl LN)))), ?_⟩
  refine TL (RN (A.ret ?_));exact End.cell1 (s := 1000004) rfl U225 rfl (size225.of (stL_length _)) rfl rfl (Le.v (by rw [← hL, stV]; simp [List.drop_eq_nil_iff.1 (hr.trans hr0), List.take_of_length_le]))
theorem Chunk_fnB (g m c : Nat) : FnB Tryz.prog 151 [.v (.slice (some ⟨g, 0, none⟩) m c), .v (.int .i64 64)] (fun B => closD B 157 23 3 (.slice (some ⟨g, 0, none⟩) m c) (.int .i64 64)) := by
 refine FnB.of Tryz.func151 rfl (by kernel_rfl) Tryz.ntmps151 (by simp) (fun w => [(0, .v (.slice (some ⟨g, 0, none⟩) m c)), (1, .v (.int .i64 64))]) (fun w => (Start.v rfl (Start.v rfl Start.nil))) fun w₀ => ?_
 refine GS (TN 0 (RN ?_));refine ⟨_, _, eff_box1 (n := 9) (d := 2) (k := 1000002) rfl rfl (by decide), fun b2 hb2 => ?_⟩
 have hBb2 := hb2.1
 refine TN 1 (RN ?_);refine ⟨_, _, eff_box1 (n := 9) (d := 3) (k := 1000003) rfl rfl (by decide), fun b3 hb3 => ?_⟩
 have hBb3 := hb3.1
 have hlt_b2_b3 : b2 < b3 := hb3.2 1000002 _ _ _ rfl
 refine TL (RVN 1 rfl ?_);refine QS (GT (RLV 1000003 U3 rfl rfl rfl ?_));refine RB rfl rfl rfl ?_;refine RZ (.bool false) (rfl) ?_;refine RN (A.no rfl ?_);refine QK (GT (RS (ok_makeFunc2 rfl rfl) ?_));refine RVN 1 rfl ?_;refine A.ret ?_;exact End.clos rfl hBb2 hlt_b2_b3 rfl (k₁ := 1000002) (k₂ := 1000003) rfl rfl
theorem Chunk1_seq {w₀ : World} {N m l p q g cap : Nat} {J : Nat → World → Prop} {arg : Nat → D} (hm : m = 64 * N) (hcap : m ≤ cap) (hmax : cap ≤ maxLen) (harg : ∀ i, i < N → arg i = .v (.slice (some ⟨g, 64 * i, none⟩) 64 64))
  (hq : Seqs Tryz.prog w₀ N l arg (fun _ => [(1000091, blk p 23 [.slice (some ⟨g, 0, none⟩) m cap]), (1000092, blk q 3 [.int .i64 64])]) J) {w : World} (h0 : J 0 w) :
  Calls Tryz.prog 157 (.func (.yield l) #[] #[] :: [.pointer (some ⟨p, 0, none⟩), .pointer (some ⟨q, 0, none⟩)] : List Value).toArray w fun e W => (∃ v, e = .returned v) ∧ J N W := by
 have hmx : maxLen = 9223372036854775807 := rfl
 obtain ⟨hb, hs, hV⟩ := hq.holds 0 w h0
 refine Calls.within (n := 31) (E := [(0, .v (.func (.yield l) #[] #[])), (1, .v (.pointer (some ⟨p, 0, none⟩))), (2, .v (.pointer (some ⟨q, 0, none⟩))), (1000090, jD (J 0)), (1000091, blk p 23 [.slice (some ⟨g, 0, none⟩) m cap]), (1000092, blk q 3 [.int .i64 64])]) Tryz.func157 rfl Tryz.ntmps157 (by simp) (by decide) hb hs ?_ ?_
 ·intro x hx
  simp only [List.mem_cons, List.not_mem_nil, or_false] at hx
  rcases hx with rfl | rfl | rfl | rfl | rfl | rfl
  ·exact .inr ⟨_, rfl, rfl⟩
  ·exact .inr ⟨_, rfl, rfl⟩
  ·exact .inr ⟨_, rfl, rfl⟩
  ·exact .inl ⟨vle rfl, jD_mk h0⟩
  ·exact .inl ⟨vle rfl, hV _ (by simp)⟩
  ·exact .inl ⟨vle rfl, hV _ (by simp)⟩
 refine GV rfl (A.block ?_);refine A.loop (ι := Nat) (fun i => i ≤ N) (fun i => [(0, .v (.func (.yield l) #[] #[])), (1, .v (.pointer (some ⟨p, 0, none⟩))), (2, .v (.pointer (some ⟨q, 0, none⟩))), (4, .v (.int .i64 ((64 * i : Nat) : Int))), (1000090, jD (J i)), (1000091, blk p 23 [.slice (some ⟨g, 0, none⟩) m cap]), (1000092, blk q 3 [.int .i64 64])]) (fun i => N - i) 0 ?_ ?_ ?_
 ·exact Nat.zero_le _
 ·exact (Sv [0,1,2,4,1000090,1000091,1000092] rfl)
 intro i hi
 refine QS (GT (RM rfl ?_));refine RLV 1000091 U23 rfl rfl rfl ?_;refine RS (ok_lenV U23 rfl) ?_;refine RVN 1 rfl ?_;refine A.cond rfl (fun hc9 => ?_) (fun hc9 => ?_)
 ·have hlt : i < N := by simp at hc9; omega
  refine QK (QSB (GTD (RLV 1000092 U3 rfl rfl rfl ?_)));refine RLV 1000091 U23 rfl rfl rfl ?_;refine RM rfl ?_;refine RS (ok_sliceS (l := 64 * i) (h := m) (m := cap) U23 info5 rfl (.inl ⟨_, _, rfl, rfl⟩) (.inr ⟨rfl, rfl, rfl⟩) (.inr ⟨rfl, rfl⟩) (by omega) (by omega) (by omega) (.inl (by omega))) ?_;refine RS (ok_lenV U23 rfl) ?_;refine RS (ok_min rfl rfl) ?_;refine RZ (.int .i64 ((64 : Nat) : Int)) (by congr 1; omega) ?_;refine RVN 1 rfl ?_;refine GS (TF 10 (RM rfl ?_));refine RLV 1000091 U23 rfl rfl rfl ?_;refine RV 4 rfl ?_;refine RZ (.int .i64 ((64 * i + 64 : Nat) : Int)) (by rw [wrap_i64 (by omega) (by omega)]; first | rfl | (congr 1; omega)) ?_;refine RV 3 rfl ?_;refine RZ (.int .i64 ((64 * i + 64 : Nat) : Int)) (by rw [wrap_i64 (by omega) (by omega)]; first | rfl | (congr 1; omega)) ?_;refine RS (ok_sliceS (l := 64 * i) (h := 64 * i + 64) (m := 64 * i + 64) U23 info5 rfl (.inl ⟨_, _, rfl, rfl⟩) (.inl ⟨_, _, rfl, rfl⟩) (.inl ⟨_, _, rfl, rfl⟩) (by omega) (by omega) (by omega) (.inl (by omega))) ?_;refine RZ (.slice (some ⟨g, 64 * i, none⟩) 64 64) (by rw [Nat.zero_add, show 64 * i + 64 - 64 * i = 64 from by omega]) ?_;refine RN ?_;refine ⟨_, eff_yield (vJ := 1000090) hq i hlt rfl rfl rfl (Le.eq (harg i hlt).symm) (by decide) (fun p hp => by simp only [List.mem_cons, List.not_mem_nil, or_false] at hp; rcases hp with rfl | rfl <;> exact vle rfl) (by decide) (Left.cons (t := 0) rfl (Stays.v _ _) (Left.cons (t := 1) rfl (Stays.v _ _) (Left.cons (t := 2) rfl (Stays.v _ _) (Left.cons (t := 4) rfl (Stays.v _ _) Left.nil)))), ?_⟩
  refine TL (RS (ok_not rfl) ?_);refine RZ (.bool false) (rfl) ?_;refine RN (A.no rfl ?_);refine A.skip (End.normal_block (EN (GTE (RM rfl ?_))));refine RLV 1000092 U3 rfl rfl rfl ?_;refine RB rfl rfl rfl ?_;refine RZ (.int .i64 ((64 * (i + 1) : Nat) : Int)) (by rw [wrap_i64 (by omega) (by omega)]; first | rfl | (congr 1; omega)) ?_;refine RVN 1 rfl ?_;refine End.sub (Sv [0,1,2,4,1000090,1000091,1000092] rfl) ?_;refine End.normal_then ?_;refine End.again (i + 1) ?_ ?_ ?_
  ·show _ ≤ _; omega
  ·show _ - _ < _ - _; omega
  ·exact (Sv [0,1,2,4,1000090,1000091,1000092] rfl)
 ·obtain rfl : i = N := by simp at hc9; omega
  refine A.exit (End.exit_then (End.exit_then (End.exit_here ?_)));exact End.seq (vJ := 1000090) hq rfl rfl
set_option maxHeartbeats 1000000 in
theorem Sum_fn (l : List UInt8) (hl : l.length ≤ 1000000) : FnM Tryz.prog 138 tabs [.v (stV l)] (.v (aggV ((sha l).map byteV))) := by
 refine FnM.of Tryz.func138 rfl (by kernel_rfl) Tryz.ntmps138 (by simp) (by decide) (fun w => [(0, .v (stV l)), (1900002, tab 2 (H8.list.map u32V)), (1900003, tab 3 (K64.map u32V))]) (fun w => (StartM.v rfl (StartM.m (by simp [tabs]) (by decide) (StartM.m (by simp [tabs]) (by decide) StartM.nil)))) fun w₀ hM => ?_
 have htab := tabs_hi hM
 refine GS (TN 0 (RN ?_));refine ZB 1000001 rfl fun b1 ⟨hBb1, hb1⟩ => ?_
 refine TN 1 (RN ?_);refine ZN 1000002 zero40 fun b2 ⟨hBb2, hb2⟩ => ?_
 refine TL (RN (GT (RL 1000001 U225 rfl rfl (size225.of (stL_length l)) ?_)));refine RS (ok_call (filled_fn (fullR l) (restL l) l.length (restL_length l) hl) (A1 rfl)) ?_;refine RVN 1 rfl ?_;refine GTD (RS (ok_field field225_1 (by decide) rfl) ?_);refine RV 2 rfl ?_;refine RS (ok_sliceX (l := 0) (h := l.length % 64) (m := l.length % 64) U223 info5 rfl (.inr ⟨rfl, rfl⟩) (.inl ⟨_, _, rfl, rfl⟩) (.inl ⟨_, _, rfl, rfl⟩) (by omega) (by omega) (by omega) (.inr rfl)) ?_;refine RL 1000001 U225 rfl rfl (size225.of (stL_length l)) ?_;refine RS (ok_call (ending_fn l hl) (A1 rfl)) ?_;refine RS ((ok_appendCap (s := 1000001) (m := l.length % 64) (us := (l.drop (64 * (l.length / 64))).map byteV) (vs := (endL l.length).map byteV) (by decide) U23 info5 (by decide) rfl rfl rfl (by rw [← restL_take, List.map_take, ← stL_rest, List.take_take, Nat.min_eq_left (by omega)]) (by rw [stL_length]; omega) rfl (Le.eq (byt_vals _)) (by rw [List.length_map, endL_length]; omega) (by rw [List.length_map, endL_length]; omega)).le (d' := own w₀.heap.size 5 (tailL l).length ((tailL l).map byteV)) (Le.eq (by rw [tailL_length, List.length_map, endL_length, ← List.map_append]; rfl))) ?_;refine RVN 1 rfl ?_;refine A.openOwn (t := 4) (k := 1000090) rfl (by rw [tailL_length]; omega) fun g cap ys hBg hcap1 hcap2 hgl hgx => ?_
 refine GS (TN 2 (RL 1000001 U225 rfl rfl (size225.of (stL_length l)) ?_));refine RS (ok_callM (compressed_fn l hl) (Sub.cons rfl (Sub.cons rfl KN)) tabs_v (Args.cons rfl LA Args.nil)) ?_;refine RN ?_;refine ZN 1000005 zero156 fun b5 ⟨hBb5, hb5⟩ => ?_
 refine TF 3 (RN ?_);refine ⟨_, eff_storeA (n := 42) (s := 1000005) (size156.of (R8.size _)) rfl rfl (all_u32 _) hBb5 rfl (by first | exact (R8.size _).trans (R8.size _).symm | rfl) (LT 1000001 rfl (LT 1000002 rfl (LT 1000090 rfl (LQ 1900002 rfl (LQ 1900003 rfl (LW [2,4,5] rfl)))))), ?_⟩
 refine TL (RN (QS (GT (RM rfl ?_))));refine RS (ok_callB (Chunk_fnB g (tailL l).length cap) (fun _ _ => closD_mono _ _) (A2 rfl rfl)) ?_;refine RN ?_;refine A.openClos (t := 22) (k₁ := 1000091) (k₂ := 1000092) rfl fun p q hBp hpq => ?_
 refine A.block ?_;refine A.range (gf := 157) (N := (tailL l).length / 64) (vL := 1000098) (vD := 1000099) (tp := 23) (lb := [.pointer (some ⟨p, 0, none⟩), .pointer (some ⟨q, 0, none⟩)]) (S := [(2, .v (.pointer (some ⟨b2,0, none⟩))), (5, .v (.pointer (some ⟨b5,0, none⟩)))])
  (V := fun i => [(1000002, blk b2 40 (List.replicate 32 (.int .u8 0))), (1000005, blk b5 156 ((chain (chain H8 l (l.length / 64)) (tailL l) i).list.map u32V)), (1000090, blk g 5 ((tailL l).map byteV ++ ys)), (1000091, blk p 23 [.slice (some ⟨g, 0, none⟩) (tailL l).length cap]), (1000092, blk q 3 [.int .i64 64]), (1900002, tab 2 (H8.list.map u32V)), (1900003, tab 3 (K64.map u32V))])
  (Eb := fun i => (6, .v (.slice (some ⟨g, 64 * i, none⟩) 64 64)) :: (23, .v (.slice (some ⟨g, 64 * i, none⟩) 64 64)) :: ([(1000002, blk b2 40 (List.replicate 32 (.int .u8 0))), (1000005, blk b5 156 ((chain (chain H8 l (l.length / 64)) (tailL l) i).list.map u32V)), (1000090, blk g 5 ((tailL l).map byteV ++ ys)), (1000091, blk p 23 [.slice (some ⟨g, 0, none⟩) (tailL l).length cap]), (1000092, blk q 3 [.int .i64 64]), (1900002, tab 2 (H8.list.map u32V)), (1900003, tab 3 (K64.map u32V))] ++ [(2, .v (.pointer (some ⟨b2,0, none⟩))), (5, .v (.pointer (some ⟨b5,0, none⟩)))]))
  (arg := fun i => .v (.slice (some ⟨g, 64 * i, none⟩) 64 64)) rfl ⟨_, Tryz.func157, by kernel_rfl, rfl⟩ (by decide) (by decide) (Sv [1000002,1000005,1000090,1000091,1000092,1900002,1900003,2,5] rfl)
  (fun x hx => by simp only [List.mem_cons, List.not_mem_nil, or_false] at hx; rcases hx with rfl | rfl <;> exact ⟨vlt rfl, .inl ⟨_, rfl⟩⟩)
  (fun i x hx => by simp only [List.mem_cons, List.not_mem_nil, or_false] at hx; rcases hx with rfl | rfl | rfl | rfl | rfl | rfl | rfl <;> exact vle rfl)
  (fun i l' _ x hx => by simp only [List.mem_cons, List.not_mem_nil, or_false] at hx; rcases hx with rfl | rfl | rfl | rfl | rfl | rfl | rfl <;> first | exact Firm.blk | exact Firm.tab)
  (fun i l' _ x hx => by simp only [List.mem_cons, List.mem_append, List.not_mem_nil, or_false] at hx; rcases hx with rfl | rfl | (rfl | rfl | rfl | rfl | rfl | rfl | rfl) | rfl | rfl <;> first | exact Firm.blk | exact Firm.tab | exact Firm.v _ _)
  (fun J l' w hq h0 => Chunk1_seq (g := g) (cap := cap) (tailL_mod l) hcap1 hcap2 (fun i _ => rfl) (hq.sub fun i x hx => by simp only [List.mem_cons, List.not_mem_nil, or_false] at hx ⊢; rcases hx with rfl | rfl <;> simp) h0)
  (fun i l' a w _ h => assign_one (by decide) (by decide) (by decide) h) ?_ ?_
 ·intro i l' D rr mm hi
  refine A.block (A.reg (by kernel_rfl) (by kernel_rfl) (.inr (by kernel_rfl)) ?_);refine TD 5 ?_;refine RL 1000005 U156 rfl rfl (size156.of (R8.size _)) ?_;refine RM rfl ?_;refine RS (ok_arrayAt U223 rfl (by decide)) ?_;refine RS (ok_loadP (s := 1000090) (by decide) U223 rfl size223 rfl rfl (by have := tailL_mod l; simp; omega) (tailL_block l hi)) ?_;refine RS (ok_callM (Compress_fn (chain (chain H8 l (l.length / 64)) (tailL l) i) (((tailL l).drop (64 * i)).take 64) (by have := tailL_mod l; simp; omega)) (Sub.cons rfl (Sub.cons rfl KN)) tabs_v (Args.cons rfl LA (Args.cons rfl LA Args.nil))) ?_;refine RZ (aggV ((chain (chain H8 l (l.length / 64)) (tailL l) (i + 1)).list.map u32V)) (rfl) ?_;refine RN ?_;refine ⟨_, eff_storeA (n := 42) (s := 1000005) (size156.of (R8.size _)) rfl rfl (all_u32 _) hBb5 rfl (by first | exact (R8.size _).trans (R8.size _).symm | rfl) (LT 1000002 rfl (LT 1000090 rfl (LT 1000091 rfl (LT 1000092 rfl (LeftS.cons (t := 1000098) rfl (Surv.rec rfl) (LeftS.cons (t := 1000099) rfl (Surv.rec rfl) (LQ 1900002 rfl (LQ 1900003 rfl LN)))))))), ?_⟩
  refine TL (RN (End.normal_block ?_));exact End.round (Sv [1000098,1000099,1000002,1000005,1000090,1000091,1000092,1900002,1900003] rfl) (fun x hx => by simp only [List.mem_cons, List.not_mem_nil, or_false] at hx; rcases hx with rfl | rfl | rfl | rfl | rfl | rfl | rfl | rfl | rfl <;> exact vle rfl) (by decide)
 ·intro D hD
  refine End.normal_block (EN (GS (TN 0 (RN ?_))));refine ZN 1000007 zero40 fun b7 ⟨hBb7, hb7⟩ => ?_
  have hlt_b2_b7 := hb7 1000002 b2 _ _ rfl
  refine TL (RN (QS (GT (RL 1000005 U156 rfl rfl (size156.of (R8.size _)) ?_))));refine RZ (aggV ((shaR l).list.map u32V)) (by rw [tailL_sha]) ?_;refine RVN 1 rfl ?_;refine A.block ?_;refine A.loop (ι := Nat) (fun i => i ≤ 8) (fun i => [(2, .v (.pointer (some ⟨b2,0, none⟩))), (7, .v (.pointer (some ⟨b7,0, none⟩))), (29, .v (aggV ((shaR l).list.map u32V))), (30, .v (.int .i64 ((i : Nat) : Int))), (1000002, blk b2 40 (List.replicate 32 (.int .u8 0))), (1000007, blk b7 40 (tableB ((sha l).take (4 * i)) 32)), (1000099, recD D (.deferred (some [])) 0), (1900002, tab 2 (H8.list.map u32V)), (1900003, tab 3 (K64.map u32V))]) (fun i => 8 - i) 0 ?_ ?_ ?_
  ·exact Nat.zero_le _
  ·exact (KC 2 rfl (KC 7 rfl (KC 29 rfl (KC 30 rfl (KC 1000002 rfl (KE 1000007 rfl (by rw [Nat.mul_zero, List.take_zero, ← tableB_nil]) (KC 1000099 rfl (KC 1900002 rfl (KC 1900003 rfl KN)))))))))
  intro i hi
  refine GV rfl (QS ?_);refine A.cond rfl (fun hc31 => ?_) (fun hc31 => ?_)
  ·have hlt : i < 8 := by simp at hc31; omega
   refine QK (QSB (GT (RM rfl ?_)));refine RS (ok_indexV1 i U156 U46 rfl info46 rfl rfl rfl hlt (map_get32 (by show i < 8; omega))) ?_;refine RVN 2 rfl ?_;refine A.reg (by kernel_rfl) (by kernel_rfl) (.inr (by kernel_rfl)) ?_;refine TD 5 ?_;refine RV 2 rfl ?_;refine RZ (.int .i64 ((4 * i : Nat) : Int)) (by rw [wrap_i64 (by omega) (by omega)]; first | rfl | (congr 1; omega)) ?_;refine RS (ok_sliceX (l := 4 * i) (h := 32) (m := 32) U40 info5 rfl (.inl ⟨_, _, rfl, rfl⟩) (.inr ⟨rfl, rfl, rfl⟩) (.inr ⟨rfl, rfl⟩) (by omega) (by omega) (by omega) (.inl (by omega))) ?_;refine RM rfl ?_;refine RS (ok_call (Put32_fn ((((shaR l).list.getD i 0).toNat : Nat) : Int) (Int.natCast_nonneg _) (by have := u32_lt ((shaR l).list.getD i 0); omega)) (A1 rfl)) ?_;refine RN ?_;refine ⟨_, eff_copyS (n := 42) (s := 1000007) (l := be 4 ((shaR l).list.getD i 0).toNat) U23 info5 rfl rfl (le_byt _ _) hBb7 rfl (by rw [tableB_length (by simp [sha_length]; omega)]; omega) (by decide) (LB 1000002 rfl (LeftS.cons (t := 1000099) rfl (Surv.rec rfl) (LQ 1900002 rfl (LQ 1900003 rfl (LW [2,7,29,30] rfl))))), ?_⟩
   refine TL (RN (End.sub (KC 2 rfl (KC 7 rfl (KC 29 rfl (KC 30 rfl (KC 1000002 rfl (KE 1000007 rfl (show blk b7 40 _ = blk b7 40 (tableB ((sha l).take (4 * (i + 1))) 32) from congrArg _ (sha_copy l hlt)) (KC 1000099 rfl (KC 1900002 rfl (KC 1900003 rfl KN))))))))) ?_));refine End.normal_block (EN (GTE (RB rfl rfl rfl ?_)));refine RZ (.int .i64 ((i + 1 : Nat) : Int)) (by rw [wrap_i64 (by omega) (by omega)]; first | rfl | (congr 1; omega)) ?_;refine RVN 1 rfl ?_;refine End.normal_then ?_;refine End.again (i + 1) ?_ ?_ ?_
   ·show _ ≤ _; omega
   ·show _ - _ < _ - _; omega
   ·exact (Sv [2,7,29,30,1000002,1000007,1000099,1900002,1900003] rfl)
  ·obtain rfl : i = 8 := by simp at hc31; omega
   refine A.exit (End.exit_then (End.exit_then (End.exit_here (EN (GS (TF 1 (RL 1000007 U40 rfl rfl (size40.of (by rw [tableB_length (by simp [sha_length])])) ?_)))))));refine RZ (aggV ((sha l).map byteV)) (by rw [tableB_full (by simp [sha_length]), List.take_of_length_le (by rw [sha_length]; decide)]) ?_;refine RN ?_;refine ⟨_, eff_storeA (n := 42) (s := 1000002) (size40.of (by rw [List.length_map, sha_length])) rfl rfl (all_bytes _) hBb2 rfl (by rw [List.length_map, sha_length, List.length_replicate]) (LV 2 rfl (LB 1000007 rfl (LeftS.cons (t := 1000099) rfl (Surv.rec rfl) (LQ 1900002 rfl (LQ 1900003 rfl LN))))), ?_⟩
   refine TL (RN (A.ret ?_));exact End.cell1C (D := D) (vD := 1000099) rfl hD rfl U40 rfl (size40.of (by rw [List.length_map, sha_length])) rfl (s := 1000002) rfl (fun _ => rfl)
set_option maxHeartbeats 400000 in
theorem Of_fn (ps : List (List UInt8)) (l : List UInt8) (hl : ps.flatten = l) (hps : ps.length ≤ 1000000) (htot : l.length ≤ 1000000) : FnM Tryz.prog 107 tabs [lst (ps.map byt)] (.v (aggV ((sha l).map byteV))) := by
 subst hl
 refine FnM.of Tryz.func107 rfl (by kernel_rfl) Tryz.ntmps107 (by simp) (by decide) (fun w => [(0, old w.heap.size (lst (ps.map byt))), (1900002, tab 2 (H8.list.map u32V)), (1900003, tab 3 (K64.map u32V))]) (fun w => (StartM.old rfl (StartM.m (by simp [tabs]) (by decide) (StartM.m (by simp [tabs]) (by decide) StartM.nil)))) fun w₀ hM => ?_
 have htab := tabs_hi hM
 refine GS (TN 0 (RN ?_));refine ZN 1000002 zero40 fun b2 ⟨hBb2, hb2⟩ => ?_
 refine TL (RN (GS (TN 1 (RS (ok_call New_fn Args.nil) ?_))));refine RN ?_;refine ZN 1000003 zero225 fun b3 ⟨hBb3, hb3⟩ => ?_
 refine TF 2 (RN ?_);refine ⟨_, eff_storeA (n := 19) (s := 1000003) (size225.of (stL_length _)) rfl rfl (stL_ones _) hBb3 rfl (by first | exact (stL_length _).trans (stL_length _).symm | exact (stL_length _).symm) (LO 0 rfl (LT 1000002 rfl (LQ 1900002 rfl (LQ 1900003 rfl (LW [2,3] rfl))))), ?_⟩
 refine TL (RN (QS (GT (RM rfl ?_))));refine RS (ok_len U222 rfl LA) ?_;refine RZ (.int .i64 (ps.length : Int)) (by simp) ?_;refine RVN 1 rfl ?_;refine A.block ?_;refine A.loop (ι := Nat) (fun i => i ≤ ps.length) (fun i => [(2, .v (.pointer (some ⟨b2,0, none⟩))), (3, .v (.pointer (some ⟨b3,0, none⟩))), (7, old w₀.heap.size (lst (ps.map byt))), (8, .v (.int .i64 (ps.length : Int))), (9, .v (.int .i64 (i : Int))), (1000002, blk b2 40 (List.replicate 32 (.int .u8 0))), (1000003, blk b3 225 (stL ((ps.take i).flatten))), (1900002, tab 2 (H8.list.map u32V)), (1900003, tab 3 (K64.map u32V))]) (fun i => ps.length - i) 0 ?_ ?_ ?_
 ·exact Nat.zero_le _
 ·exact (Sv [2,3,7,8,9,1000002,1000003,1900002,1900003] rfl)
 intro i hi
 refine GV rfl (QS ?_);refine A.cond rfl (fun hc10 => ?_) (fun hc10 => ?_)
 ·have hlt : i < ps.length := by simpa using hc10
  have hget : ps[i]? = some ps[i] := List.getElem?_eq_getElem hlt
  have hT := flatten_take_le ps (i + 1)
  rw [flatten_take_succ hget, List.length_append] at hT
  refine QK (QSB (GT (RS (ok_index (d := byt ps[i]) U222 info23 rfl LA rfl (by omega) (by simp [hlt])) ?_)));refine RS (ok_load U23 rfl rfl) ?_;refine RVN 1 rfl ?_;refine GE (TF 3 (RL 1000003 U225 rfl rfl (size225.of (stL_length _)) ?_));refine RM rfl ?_;refine RS (ok_callM (Write_fn ((ps.take i).flatten) ps[i] (by omega)) (Sub.cons rfl (Sub.cons rfl KN)) tabs_v (Args.cons rfl LA (Args.cons rfl LA Args.nil))) ?_;refine RZ (aggV (stL ((ps.take (i + 1)).flatten))) (by rw [flatten_take_succ hget]; rfl) ?_;refine RN ?_;refine ⟨_, eff_storeA (n := 19) (s := 1000003) (size225.of (stL_length _)) rfl rfl (stL_ones _) hBb3 rfl (by first | exact (stL_length _).trans (stL_length _).symm | exact (stL_length _).symm) (LO 7 rfl (LT 1000002 rfl (LQ 1900002 rfl (LQ 1900003 rfl (LW [2,3,8,9] rfl))))), ?_⟩
  refine TL (RN (End.normal_block (EN (GTE (RB rfl rfl rfl ?_)))));refine RZ (.int .i64 ((i + 1 : Nat) : Int)) (by rw [wrap_i64 (by omega) (by omega)]; first | rfl | (congr 1; omega)) ?_;refine RVN 1 rfl ?_;refine End.normal_then ?_;refine End.again (i + 1) ?_ ?_ ?_
  ·show _ ≤ _; omega
  ·show _ - _ < _ - _; omega
  ·exact (Sv [2,3,7,8,9,1000002,1000003,1900002,1900003] rfl)
 ·have hi2 : i = ps.length := by simp at hc10; omega
  subst hi2
  refine A.exit (End.exit_then (End.exit_then (End.exit_here (EN (GS (TF 2 (RL 1000003 U225 rfl rfl (size225.of (stL_length _)) ?_)))))));refine RZ (stV ps.flatten) (by rw [List.take_length]; rfl) ?_;refine RS (ok_callM (Sum_fn ps.flatten htot) (Sub.cons rfl (Sub.cons rfl KN)) tabs_v (Args.cons rfl LA Args.nil)) ?_;refine RN ?_;refine ⟨_, eff_storeA (n := 19) (s := 1000002) (size40.of (by rw [List.length_map, sha_length])) rfl rfl (all_bytes _) hBb2 rfl (by rw [List.length_map, sha_length, List.length_replicate]) (LV 2 rfl (LT 1000003 rfl (LQ 1900002 rfl (LQ 1900003 rfl LN)))), ?_⟩
  refine TL (RN (A.ret ?_));exact End.cell1 (s := 1000002) rfl U40 rfl (size40.of (by rw [List.length_map, sha_length])) rfl rfl (Le.refl _)
section
theorem rest_zero {α : Type} {L : List α} {z : α} {Z : α → Prop} (hz : ∀ a, Z a → a = z) (hL : L.length = 4) (h : ∀ i, i < 4 → Z (L.getD i z)) : L = List.replicate 4 z :=
 ext4 hL (by simp) z fun i hi => by rw [hz _ (h i hi), List.getD_eq_getElem?_getD, List.getElem?_replicate, if_pos hi]; rfl
open Classical in
noncomputable def ftN (n : Int) (x : NodT) : Int := if ¬ (1 ≤ n ∧ n ≤ 4096) then 1 else if x.ck ≠ 0 then x.ck else if ¬ IsP n.toNat x.l.toNat x.j then 17 else if ∀ i, pts n.toNat x.l.toNat x.j ≤ i → i < 4 → (x.r i).Z ∧ (x.e i).Z then 0 else 17
theorem ft_bad {n : Int} {x : NodT} (h : ¬ (1 ≤ n ∧ n ≤ 4096)) : ftN n x = 1 := if_pos h
theorem ft_ck {n : Nat} {x : NodT} (h1 : 1 ≤ n) (h2 : n ≤ 4096) (h : x.ck ≠ 0) : ftN n x = x.ck := by unfold ftN; rw [if_neg (by omega), if_pos h]
theorem ft_no {n : Nat} {x : NodT} (h1 : 1 ≤ n) (h2 : n ≤ 4096) (h : x.ck = 0) (hp : ¬ IsP n x.l.toNat x.j) : ftN n x = 17 := by unfold ftN; rw [if_neg (by omega), if_neg (by simp [h]), Int.toNat_natCast, if_pos hp]
theorem ft_ok {n : Nat} {x : NodT} (h1 : 1 ≤ n) (h2 : n ≤ 4096) (h : x.ck = 0) (hp : IsP n x.l.toNat x.j) (hz : ∀ i, pts n x.l.toNat x.j ≤ i → i < 4 → (x.r i).Z ∧ (x.e i).Z) : ftN n x = 0 := by unfold ftN; rw [if_neg (by omega), if_neg (by simp [h]), Int.toNat_natCast, if_neg (fun h => h hp), if_pos hz]
theorem ft_part {n : Nat} {x : NodT} (h1 : 1 ≤ n) (h2 : n ≤ 4096) (h : x.ck = 0) (hp : IsP n x.l.toNat x.j) (hz : ¬ ∀ i, pts n x.l.toNat x.j ≤ i → i < 4 → (x.r i).Z ∧ (x.e i).Z) : ftN n x = 17 := by unfold ftN; rw [if_neg (by omega), if_neg (by simp [h]), Int.toNat_natCast, if_neg (fun h => h hp), if_neg hz]
theorem NodT.Fit.rec_drop {x : NodT} (h : x.Fit) {m : Nat} (hm : m ≤ 4) : (x.v.drop (if 4 = m then 0 + 2 else 0 + 2 + m * 35)).take ((x.R.drop m).length * 35) = (x.R.drop m).flatMap RecT.v := by
 by_cases h4 : 4 = m
 ·subst h4
  rw [show x.R.drop 4 = [] from List.drop_eq_nil_of_le (by rw [h.lr]; exact Nat.le_refl _)]
  rw [List.length_nil, Nat.zero_mul, List.take_zero, List.flatMap_nil]
 ·rw [if_neg h4, Nat.zero_add, ← List.drop_drop]
  show List.take _ (List.drop (m * 35) (recsV x.R ++ entsV x.E)) = _
  rw [List.drop_append_of_le_length (by rw [h.lenR]; omega), recsV, flat_drop (RecT.lens h.fr), List.take_left' (flat_length (fun a ha => (h.fr a (List.mem_of_mem_drop ha)).len))]
theorem NodT.Fit.ent_drop {x : NodT} (h : x.Fit) {m : Nat} (hm : m ≤ 4) : (x.v.drop (if 4 = m then 0 + 142 else 0 + 142 + m * 33)).take ((x.E.drop m).length * 33) = (x.E.drop m).flatMap EntT.v := by
 by_cases h4 : 4 = m
 ·subst h4
  rw [show x.E.drop 4 = [] from List.drop_eq_nil_of_le (by rw [h.le]; exact Nat.le_refl _)]
  rw [List.length_nil, Nat.zero_mul, List.take_zero, List.flatMap_nil]
 ·rw [if_neg h4, Nat.zero_add, ← List.drop_drop]
  show List.take _ (List.drop (m * 33) (List.drop 140 (recsV x.R ++ entsV x.E))) = _
  rw [List.drop_left' h.lenR, entsV, flat_drop (EntT.lens h.fe), List.take_of_length_le (Nat.le_of_eq (flat_length (fun a ha => (h.fe a (List.mem_of_mem_drop ha)).len)))]
theorem drop_getD {α : Type} (L : List α) (m i : Nat) (z : α) : (L.drop m).getD i z = L.getD (m + i) z := by rw [List.getD_eq_getElem?_getD, List.getD_eq_getElem?_getD, List.getElem?_drop]
def usN (x : NodT) : Nat := cnt (fun i => if x.l.toNat = 0 then decide ((x.r i).x.toNat ≠ 0) else decide ((x.e i).x.toNat ≠ 0)) 4
theorem cnt_ext {p q : Nat → Bool} : ∀ {n : Nat}, (∀ i, i < n → p i = q i) → cnt p n = cnt q n
 | 0, _ => rfl
 | n + 1, h => by rw [cnt, cnt, cnt_ext (fun i hi => h i (by omega)), h n (by omega)]
theorem buildX (a : UInt8) (j : Nat) : Tryz.prog.built 57 [(0, byteV a), (1, .int .u32 (j : Int))] = some (NodT.emp a j).v.toArray := by kernel_rfl
abbrev tabN : Env := (1900001, tab 1 sizV) :: tabs
theorem tabN_v : ∀ p ∈ tabN, vbase ≤ p.1 := fun p hp => (List.mem_cons.1 hp).elim (fun h => by subst h; decide) (tabs_v p)
theorem tabN_hi {w : World} (h : ∀ p ∈ tabN, p.2.Of w undef) : 3 < w.heap.size := tabs_hi fun p hp => h p (List.mem_cons_of_mem _ hp)
end
section
theorem used_eq (a : UInt8) : Value.bool (((a.toNat : Nat) : Int) != 0) = .bool (decide (a.toNat ≠ 0)) := by
 congr 1
 rw [Bool.eq_iff_iff, bne_iff_ne, decide_eq_true_iff]
 omega
theorem nDigest_ok (x : NodT) (hx : x.Fit) (hk : x.ck = 0) : FnM Tryz.prog 79 tabN [.v (aggV x.v)] (.v (.tuple #[aggV ((sha x.bl).map byteV), .int .i64 0])) := by
 refine FnM.of Tryz.func79 rfl (by kernel_rfl) Tryz.ntmps79 (by simp) (by decide) (fun w => [(0, .v (aggV x.v)), (1900001, tab 1 (sizV)), (1900002, tab 2 (H8.list.map u32V)), (1900003, tab 3 (K64.map u32V))]) (fun w => (StartM.v rfl (StartM.m (by simp [tabN]) (by decide) (StartM.m (by simp [tabN]) (by decide) (StartM.m (by simp [tabN]) (by decide) StartM.nil))))) fun w₀ hM => ?_
 have htab := tabN_hi hM
 refine GS (TN 0 (RN ?_));refine ZB 1000001 rfl fun b1 ⟨hBb1, hb1⟩ => ?_
 refine TN 1 (RN ?_);refine ZN 1000002 zero40 fun b2 ⟨hBb2, hb2⟩ => ?_
 refine TL (RVN 1 rfl ?_);refine GT (RL 1000001 U57 rfl rfl (size57.of (hx.len)) ?_);refine RS (ok_callM (nPut_ok x hx hk) (Sub.cons rfl KN) tabS_v (A1 rfl)) ?_;refine RM rfl ?_;refine RS (ok_extract rfl rfl) ?_;refine RS (ok_extract rfl rfl) ?_;refine RVN 2 rfl ?_;refine QS (GT (RV 2 rfl ?_));refine RF ?_;refine RN (A.no rfl ?_);refine QK (GS (TF 3 (RM rfl ?_)));refine RS (ok_build [bytes x.bl (NodT.sz x.l.toNat)] U222 info23 rfl (by decide) (by decide) rfl ⟨rfl, rfl, trivial⟩ (fun d hd w x h => by simp only [List.mem_cons, List.not_mem_nil, or_false] at hd; subst hd; exact list_one h)) ?_;refine RS (ok_callM (Of_fn [x.bl] x.bl (by simp) (Nat.le_of_ble_eq_true rfl) (by rw [hx.bl_length]; have := sz_le x.l.toNat; omega)) (Sub.cons rfl (Sub.cons rfl KN)) tabs_v (Args.cons rfl (list_lst1 (le_byt _ _)) Args.nil)) ?_;refine RN ?_;refine ⟨_, eff_storeA (n := 18) (s := 1000002) (size40.of (by rw [List.length_map, sha_length])) rfl rfl (all_bytes _) hBb2 rfl (by rw [List.length_map, sha_length]; rfl) (LV 2 rfl (LT 1000001 rfl (LQ 1900001 rfl (LQ 1900002 rfl (LQ 1900003 rfl LN))))), ?_⟩
 refine TL (RVN 1 rfl ?_);refine A.ret ?_;exact End.cellV (s := 1000002) rfl U40 rfl (size40.of (by rw [List.length_map, sha_length])) rfl rfl rfl
theorem nFits_bad (m : Int) (hm : ¬ (1 ≤ m ∧ m ≤ 4096)) (x : NodT) (hx : x.Fit)  : Fn Tryz.prog 105 [.v (.int .i64 (m)), .v (aggV x.v)] (.v (.int .i64 (1))) := by
 refine FV Tryz.func105 rfl Tryz.ntmps105 rfl fun w₀ => ?_
 refine GS (TN 0 (RN ?_));refine ZB 1000003 rfl fun b3 ⟨hBb3, hb3⟩ => ?_
 refine TL (RVN 1 rfl ?_);refine QS (GT (RM rfl ?_));refine RS (ok_call (Check_bad m hm) (A1 rfl)) ?_;refine RVN 1 rfl ?_;refine GT (RV 2 rfl ?_);refine RT ?_;refine RN (A.yes rfl ?_);refine GV rfl (A.ret (End.ret_then ?_));exact ER rfl rfl
theorem nFits_ck (n : Nat) (h1 : 1 ≤ n) (h2 : n ≤ 4096) (x : NodT) (hx : x.Fit) (hk : x.ck ≠ 0) : Fn Tryz.prog 105 [.v (nI (n)), .v (aggV x.v)] (.v (.int .i64 (x.ck))) := by
 refine FV Tryz.func105 rfl Tryz.ntmps105 rfl fun w₀ => ?_
 refine GS (TN 0 (RN ?_));refine ZB 1000003 rfl fun b3 ⟨hBb3, hb3⟩ => ?_
 refine TL (RVN 1 rfl ?_);refine QS (GT (RM rfl ?_));refine RS (ok_call (Check_ok n h1 h2) (A1 rfl)) ?_;refine RVN 1 rfl ?_;refine GT (RV 2 rfl ?_);refine RF ?_;refine RN (A.no rfl ?_);refine QK (QS (GT (RL 1000003 U57 rfl rfl (size57.of (hx.len)) ?_)));refine RS (ok_call (nCheck_fn x hx) (A1 rfl)) ?_;refine RVN 1 rfl ?_;refine GT (RV 2 rfl ?_);refine RZ (.bool true) (by simp [hk]) ?_;refine RN (A.yes rfl ?_);refine GV rfl (A.ret (End.ret_then ?_));exact ER rfl rfl
theorem nFits_no (n : Nat) (h1 : 1 ≤ n) (h2 : n ≤ 4096) (x : NodT) (hx : x.Fit) (hk : x.ck = 0) (hp : ¬ IsP n x.l.toNat x.j) : Fn Tryz.prog 105 [.v (nI (n)), .v (aggV x.v)] (.v (.int .i64 (17))) := by
 refine FV Tryz.func105 rfl Tryz.ntmps105 rfl fun w₀ => ?_
 refine GS (TN 0 (RN ?_));refine ZB 1000003 rfl fun b3 ⟨hBb3, hb3⟩ => ?_
 refine TL (RVN 1 rfl ?_);refine QS (GT (RM rfl ?_));refine RS (ok_call (Check_ok n h1 h2) (A1 rfl)) ?_;refine RVN 1 rfl ?_;refine GT (RV 2 rfl ?_);refine RF ?_;refine RN (A.no rfl ?_);refine QK (QS (GT (RL 1000003 U57 rfl rfl (size57.of (hx.len)) ?_)));refine RS (ok_call (nCheck_fn x hx) (A1 rfl)) ?_;refine RVN 1 rfl ?_;refine GT (RV 2 rfl ?_);refine RZ (.bool false) (by simp [hk]) ?_;refine RN (A.no rfl ?_);refine QK (GT (RM rfl ?_));refine RS (ok_field field57_0 (by decide) rfl) ?_;refine RLV 1000003 U5 rfl rfl rfl ?_;refine RS (ok_conv U5 U3 rfl) ?_;refine RZ (nI (x.l.toNat)) (wrap_eq rfl (by have := x.l.toNat_lt; omega)) ?_;refine RS (ok_field field57_1 (by decide) rfl) ?_;refine RLV 1000003 U46 rfl rfl rfl ?_;refine RS (ok_conv U46 U3 rfl) ?_;refine RZ (nI (x.j)) (wrap_eq rfl (by have := hx.j; omega)) ?_;refine RS (ok_call (Parts_no n h1 h2 x.l.toNat x.j hp) (A3 rfl rfl rfl)) ?_;refine RVN 5 rfl ?_;refine A.sub (Sv [3,7,8,1000003] rfl) ?_;refine QS (GT (RV 2 rfl ?_));refine RT ?_;refine RVN 14 rfl ?_;refine A.yes rfl ?_;refine GV rfl (A.ret (End.ret_then ?_));exact ER rfl rfl
theorem nFits_r (n : Nat) (h1 : 1 ≤ n) (h2 : n ≤ 4096) (x : NodT) (hx : x.Fit) (hk : x.ck = 0) (hl : x.l.toNat ≤ hg n) (hj : x.j < un n (x.l.toNat + 1)) (hz : ¬ ∀ i, i < 4 - pts n x.l.toNat x.j → ((x.R.drop (pts n x.l.toNat x.j)).getD i RecT.zero).Z) : Fn Tryz.prog 105 [.v (nI (n)), .v (aggV x.v)] (.v (.int .i64 (17))) := by
 have hp := pts_pos hj
 refine FV Tryz.func105 rfl Tryz.ntmps105 rfl fun w₀ => ?_
 refine GS (TN 0 (RN ?_));refine ZB 1000003 rfl fun b3 ⟨hBb3, hb3⟩ => ?_
 refine TL (RVN 1 rfl ?_);refine QS (GT (RM rfl ?_));refine RS (ok_call (Check_ok n h1 h2) (A1 rfl)) ?_;refine RVN 1 rfl ?_;refine GT (RV 2 rfl ?_);refine RF ?_;refine RN (A.no rfl ?_);refine QK (QS (GT (RL 1000003 U57 rfl rfl (size57.of (hx.len)) ?_)));refine RS (ok_call (nCheck_fn x hx) (A1 rfl)) ?_;refine RVN 1 rfl ?_;refine GT (RV 2 rfl ?_);refine RZ (.bool false) (by simp [hk]) ?_;refine RN (A.no rfl ?_);refine QK (GT (RM rfl ?_));refine RS (ok_field field57_0 (by decide) rfl) ?_;refine RLV 1000003 U5 rfl rfl rfl ?_;refine RS (ok_conv U5 U3 rfl) ?_;refine RZ (nI (x.l.toNat)) (wrap_eq rfl (by have := x.l.toNat_lt; omega)) ?_;refine RS (ok_field field57_1 (by decide) rfl) ?_;refine RLV 1000003 U46 rfl rfl rfl ?_;refine RS (ok_conv U46 U3 rfl) ?_;refine RZ (nI (x.j)) (wrap_eq rfl (by have := hx.j; omega)) ?_;refine RS (ok_call (Parts_ok n h1 h2 x.l.toNat x.j hl hj) (A3 rfl rfl rfl)) ?_;refine RVN 5 rfl ?_;refine A.sub (Sv [3,7,8,1000003] rfl) ?_;refine QS (GT (RV 2 rfl ?_));refine RF ?_;refine RM rfl ?_;refine RQ (ok_field field57_2 (by decide) rfl) ?_;refine RQ (ok_move rfl) ?_;refine RQ (ok_sliceN (pts n x.l.toNat x.j) 4 U52 size51 rfl (.inl ⟨_, _, rfl, rfl⟩) (.inr ⟨rfl, rfl, rfl⟩) (.inr ⟨rfl, rfl⟩) hp.2.1 (Nat.le_refl _) (Nat.le_refl _)) ?_;refine RQ (ok_callK 1000003 (allZeroR_fn b3 57 (if 4 = pts n x.l.toNat x.j then 0 + 2 else 0 + 2 + pts n x.l.toNat x.j * 35) (4 - pts n x.l.toNat x.j) (4 - pts n x.l.toNat x.j) x.v (x.R.drop (pts n x.l.toNat x.j)) (by rw [List.length_drop, hx.lr]) (by omega) (fun a ha => hx.fr a (List.mem_of_mem_drop ha)) (hx.rec_drop hp.2.1) (by rw [hx.len]; have := hp.1; split <;> omega)) (by decide) rfl (A1 rfl)) ?_;refine RZ (.bool false) (congrArg Value.bool (decide_eq_false hz)) ?_;refine RVN 9 rfl ?_;refine A.yes rfl ?_;refine GV rfl (A.ret (End.ret_then ?_));exact ER rfl rfl
theorem nFits_e (n : Nat) (h1 : 1 ≤ n) (h2 : n ≤ 4096) (x : NodT) (hx : x.Fit) (hk : x.ck = 0) (hl : x.l.toNat ≤ hg n) (hj : x.j < un n (x.l.toNat + 1)) (hz : ∀ i, i < 4 - pts n x.l.toNat x.j → ((x.R.drop (pts n x.l.toNat x.j)).getD i RecT.zero).Z) (hzE : ¬ ∀ i, i < 4 - pts n x.l.toNat x.j → ((x.E.drop (pts n x.l.toNat x.j)).getD i EntT.zero).Z) : Fn Tryz.prog 105 [.v (nI (n)), .v (aggV x.v)] (.v (.int .i64 (17))) := by
 have hp := pts_pos hj
 refine FV Tryz.func105 rfl Tryz.ntmps105 rfl fun w₀ => ?_
 refine GS (TN 0 (RN ?_));refine ZB 1000003 rfl fun b3 ⟨hBb3, hb3⟩ => ?_
 refine TL (RVN 1 rfl ?_);refine QS (GT (RM rfl ?_));refine RS (ok_call (Check_ok n h1 h2) (A1 rfl)) ?_;refine RVN 1 rfl ?_;refine GT (RV 2 rfl ?_);refine RF ?_;refine RN (A.no rfl ?_);refine QK (QS (GT (RL 1000003 U57 rfl rfl (size57.of (hx.len)) ?_)));refine RS (ok_call (nCheck_fn x hx) (A1 rfl)) ?_;refine RVN 1 rfl ?_;refine GT (RV 2 rfl ?_);refine RZ (.bool false) (by simp [hk]) ?_;refine RN (A.no rfl ?_);refine QK (GT (RM rfl ?_));refine RS (ok_field field57_0 (by decide) rfl) ?_;refine RLV 1000003 U5 rfl rfl rfl ?_;refine RS (ok_conv U5 U3 rfl) ?_;refine RZ (nI (x.l.toNat)) (wrap_eq rfl (by have := x.l.toNat_lt; omega)) ?_;refine RS (ok_field field57_1 (by decide) rfl) ?_;refine RLV 1000003 U46 rfl rfl rfl ?_;refine RS (ok_conv U46 U3 rfl) ?_;refine RZ (nI (x.j)) (wrap_eq rfl (by have := hx.j; omega)) ?_;refine RS (ok_call (Parts_ok n h1 h2 x.l.toNat x.j hl hj) (A3 rfl rfl rfl)) ?_;refine RVN 5 rfl ?_;refine A.sub (Sv [3,7,8,1000003] rfl) ?_;refine QS (GT (RV 2 rfl ?_));refine RF ?_;refine RM rfl ?_;refine RQ (ok_field field57_2 (by decide) rfl) ?_;refine RQ (ok_move rfl) ?_;refine RQ (ok_sliceN (pts n x.l.toNat x.j) 4 U52 size51 rfl (.inl ⟨_, _, rfl, rfl⟩) (.inr ⟨rfl, rfl, rfl⟩) (.inr ⟨rfl, rfl⟩) hp.2.1 (Nat.le_refl _) (Nat.le_refl _)) ?_;refine RQ (ok_callK 1000003 (allZeroR_fn b3 57 (if 4 = pts n x.l.toNat x.j then 0 + 2 else 0 + 2 + pts n x.l.toNat x.j * 35) (4 - pts n x.l.toNat x.j) (4 - pts n x.l.toNat x.j) x.v (x.R.drop (pts n x.l.toNat x.j)) (by rw [List.length_drop, hx.lr]) (by omega) (fun a ha => hx.fr a (List.mem_of_mem_drop ha)) (hx.rec_drop hp.2.1) (by rw [hx.len]; have := hp.1; split <;> omega)) (by decide) rfl (A1 rfl)) ?_;refine RZ (.bool true) (congrArg Value.bool (decide_eq_true hz)) ?_;refine RV 3 rfl ?_;refine RQ (ok_field field57_3 (by decide) rfl) ?_;refine RQ (ok_move rfl) ?_;refine RQ (ok_sliceN (pts n x.l.toNat x.j) 4 U55 size54 rfl (.inl ⟨_, _, rfl, rfl⟩) (.inr ⟨rfl, rfl, rfl⟩) (.inr ⟨rfl, rfl⟩) hp.2.1 (Nat.le_refl _) (Nat.le_refl _)) ?_;refine RQ (ok_callK 1000003 (allZeroE_fn b3 57 (if 4 = pts n x.l.toNat x.j then 0 + 142 else 0 + 142 + pts n x.l.toNat x.j * 33) (4 - pts n x.l.toNat x.j) (4 - pts n x.l.toNat x.j) x.v (x.E.drop (pts n x.l.toNat x.j)) (by rw [List.length_drop, hx.le]) (by omega) (fun a ha => hx.fe a (List.mem_of_mem_drop ha)) (hx.ent_drop hp.2.1) (by rw [hx.len]; have := hp.1; split <;> omega)) (by decide) rfl (A1 rfl)) ?_;refine RZ (.bool false) (congrArg Value.bool (decide_eq_false hzE)) ?_;refine RVN 2 rfl ?_;refine A.yes rfl ?_;refine GV rfl (A.ret (End.ret_then ?_));exact ER rfl rfl
theorem nFits_ok (n : Nat) (h1 : 1 ≤ n) (h2 : n ≤ 4096) (x : NodT) (hx : x.Fit) (hk : x.ck = 0) (hl : x.l.toNat ≤ hg n) (hj : x.j < un n (x.l.toNat + 1)) (hz : ∀ i, i < 4 - pts n x.l.toNat x.j → ((x.R.drop (pts n x.l.toNat x.j)).getD i RecT.zero).Z) (hzE : ∀ i, i < 4 - pts n x.l.toNat x.j → ((x.E.drop (pts n x.l.toNat x.j)).getD i EntT.zero).Z) : Fn Tryz.prog 105 [.v (nI (n)), .v (aggV x.v)] (.v (.int .i64 (0))) := by
 have hp := pts_pos hj
 refine FV Tryz.func105 rfl Tryz.ntmps105 rfl fun w₀ => ?_
 refine GS (TN 0 (RN ?_));refine ZB 1000003 rfl fun b3 ⟨hBb3, hb3⟩ => ?_
 refine TL (RVN 1 rfl ?_);refine QS (GT (RM rfl ?_));refine RS (ok_call (Check_ok n h1 h2) (A1 rfl)) ?_;refine RVN 1 rfl ?_;refine GT (RV 2 rfl ?_);refine RF ?_;refine RN (A.no rfl ?_);refine QK (QS (GT (RL 1000003 U57 rfl rfl (size57.of (hx.len)) ?_)));refine RS (ok_call (nCheck_fn x hx) (A1 rfl)) ?_;refine RVN 1 rfl ?_;refine GT (RV 2 rfl ?_);refine RZ (.bool false) (by simp [hk]) ?_;refine RN (A.no rfl ?_);refine QK (GT (RM rfl ?_));refine RS (ok_field field57_0 (by decide) rfl) ?_;refine RLV 1000003 U5 rfl rfl rfl ?_;refine RS (ok_conv U5 U3 rfl) ?_;refine RZ (nI (x.l.toNat)) (wrap_eq rfl (by have := x.l.toNat_lt; omega)) ?_;refine RS (ok_field field57_1 (by decide) rfl) ?_;refine RLV 1000003 U46 rfl rfl rfl ?_;refine RS (ok_conv U46 U3 rfl) ?_;refine RZ (nI (x.j)) (wrap_eq rfl (by have := hx.j; omega)) ?_;refine RS (ok_call (Parts_ok n h1 h2 x.l.toNat x.j hl hj) (A3 rfl rfl rfl)) ?_;refine RVN 5 rfl ?_;refine A.sub (Sv [3,7,8,1000003] rfl) ?_;refine QS (GT (RV 2 rfl ?_));refine RF ?_;refine RM rfl ?_;refine RQ (ok_field field57_2 (by decide) rfl) ?_;refine RQ (ok_move rfl) ?_;refine RQ (ok_sliceN (pts n x.l.toNat x.j) 4 U52 size51 rfl (.inl ⟨_, _, rfl, rfl⟩) (.inr ⟨rfl, rfl, rfl⟩) (.inr ⟨rfl, rfl⟩) hp.2.1 (Nat.le_refl _) (Nat.le_refl _)) ?_;refine RQ (ok_callK 1000003 (allZeroR_fn b3 57 (if 4 = pts n x.l.toNat x.j then 0 + 2 else 0 + 2 + pts n x.l.toNat x.j * 35) (4 - pts n x.l.toNat x.j) (4 - pts n x.l.toNat x.j) x.v (x.R.drop (pts n x.l.toNat x.j)) (by rw [List.length_drop, hx.lr]) (by omega) (fun a ha => hx.fr a (List.mem_of_mem_drop ha)) (hx.rec_drop hp.2.1) (by rw [hx.len]; have := hp.1; split <;> omega)) (by decide) rfl (A1 rfl)) ?_;refine RZ (.bool true) (congrArg Value.bool (decide_eq_true hz)) ?_;refine RV 3 rfl ?_;refine RQ (ok_field field57_3 (by decide) rfl) ?_;refine RQ (ok_move rfl) ?_;refine RQ (ok_sliceN (pts n x.l.toNat x.j) 4 U55 size54 rfl (.inl ⟨_, _, rfl, rfl⟩) (.inr ⟨rfl, rfl, rfl⟩) (.inr ⟨rfl, rfl⟩) hp.2.1 (Nat.le_refl _) (Nat.le_refl _)) ?_;refine RQ (ok_callK 1000003 (allZeroE_fn b3 57 (if 4 = pts n x.l.toNat x.j then 0 + 142 else 0 + 142 + pts n x.l.toNat x.j * 33) (4 - pts n x.l.toNat x.j) (4 - pts n x.l.toNat x.j) x.v (x.E.drop (pts n x.l.toNat x.j)) (by rw [List.length_drop, hx.le]) (by omega) (fun a ha => hx.fe a (List.mem_of_mem_drop ha)) (hx.ent_drop hp.2.1) (by rw [hx.len]; have := hp.1; split <;> omega)) (by decide) rfl (A1 rfl)) ?_;refine RZ (.bool true) (congrArg Value.bool (decide_eq_true hzE)) ?_;refine RVN 2 rfl ?_;refine A.no rfl ?_;refine QK (GV rfl (A.ret ?_));exact ER rfl rfl
theorem nFits_fn (n : Int) (x : NodT) (hx : x.Fit) : Fn Tryz.prog 105 [.v (.int .i64 (n)), .v (aggV x.v)] (.v (.int .i64 (ftN n x))) := by
 by_cases hn : 1 ≤ n ∧ n ≤ 4096
 ·obtain ⟨m, rfl⟩ : ∃ m : Nat, n = (m : Int) := ⟨n.toNat, by omega⟩
  have h1 : 1 ≤ m := by omega
  have h2 : m ≤ 4096 := by omega
  by_cases hk : x.ck = 0
  ·by_cases hp : IsP m x.l.toNat x.j
   ·obtain ⟨hl, hj⟩ := isP_nat.1 hp
    have hb := pts_pos hj
    by_cases hzR : ∀ i, i < 4 - pts m x.l.toNat x.j → ((x.R.drop (pts m x.l.toNat x.j)).getD i RecT.zero).Z
    ·by_cases hzE : ∀ i, i < 4 - pts m x.l.toNat x.j → ((x.E.drop (pts m x.l.toNat x.j)).getD i EntT.zero).Z
     ·rw [ft_ok h1 h2 hk hp fun i ha hb' => ⟨by have := hzR (i - pts m x.l.toNat x.j) (by omega); rwa [drop_getD, Nat.add_sub_cancel' ha] at this, by have := hzE (i - pts m x.l.toNat x.j) (by omega); rwa [drop_getD, Nat.add_sub_cancel' ha] at this⟩]
      exact nFits_ok m h1 h2 x hx hk hl hj hzR hzE
     ·rw [ft_part h1 h2 hk hp fun h => hzE fun i hi => by rw [drop_getD]; exact (h _ (by omega) (by omega)).2]
      exact nFits_e m h1 h2 x hx hk hl hj hzR hzE
    ·rw [ft_part h1 h2 hk hp fun h => hzR fun i hi => by rw [drop_getD]; exact (h _ (by omega) (by omega)).1]
     exact nFits_r m h1 h2 x hx hk hl hj hzR
   ·rw [ft_no h1 h2 hk hp]; exact nFits_no m h1 h2 x hx hk hp
  ·rw [ft_ck h1 h2 hk]; exact nFits_ck m h1 h2 x hx hk
 ·rw [ft_bad hn]; exact nFits_bad n hn x hx
theorem nEmpty_fn (a : UInt8) (j : Nat) (hj : j < 4294967296) : Fn Tryz.prog 68 [.v (byteV a), .v (.int .u32 (j : Int))] (.v (aggV (NodT.emp a j).v)) := by
 refine FV Tryz.func68 rfl Tryz.ntmps68 rfl fun w₀ => ?_
 refine GS (TN 0 (RN ?_));refine ZN 1000004 zero57 fun b4 ⟨hBb4, hb4⟩ => ?_
 refine TL (RN (GS (TF 3 (RV 2 rfl ?_))));refine RS (ok_litS [(0, byteV a), (1, .int .u32 (j : Int))] (NodT.emp a j).v ⟨rfl, rfl, rfl, rfl, trivial⟩ (buildX _ _)) ?_;refine RN ?_;refine ⟨_, eff_storeA (n := 8) (s := 1000004) (size57.of ((NodT.emp_fit a hj).len)) rfl rfl (by first | exact NodT.one _ | exact RecT.one _ | exact EntT.one _ | exact RecT.all1 _ | exact EntT.all1 _ | exact all_byte _ | exact all_bytes _) hBb4 rfl (by first | rfl | (rw [(NodT.emp_fit a hj).len]; rfl)) (LV 4 rfl LN), ?_⟩
 refine TL (RN (A.ret ?_));exact End.cell1 (s := 1000004) rfl U57 rfl (size57.of ((NodT.emp_fit a hj).len)) rfl rfl (Le.refl _)
theorem usedR_fn (r : RecT) : Fn Tryz.prog 113 [.v (aggV r.v)] (.v (.bool (decide (r.x.toNat ≠ 0)))) := by
 refine FV Tryz.func113 rfl Tryz.ntmps113 rfl fun w₀ => ?_
 refine GS (TN 0 (RN ?_));refine ZB 1000001 rfl fun b1 ⟨hBb1, hb1⟩ => ?_
 refine TL (RVN 1 rfl ?_);refine GT (RS (ok_field field51_0 (by decide) rfl) ?_);refine RLV 1000001 U5 rfl rfl rfl ?_;refine RB rfl rfl rfl ?_;refine RZ (.bool (decide (r.x.toNat ≠ 0))) (used_eq _) ?_;refine RVN 1 rfl ?_;refine A.ret ?_;exact ER rfl rfl
theorem countR_fn (L : List RecT) (hL : L.length = 4) (hf : ∀ r ∈ L, r.Fit) : Fn Tryz.prog 112 [.v (aggV (recsV L)), .v (.func (.func 113) #[] #[])] (.v (nI (cnt (fun i => decide ((L.getD i RecT.zero).x.toNat ≠ 0)) 4))) := by
 refine FV Tryz.func112 rfl Tryz.ntmps112 rfl fun w₀ => ?_
 refine GS (TN 0 (RN ?_));refine ZB 1000002 rfl fun b2 ⟨hBb2, hb2⟩ => ?_
 refine TL (RVN 1 rfl ?_);refine GV rfl (QS (GT (RL 1000002 U52 rfl rfl (size52.of (by rw [flat_length (RecT.lens hf), hL])) ?_)));refine RVN 1 rfl ?_;refine A.block ?_;refine A.loop (ι := Nat) (fun i => i ≤ 4) (fun i => [(1, .v (.func (.func 113) #[] #[])), (5, .v (nI (cnt (fun i => decide ((L.getD i RecT.zero).x.toNat ≠ 0)) i))), (8, .v (aggV (recsV L))), (9, .v (nI (i)))]) (fun i => 4 - i) 0 ?_ ?_ ?_
 ·exact Nat.zero_le _
 ·exact (KC 1 rfl (KE 5 rfl (by rfl) (KC 8 rfl (KE 9 rfl (by rfl) KN))))
 intro i hG
 refine GV rfl (QS ?_);refine A.cond rfl (fun hc10 => ?_) (fun hc10 => ?_)
 ·have hi : i < 4 := by simp at hc10; omega
  refine QK (QSB (GS (TN 1 (RS (ok_indexAgg i U52 U51 rfl size51 rfl rfl rfl hi (flat_getD (RecT.lens hf) (by omega) RecT.zero)) ?_))));refine RN ?_;refine ZN 1000007 zero51 fun b7 ⟨hBb7, hb7⟩ => ?_
  refine TF 2 (RN ?_);refine ⟨_, eff_storeA (n := 19) (s := 1000007) (size51.of ((hf (L.getD i RecT.zero) (getD_mem4 hL hi _)).len)) rfl rfl (by first | exact NodT.one _ | exact RecT.one _ | exact EntT.one _ | exact RecT.all1 _ | exact EntT.all1 _ | exact all_byte _ | exact all_bytes _) hBb7 rfl (by first | rfl | (rw [(hf (L.getD i RecT.zero) (getD_mem4 hL hi _)).len]; rfl)) (LW [1,5,7,8,9] rfl), ?_⟩
  refine TL (RN (GT (RM rfl ?_)));refine RL 1000007 U51 rfl rfl (size51.of ((hf (L.getD i RecT.zero) (getD_mem4 hL hi _)).len)) ?_;refine RS (ok_callV0 (usedR_fn (L.getD i RecT.zero)) rfl (A1 rfl)) ?_;refine RN ?_;refine A.cond rfl (fun hc14 => ?_) (fun hc14 => ?_)
  ·have hy : (fun i => decide ((L.getD i RecT.zero).x.toNat ≠ 0)) i = true := hc14
   refine GTE (RV 2 rfl ?_);refine RZ (nI (cnt (fun i => decide ((L.getD i RecT.zero).x.toNat ≠ 0)) (i + 1))) (wrap_eq (by rw [cnt_y (p := (fun i => decide ((L.getD i RecT.zero).x.toNat ≠ 0))) hy]; omega) (by have := cnt_le (fun i => decide ((L.getD i RecT.zero).x.toNat ≠ 0)) (i + 1); omega)) ?_;refine RVN 1 rfl ?_;refine End.normal_block (EN (GTE (RB rfl rfl rfl ?_)));refine RZ (nI (i + 1)) (wrap_eq (by omega) (by omega)) ?_;refine RVN 1 rfl ?_;refine End.normal_then ?_;refine End.again (i + 1) ?_ ?_ ?_
   ·show _ ≤ _; omega
   ·show _ - _ < _ - _; omega
   ·exact (KC 1 rfl (KE 5 rfl (by first | rfl | rw [cnt_n (p := (fun i => decide ((L.getD i RecT.zero).x.toNat ≠ 0))) hy]) (KC 8 rfl (KC 9 rfl KN))))
  ·have hy : (fun i => decide ((L.getD i RecT.zero).x.toNat ≠ 0)) i = false := hc14
   refine A.skip (End.normal_block (EN (GTE (RB rfl rfl rfl ?_))));refine RZ (nI (i + 1)) (wrap_eq (by omega) (by omega)) ?_;refine RVN 1 rfl ?_;refine End.normal_then ?_;refine End.again (i + 1) ?_ ?_ ?_
   ·show _ ≤ _; omega
   ·show _ - _ < _ - _; omega
   ·exact (KC 1 rfl (KE 5 rfl (by first | rfl | rw [cnt_n (p := (fun i => decide ((L.getD i RecT.zero).x.toNat ≠ 0))) hy]) (KC 8 rfl (KC 9 rfl KN))))
 ·have hi2 : i = 4 := by simp at hc10; omega
  refine A.exit (End.exit_then (End.exit_then (End.exit_here (EN (GT (RM rfl ?_))))));refine RZ (nI (cnt (fun i => decide ((L.getD i RecT.zero).x.toNat ≠ 0)) 4)) (by rw [hi2]) ?_;refine RVN 1 rfl ?_;refine A.ret ?_;exact ER rfl rfl
theorem usedE_fn (r : EntT) : Fn Tryz.prog 115 [.v (aggV r.v)] (.v (.bool (decide (r.x.toNat ≠ 0)))) := by
 refine FV Tryz.func115 rfl Tryz.ntmps115 rfl fun w₀ => ?_
 refine GS (TN 0 (RN ?_));refine ZB 1000001 rfl fun b1 ⟨hBb1, hb1⟩ => ?_
 refine TL (RVN 1 rfl ?_);refine GT (RS (ok_field field54_0 (by decide) rfl) ?_);refine RLV 1000001 U5 rfl rfl rfl ?_;refine RB rfl rfl rfl ?_;refine RZ (.bool (decide (r.x.toNat ≠ 0))) (used_eq _) ?_;refine RVN 1 rfl ?_;refine A.ret ?_;exact ER rfl rfl
theorem countE_fn (L : List EntT) (hL : L.length = 4) (hf : ∀ r ∈ L, r.Fit) : Fn Tryz.prog 114 [.v (aggV (entsV L)), .v (.func (.func 115) #[] #[])] (.v (nI (cnt (fun i => decide ((L.getD i EntT.zero).x.toNat ≠ 0)) 4))) := by
 refine FV Tryz.func114 rfl Tryz.ntmps114 rfl fun w₀ => ?_
 refine GS (TN 0 (RN ?_));refine ZB 1000002 rfl fun b2 ⟨hBb2, hb2⟩ => ?_
 refine TL (RVN 1 rfl ?_);refine GV rfl (QS (GT (RL 1000002 U55 rfl rfl (size55.of (by rw [flat_length (EntT.lens hf), hL])) ?_)));refine RVN 1 rfl ?_;refine A.block ?_;refine A.loop (ι := Nat) (fun i => i ≤ 4) (fun i => [(1, .v (.func (.func 115) #[] #[])), (5, .v (nI (cnt (fun i => decide ((L.getD i EntT.zero).x.toNat ≠ 0)) i))), (8, .v (aggV (entsV L))), (9, .v (nI (i)))]) (fun i => 4 - i) 0 ?_ ?_ ?_
 ·exact Nat.zero_le _
 ·exact (KC 1 rfl (KE 5 rfl (by rfl) (KC 8 rfl (KE 9 rfl (by rfl) KN))))
 intro i hG
 refine GV rfl (QS ?_);refine A.cond rfl (fun hc10 => ?_) (fun hc10 => ?_)
 ·have hi : i < 4 := by simp at hc10; omega
  refine QK (QSB (GS (TN 1 (RS (ok_indexAgg i U55 U54 rfl size54 rfl rfl rfl hi (flat_getD (EntT.lens hf) (by omega) EntT.zero)) ?_))));refine RN ?_;refine ZN 1000007 zero54 fun b7 ⟨hBb7, hb7⟩ => ?_
  refine TF 2 (RN ?_);refine ⟨_, eff_storeA (n := 19) (s := 1000007) (size54.of ((hf (L.getD i EntT.zero) (getD_mem4 hL hi _)).len)) rfl rfl (by first | exact NodT.one _ | exact RecT.one _ | exact EntT.one _ | exact RecT.all1 _ | exact EntT.all1 _ | exact all_byte _ | exact all_bytes _) hBb7 rfl (by first | rfl | (rw [(hf (L.getD i EntT.zero) (getD_mem4 hL hi _)).len]; rfl)) (LW [1,5,7,8,9] rfl), ?_⟩
  refine TL (RN (GT (RM rfl ?_)));refine RL 1000007 U54 rfl rfl (size54.of ((hf (L.getD i EntT.zero) (getD_mem4 hL hi _)).len)) ?_;refine RS (ok_callV0 (usedE_fn (L.getD i EntT.zero)) rfl (A1 rfl)) ?_;refine RN ?_;refine A.cond rfl (fun hc14 => ?_) (fun hc14 => ?_)
  ·have hy : (fun i => decide ((L.getD i EntT.zero).x.toNat ≠ 0)) i = true := hc14
   refine GTE (RV 2 rfl ?_);refine RZ (nI (cnt (fun i => decide ((L.getD i EntT.zero).x.toNat ≠ 0)) (i + 1))) (wrap_eq (by rw [cnt_y (p := (fun i => decide ((L.getD i EntT.zero).x.toNat ≠ 0))) hy]; omega) (by have := cnt_le (fun i => decide ((L.getD i EntT.zero).x.toNat ≠ 0)) (i + 1); omega)) ?_;refine RVN 1 rfl ?_;refine End.normal_block (EN (GTE (RB rfl rfl rfl ?_)));refine RZ (nI (i + 1)) (wrap_eq (by omega) (by omega)) ?_;refine RVN 1 rfl ?_;refine End.normal_then ?_;refine End.again (i + 1) ?_ ?_ ?_
   ·show _ ≤ _; omega
   ·show _ - _ < _ - _; omega
   ·exact (KC 1 rfl (KE 5 rfl (by first | rfl | rw [cnt_n (p := (fun i => decide ((L.getD i EntT.zero).x.toNat ≠ 0))) hy]) (KC 8 rfl (KC 9 rfl KN))))
  ·have hy : (fun i => decide ((L.getD i EntT.zero).x.toNat ≠ 0)) i = false := hc14
   refine A.skip (End.normal_block (EN (GTE (RB rfl rfl rfl ?_))));refine RZ (nI (i + 1)) (wrap_eq (by omega) (by omega)) ?_;refine RVN 1 rfl ?_;refine End.normal_then ?_;refine End.again (i + 1) ?_ ?_ ?_
   ·show _ ≤ _; omega
   ·show _ - _ < _ - _; omega
   ·exact (KC 1 rfl (KE 5 rfl (by first | rfl | rw [cnt_n (p := (fun i => decide ((L.getD i EntT.zero).x.toNat ≠ 0))) hy]) (KC 8 rfl (KC 9 rfl KN))))
 ·have hi2 : i = 4 := by simp at hc10; omega
  refine A.exit (End.exit_then (End.exit_then (End.exit_here (EN (GT (RM rfl ?_))))));refine RZ (nI (cnt (fun i => decide ((L.getD i EntT.zero).x.toNat ≠ 0)) 4)) (by rw [hi2]) ?_;refine RVN 1 rfl ?_;refine A.ret ?_;exact ER rfl rfl
theorem nUsed_R (x : NodT) (hx : x.Fit) (h : x.l.toNat = 0) : Fn Tryz.prog 85 [.v (aggV x.v)] (.v (nI (usN x))) := by
 refine FV Tryz.func85 rfl Tryz.ntmps85 rfl fun w₀ => ?_
 refine GS (TN 0 (RN ?_));refine ZB 1000001 rfl fun b1 ⟨hBb1, hb1⟩ => ?_
 refine TL (RVN 1 rfl ?_);refine QS (GT (RL 1000001 U57 rfl rfl (size57.of (hx.len)) ?_));refine RS (ok_call (isGroup_y x hx h) (A1 rfl)) ?_;refine RN (A.yes rfl ?_);refine GT (RS (ok_field field57_2 (by decide) rfl) ?_);refine RS (ok_loadP (s := 1000001) (by decide) U52 rfl size52 rfl rfl (by rw [hx.len]; decide) (hx.getR)) ?_;refine RS (ok_call (countR_fn x.R hx.lr hx.fr) (A2 rfl rfl)) ?_;refine RZ (nI (usN x)) (congrArg nI (cnt_ext fun i _ => (if_pos h).symm)) ?_;refine RVN 1 rfl ?_;refine A.ret (End.ret_then ?_);exact ER rfl rfl
theorem nUsed_E (x : NodT) (hx : x.Fit) (h : ¬ x.l.toNat = 0) : Fn Tryz.prog 85 [.v (aggV x.v)] (.v (nI (usN x))) := by
 refine FV Tryz.func85 rfl Tryz.ntmps85 rfl fun w₀ => ?_
 refine GS (TN 0 (RN ?_));refine ZB 1000001 rfl fun b1 ⟨hBb1, hb1⟩ => ?_
 refine TL (RVN 1 rfl ?_);refine QS (GT (RL 1000001 U57 rfl rfl (size57.of (hx.len)) ?_));refine RS (ok_call (isGroup_n x hx h) (A1 rfl)) ?_;refine RN (A.no rfl ?_);refine QK (GT (RS (ok_field field57_3 (by decide) rfl) ?_));refine RS (ok_loadP (s := 1000001) (by decide) U55 rfl size55 rfl rfl (by rw [hx.len]; decide) (hx.getE)) ?_;refine RS (ok_call (countE_fn x.E hx.le hx.fe) (A2 rfl rfl)) ?_;refine RZ (nI (usN x)) (congrArg nI (cnt_ext fun i _ => (if_neg h).symm)) ?_;refine RVN 1 rfl ?_;refine A.ret ?_;exact ER rfl rfl
theorem nUsed_fn (x : NodT) (hx : x.Fit) : Fn Tryz.prog 85 [.v (aggV x.v)] (.v (nI (usN x))) := by
 by_cases h : x.l.toNat = 0
 ·exact nUsed_R x hx h
 ·exact nUsed_E x hx h
end
section
def lev (n i : Nat) : Nat := if i < tot n 1 then 0 else if i < tot n 2 then 1 else if i < tot n 3 then 2 else if i < tot n 4 then 3 else if i < tot n 5 then 4 else 5
def idx (n i : Nat) : Nat := i - tot n (lev n i)
theorem lev_mid {n l i : Nat} (hl : l ≤ 5) (h1 : tot n l ≤ i) (h2 : i < tot n (l + 1)) : lev n i = l := by
 have m1 := tot_mono (n := n) (show 0 ≤ 1 by decide)
 have m2 := tot_mono (n := n) (show 1 ≤ 2 by decide)
 have m3 := tot_mono (n := n) (show 2 ≤ 3 by decide)
 have m4 := tot_mono (n := n) (show 3 ≤ 4 by decide)
 have m5 := tot_mono (n := n) (show 4 ≤ 5 by decide)
 have hc : l = 0 ∨ l = 1 ∨ l = 2 ∨ l = 3 ∨ l = 4 ∨ l = 5 := by omega
 unfold lev
 rcases hc with rfl | rfl | rfl | rfl | rfl | rfl
 ·rw [if_pos h2]
 ·rw [if_neg (by omega), if_pos h2]
 ·rw [if_neg (by omega), if_neg (by omega), if_pos h2]
 ·rw [if_neg (by omega), if_neg (by omega), if_neg (by omega), if_pos h2]
 ·rw [if_neg (by omega), if_neg (by omega), if_neg (by omega), if_neg (by omega), if_pos h2]
 ·rw [if_neg (by omega), if_neg (by omega), if_neg (by omega), if_neg (by omega), if_neg (by omega)]
theorem lev_at {n l j : Nat} (hl : l ≤ 5) (hj : j < un n (l + 1)) : lev n (tot n l + j) = l := lev_mid hl (by omega) (by rw [tot_succ]; omega)
theorem idx_at {n l j : Nat} (hl : l ≤ 5) (hj : j < un n (l + 1)) : idx n (tot n l + j) = j := by unfold idx; rw [lev_at hl hj]; omega
theorem num_ex {n i : Nat} : ∀ {m : Nat}, i < tot n m → ∃ l j, l < m ∧ j < un n (l + 1) ∧ i = tot n l + j
 | 0, h => absurd h (Nat.not_lt_zero _)
 | m + 1, h => by
  by_cases hm : i < tot n m
  ·obtain ⟨l, j, h1, h2⟩ := num_ex hm
   exact ⟨l, j, by omega, h2⟩
  ·rw [tot_succ] at h
   exact ⟨m, i - tot n m, by omega, by omega, by omega⟩
theorem lev_ok {n i : Nat} (h : i < tot n (hg n + 1)) : lev n i ≤ hg n ∧ idx n i < un n (lev n i + 1) ∧ tot n (lev n i) + idx n i = i := by
 obtain ⟨l, j, h1, h2, rfl⟩ := num_ex h
 have := hg_le n
 rw [lev_at (by omega) h2, idx_at (by omega) h2]
 exact ⟨by omega, h2, rfl⟩
theorem numP_lt {n l j : Nat} (hl : l ≤ hg n) (hj : j < un n (l + 1)) : tot n l + j < tot n (hg n + 1) := by
 have := tot_mono (n := n) (show l + 1 ≤ hg n + 1 by omega)
 rw [tot_succ] at this
 omega
theorem tot_pos {n : Nat} (h : 1 ≤ n) : 0 < tot n (hg n + 1) := by have h1 := un_pos h (0 + 1); have := numP_lt (n := n) (l := 0) (j := 0) (Nat.zero_le _) (by omega); omega
theorem un_top {n : Nat} (h1 : 1 ≤ n) (h2 : n ≤ 4096) : tot n (hg n) + 0 + 1 = tot n (hg n + 1) := by rw [tot_succ, un_root h1 h2]
theorem kid_ok {n l j w : Nat} (hw : w < pts n (l + 1) j) : 4 * j + w < un n (l + 1) := by unfold pts at hw; omega
theorem kid_pts {n l j w : Nat} (h4 : w < 4) (h : 4 * j + w < un n (l + 1)) : w < pts n (l + 1) j := by unfold pts; omega
theorem pts_le (n l j : Nat) : pts n l j ≤ 4 := by unfold pts; omega
def nodsV (T : List NodT) : List Value := T.flatMap NodT.v
def ndAt (T : List NodT) (i : Nat) : NodT := T.getD i (NodT.emp 0 0)
def FitT (T : List NodT) : Prop := ∀ x ∈ T, x.Fit
theorem FitT.lens {T : List NodT} (h : FitT T) : ∀ x ∈ T, x.v.length = 274 := fun x hx => (h x hx).len
theorem nods_len {T : List NodT} (h : FitT T) : (nodsV T).length = T.length * 274 := flat_length h.lens
theorem FitT.at {T : List NodT} (h : FitT T) (i : Nat) : (ndAt T i).Fit := by
 unfold ndAt
 rw [List.getD_eq_getElem?_getD]
 cases hi : T[i]? with
 | none => exact NodT.emp_fit 0 (by decide)
 | some x => exact h x (List.mem_of_getElem? hi)
theorem nods_at {T : List NodT} (h : FitT T) {i : Nat} (hi : i < T.length) : ((nodsV T).drop (i * 274)).take 274 = (ndAt T i).v := flat_getD h.lens hi _
theorem nods_app (T U : List NodT) : nodsV (T ++ U) = nodsV T ++ nodsV U := List.flatMap_append
theorem nods_set {T : List NodT} (h : FitT T) {i : Nat} (hi : i < T.length) {x : NodT} (hx : x.Fit) : (nodsV T).take (i * 274) ++ x.v ++ (nodsV T).drop (i * 274 + 274) = nodsV (T.set i x) := flat_set h.lens hi hx.len
theorem FitT.app {T U : List NodT} (h : FitT T) (h' : FitT U) : FitT (T ++ U) := fun x hx => (List.mem_append.1 hx).elim (h x) (h' x)
theorem FitT.nil : FitT [] := fun _ h => by cases h
theorem FitT.set {T : List NodT} (h : FitT T) (i : Nat) {x : NodT} (hx : x.Fit) : FitT (T.set i x) := fun y hy => (List.mem_or_eq_of_mem_set hy).elim (h y) fun e => e ▸ hx
theorem ndAt_app {T U : List NodT} {i : Nat} (h : i < T.length) : ndAt (T ++ U) i = ndAt T i := by
 unfold ndAt
 rw [List.getD_eq_getElem?_getD, List.getD_eq_getElem?_getD, List.getElem?_append_left h]
theorem ndAt_app2 {T U : List NodT} {i : Nat} : ndAt (T ++ U) (T.length + i) = ndAt U i := by
 unfold ndAt
 rw [List.getD_eq_getElem?_getD, List.getD_eq_getElem?_getD, List.getElem?_append_right (by omega), Nat.add_sub_cancel_left]
theorem ndAt_ext {T U : List NodT} (hl : T.length = U.length) (h : ∀ i, i < T.length → ndAt T i = ndAt U i) : T = U := by
 apply List.ext_getElem hl
 intro i h1 h2
 have := h i h1
 unfold ndAt at this
 rwa [List.getD_eq_getElem?_getD, List.getD_eq_getElem?_getD, List.getElem?_eq_getElem h1, List.getElem?_eq_getElem h2] at this
def zerosT (m : Nat) : List NodT := List.replicate m (NodT.emp 0 0)
def pgT (f : Nat → NodT) (m i : Nat) : List NodT := (List.range m).map fun k => if k < i then f k else NodT.emp 0 0
theorem pgT_length (f : Nat → NodT) (m i : Nat) : (pgT f m i).length = m := by simp [pgT]
theorem pgT_at {f : Nat → NodT} {m i k : Nat} (h : k < m) (hi : k < i) : ndAt (pgT f m i) k = f k := by
 unfold ndAt pgT
 rw [List.getD_eq_getElem?_getD, List.getElem?_map, List.getElem?_range h]
 simp [hi]
theorem pgT_zero (f : Nat → NodT) (m : Nat) : pgT f m 0 = zerosT m := by
 apply List.ext_getElem?; intro k
 by_cases hk : k < m <;> simp [pgT, zerosT, hk]
theorem pgT_set (f : Nat → NodT) {m i : Nat} (hi : i < m) : (pgT f m i).set i (f i) = pgT f m (i + 1) := by
 apply List.ext_getElem?; intro k
 rw [List.getElem?_set]
 by_cases hk : i = k
 ·subst hk
  simp [pgT, hi]
 ·rw [if_neg hk]
  by_cases hm : k < m
  ·simp only [pgT, List.getElem?_map, List.getElem?_range hm, Option.map_some]
   by_cases h1 : k < i
   ·rw [if_pos h1, if_pos (by omega)]
   ·rw [if_neg h1, if_neg (by omega)]
  ·simp [pgT, hm]
theorem pgT_fit {f : Nat → NodT} {m i : Nat} (h : ∀ k, k < m → k < i → (f k).Fit) : FitT (pgT f m i) := fun x hx => by
 obtain ⟨k, hk, rfl⟩ := List.mem_map.1 hx
 have hk := List.mem_range.1 hk
 by_cases hi : k < i
 ·simp only [if_pos hi]; exact h k hk hi
 ·simp only [if_neg hi]; exact NodT.emp_fit 0 (by decide)
def recAt (R : List RecT) (i : Nat) : RecT := R.getD i RecT.zero
def FitR (R : List RecT) : Prop := ∀ r ∈ R, r.Fit
theorem FitR.at {R : List RecT} (h : FitR R) (i : Nat) : (recAt R i).Fit := by
 unfold recAt
 rw [List.getD_eq_getElem?_getD]
 cases hi : R[i]? with
 | none => exact RecT.zero_fit
 | some x => exact h x (List.mem_of_getElem? hi)
theorem recs_len {R : List RecT} (h : FitR R) : (recsV R).length = R.length * 35 := flat_length (RecT.lens h)
theorem recs_at {R : List RecT} (h : FitR R) {i : Nat} (hi : i < R.length) : ((recsV R).drop (i * 35)).take 35 = (recAt R i).v := flat_getD (RecT.lens h) hi _
theorem recAt_big {R : List RecT} {i : Nat} (h : R.length ≤ i) : recAt R i = RecT.zero := by
 unfold recAt; rw [List.getD_eq_getElem?_getD, List.getElem?_eq_none h]; rfl
def emT (n : Nat) (T : List NodT) : Nat → Nat → Bool
 | 0, j => decide (usN (ndAt T j) = 0)
 | l + 1, j => decide (∀ w, w < pts n (l + 1) j → emT n T l (4 * j + w) = true)
def emF (n : Nat) (f : Nat → RecT) (l j : Nat) : Bool := decide (∀ i, i < n → i / 4 ^ (l + 1) = j → (f i).x.toNat = 0)
theorem emF_iff {n : Nat} {f : Nat → RecT} {l j : Nat} : emF n f l j = true ↔ ∀ i, i < n → i / 4 ^ (l + 1) = j → (f i).x.toNat = 0 := by unfold emF; rw [decide_eq_true_iff]
theorem div_pow (i l : Nat) : i / 4 ^ (l + 2) = i / 4 ^ (l + 1) / 4 := by rw [Nat.pow_succ, Nat.div_div_eq_div_mul]
theorem div_lt_un {n i : Nat} (h : i < n) (l : Nat) : i / 4 ^ l < un n l := (un_lt n l _).2 (Nat.lt_of_le_of_lt (Nat.div_mul_le_self i _) h)
theorem emF_up {n : Nat} {f : Nat → RecT} {l j : Nat} : emF n f (l + 1) j = true ↔ ∀ w, w < pts n (l + 1) j → emF n f l (4 * j + w) = true := by
 rw [emF_iff]
 constructor
 ·intro h w hw
  rw [emF_iff]
  intro i hi hij
  have h4 := pts_le n (l + 1) j
  exact h i hi (by rw [div_pow, hij]; omega)
 ·intro h i hi hij
  rw [div_pow] at hij
  have h1 := div_lt_un hi (l + 1)
  have hw : i / 4 ^ (l + 1) % 4 < pts n (l + 1) j := kid_pts (Nat.mod_lt _ (by decide)) (by omega)
  exact emF_iff.1 (h _ hw) i hi (by omega)
theorem cnt_zero {p : Nat → Bool} : ∀ {n : Nat}, cnt p n = 0 ↔ ∀ i, i < n → p i = false
 | 0 => ⟨fun _ i h => absurd h (Nat.not_lt_zero _), fun _ => rfl⟩
 | n + 1 => by
  rw [cnt]
  have ih := cnt_zero (p := p) (n := n)
  constructor
  ·intro h i hi
   have h1 : cnt p n = 0 := by omega
   have h2 : p n = false := by
    cases hp : p n with
    | false => rfl
    | true => rw [hp] at h; simp at h
   by_cases hin : i < n
   ·exact ih.1 h1 i hin
   ·obtain rfl : i = n := by omega
    exact h2
  ·intro h
   rw [ih.2 fun i hi => h i (by omega), h n (by omega)]; rfl
def recT (T : List NodT) (i : Nat) : RecT := (ndAt T (i / 4)).r (i % 4)
def Grps (n : Nat) (T : List NodT) : Prop := ∀ j, j < un n 1 → (ndAt T j).l.toNat = 0 ∧ ∀ w, pts n 0 j ≤ w → w < 4 → ((ndAt T j).r w).Z
theorem emT_eq {n : Nat} {T : List NodT} (h : Grps n T) : ∀ (l : Nat) {j : Nat}, j < un n (l + 1) → emT n T l j = emF n (recT T) l j
 | 0, j, hj => by
  obtain ⟨h0, hz⟩ := h j hj
  rw [Bool.eq_iff_iff, emF_iff]
  unfold emT
  rw [decide_eq_true_iff]
  unfold usN
  rw [cnt_zero]
  constructor
  ·intro hc i hi hij
   have hij : i / 4 = j := by simpa using hij
   have h1 := hc (i % 4) (Nat.mod_lt _ (by decide))
   rw [if_pos h0] at h1
   unfold recT
   rw [hij]
   simpa using h1
  ·intro hc w hw
   rw [if_pos h0]
   by_cases hp : w < pts n 0 j
   ·have hlt : 4 * j + w < n := by unfold pts un at hp; omega
    have := hc (4 * j + w) hlt (by simp; omega)
    unfold recT at this
    rw [show (4 * j + w) / 4 = j from by omega, show (4 * j + w) % 4 = w from by omega] at this
    simpa using this
   ·have := (hz w (by omega) hw).1
    simpa using this
 | l + 1, j, hj => by
  rw [Bool.eq_iff_iff, emF_up]
  unfold emT
  rw [decide_eq_true_iff]
  constructor
  ·intro hc w hw; rw [← emT_eq h l (kid_ok hw)]; exact hc w hw
  ·intro hc w hw; rw [emT_eq h l (kid_ok hw)]; exact hc w hw
def entR (s : Nat) (x : NodT) : EntT := ⟨UInt8.ofNat (s + 1), sha x.bl⟩
def entT (n : Nat) (T : List NodT) (S : List Nat) (l k : Nat) : EntT := if emT n T l k then EntT.zero else entR (S.getD (tot n l + k) 0) (ndAt T (tot n l + k))
def upT (n : Nat) (T : List NodT) (S : List Nat) (l j : Nat) : NodT := ⟨UInt8.ofNat (l + 1), j, zerosR, pg EntT.zero (fun w => entT n T S l (4 * j + w)) (pts n (l + 1) j)⟩
def grpR (R : List RecT) (j : Nat) : NodT := ⟨0, j, pg RecT.zero (fun w => recAt R (4 * j + w)) (pts R.length 0 j), zerosE⟩
def nodR (R : List RecT) (S : List Nat) : Nat → Nat → NodT
 | 0, j => grpR R j
 | l + 1, j => ⟨UInt8.ofNat (l + 1), j, zerosR, pg EntT.zero (fun w => if emF R.length (recAt R) l (4 * j + w) then EntT.zero else entR (S.getD (tot R.length l + (4 * j + w)) 0) (nodR R S l (4 * j + w))) (pts R.length (l + 1) j)⟩
theorem nodR_succ (R : List RecT) (S : List Nat) (l j : Nat) : nodR R S (l + 1) j = ⟨UInt8.ofNat (l + 1), j, zerosR, pg EntT.zero (fun w => if emF R.length (recAt R) l (4 * j + w) then EntT.zero else entR (S.getD (tot R.length l + (4 * j + w)) 0) (nodR R S l (4 * j + w))) (pts R.length (l + 1) j)⟩ := by rw [nodR]
theorem nodR_zero (R : List RecT) (S : List Nat) (j : Nat) : nodR R S 0 j = grpR R j := by rw [nodR]
theorem pg_fitR {f : Nat → RecT} {k : Nat} (h : ∀ i, (f i).Fit) : ∀ r ∈ pg RecT.zero f k, r.Fit := fun a ha => by
 rcases pg_mem ha with e | ⟨i, _, _, e⟩
 ·rw [e]; exact RecT.zero_fit
 ·rw [e]; exact h i
theorem pg_fitE {f : Nat → EntT} {k : Nat} (h : ∀ i, (f i).Fit) : ∀ r ∈ pg EntT.zero f k, r.Fit := fun a ha => by
 rcases pg_mem ha with e | ⟨i, _, _, e⟩
 ·rw [e]; exact EntT.zero_fit
 ·rw [e]; exact h i
def treR (R : List RecT) (S : List Nat) (m : Nat) : List NodT := (List.range m).map fun i => nodR R S (lev R.length i) (idx R.length i)
theorem treR_length (R : List RecT) (S : List Nat) (m : Nat) : (treR R S m).length = m := by simp [treR]
theorem treR_get {R : List RecT} {S : List Nat} {m i : Nat} (h : i < m) : ndAt (treR R S m) i = nodR R S (lev R.length i) (idx R.length i) := by
 unfold ndAt treR
 rw [List.getD_eq_getElem?_getD, List.getElem?_map, List.getElem?_range h]; rfl
theorem treR_at {R : List RecT} {S : List Nat} {m l j : Nat} (hl : l ≤ 5) (hj : j < un R.length (l + 1)) (h : tot R.length l + j < m) : ndAt (treR R S m) (tot R.length l + j) = nodR R S l j := by
 rw [treR_get h, lev_at hl hj, idx_at hl hj]
theorem treR_step (R : List RecT) (S : List Nat) {l j : Nat} (hl : l ≤ 5) (hj : j < un R.length (l + 1)) : treR R S (tot R.length l + j) ++ [nodR R S l j] = treR R S (tot R.length l + j + 1) := by
 unfold treR
 rw [List.range_succ, List.map_append, List.map_singleton, lev_at hl hj, idx_at hl hj]
theorem entR_fit (s : Nat) (x : NodT) : (entR s x).Fit := ⟨sha_length _⟩
theorem sm8 {k : Nat} (h : k < 256) : (UInt8.ofNat k).toNat = k := by rw [UInt8.toNat_ofNat', Nat.mod_eq_of_lt (by omega)]
theorem grpR_fit {R : List RecT} (hR : FitR R) {j : Nat} (hj : j < 4294967296) : (grpR R j).Fit := ⟨hj, pg_length _ _ _, rfl, pg_fitR fun i => hR.at _, NodT.ze_fit⟩
theorem nodR_fit {R : List RecT} (hR : FitR R) (S : List Nat) {l j : Nat} (hj : j < 4294967296) : (nodR R S l j).Fit := by
 cases l with
 | zero => rw [nodR_zero]; exact grpR_fit hR hj
 | succ l =>
  rw [nodR_succ]
  refine ⟨hj, rfl, pg_length _ _ _, NodT.zr_fit, ?_⟩
  dsimp only
  refine pg_fitE fun i => ?_
  split
  ·exact EntT.zero_fit
  ·exact entR_fit _ _
theorem un_small {n : Nat} (h1 : 1 ≤ n) (h2 : n ≤ 4096) (k : Nat) : un n k < 4294967296 := by have := un_le h1 k; omega
theorem treR_fit {R : List RecT} (hR : FitR R) (S : List Nat) (h1 : 1 ≤ R.length) (h2 : R.length ≤ 4096) {m : Nat} (hm : m ≤ tot R.length (hg R.length + 1)) : FitT (treR R S m) := fun x hx => by
 obtain ⟨i, hi, rfl⟩ := List.mem_map.1 hx
 have hi := List.mem_range.1 hi
 obtain ⟨_, h4, _⟩ := lev_ok (n := R.length) (i := i) (by omega)
 exact nodR_fit hR S (by have := un_small h1 h2 (lev R.length i + 1); omega)
theorem nodR_l {R : List RecT} {S : List Nat} {l j : Nat} (hl : l ≤ 5) : (nodR R S l j).l.toNat = l := by
 cases l with
 | zero => rw [nodR_zero]; rfl
 | succ l => rw [nodR_succ]; exact sm8 (by omega)
theorem nodR_j {R : List RecT} {S : List Nat} {l j : Nat} : (nodR R S l j).j = j := by
 cases l with
 | zero => rw [nodR_zero]; rfl
 | succ l => rw [nodR_succ]
theorem grpR_r {R : List RecT} {j w : Nat} (hw : w < 4) : (grpR R j).r w = recAt R (4 * j + w) := by
 unfold NodT.r grpR
 dsimp only
 rw [pg_getD _ _ _ hw]
 split
 ·rfl
 ·rename_i h
  rw [recAt_big (by unfold pts un at h; omega)]
theorem nodR_e {R : List RecT} {S : List Nat} {l j w : Nat} (hw : w < 4) : (nodR R S (l + 1) j).e w = if w < pts R.length (l + 1) j then (if emF R.length (recAt R) l (4 * j + w) then EntT.zero else entR (S.getD (tot R.length l + (4 * j + w)) 0) (nodR R S l (4 * j + w))) else EntT.zero := by
 rw [nodR_succ]
 unfold NodT.e
 dsimp only
 rw [pg_getD _ _ _ hw]
theorem emF_congr {n : Nat} {f g : Nat → RecT} (h : ∀ i, i < n → f i = g i) (l j : Nat) : emF n f l j = emF n g l j := by
 rw [Bool.eq_iff_iff, emF_iff, emF_iff]
 constructor
 ·intro hc i hi hij; rw [← h i hi]; exact hc i hi hij
 ·intro hc i hi hij; rw [h i hi]; exact hc i hi hij
theorem grpR_Z {R : List RecT} {j w : Nat} (h : pts R.length 0 j ≤ w) (hw : w < 4) : ((grpR R j).r w).Z := by
 rw [grpR_r hw, recAt_big (by unfold pts un at h; omega)]
 exact RecT.z_iff.2 rfl
def GrpsOf (R : List RecT) (T : List NodT) : Prop := ∀ j, j < un R.length 1 → ndAt T j = grpR R j
theorem GrpsOf.grps {R : List RecT} {T : List NodT} (h : GrpsOf R T) : Grps R.length T := fun j hj => by
 rw [h j hj]
 exact ⟨rfl, fun w h1 h2 => grpR_Z h1 h2⟩
theorem GrpsOf.recs {R : List RecT} {T : List NodT} (h : GrpsOf R T) {i : Nat} (hi : i < R.length) : recT T i = recAt R i := by
 unfold recT
 have h1 : i / 4 < un R.length 1 := by have := div_lt_un hi 1; simpa using this
 rw [h _ h1, grpR_r (Nat.mod_lt _ (by decide))]
 congr 1; omega
theorem GrpsOf.em {R : List RecT} {T : List NodT} (h : GrpsOf R T) {l j : Nat} (hj : j < un R.length (l + 1)) : emT R.length T l j = emF R.length (recAt R) l j := by
 rw [emT_eq h.grps l hj]
 exact emF_congr (fun i hi => h.recs hi) l j
theorem tot_one (n : Nat) : tot n 1 = un n 1 := by rw [show (1 : Nat) = 0 + 1 from rfl, tot_succ]; simp [tot]
theorem treR_grps {R : List RecT} {S : List Nat} {m : Nat} (hm : tot R.length 1 ≤ m) : GrpsOf R (treR R S m) := fun j hj => by
 have h := treR_at (R := R) (S := S) (m := m) (l := 0) (j := j) (by decide) hj (by rw [tot_one] at hm; simp only [tot]; omega)
 simp only [tot, Nat.zero_add] at h
 exact h
theorem upT_eq {R : List RecT} {S : List Nat} {m l j : Nat} (hl : l < 5) (hm : m = tot R.length (l + 1)) : upT R.length (treR R S m) S l j = nodR R S (l + 1) j := by
 subst hm
 rw [nodR_succ]
 unfold upT
 have hp : ∀ w, w < pts R.length (l + 1) j → entT R.length (treR R S (tot R.length (l + 1))) S l (4 * j + w) = (if emF R.length (recAt R) l (4 * j + w) then EntT.zero else entR (S.getD (tot R.length l + (4 * j + w)) 0) (nodR R S l (4 * j + w))) := fun w h => by
  have hk := kid_ok h
  unfold entT
  rw [(treR_grps (S := S) (tot_mono (show 1 ≤ l + 1 by omega))).em hk, treR_at (by omega) hk (by rw [tot_succ]; omega)]
 congr 1
 unfold pg
 apply List.map_congr_left
 intro w hw
 split
 ·rename_i h
  exact hp w h
 ·rfl
def fstN (f : Nat → Int) : Nat → Int
 | 0 => 0
 | m + 1 => if fstN f m ≠ 0 then fstN f m else f m
theorem fstN_zero {f : Nat → Int} : ∀ {m : Nat}, fstN f m = 0 ↔ ∀ k, k < m → f k = 0
 | 0 => ⟨fun _ k h => absurd h (Nat.not_lt_zero _), fun _ => rfl⟩
 | m + 1 => by
  rw [fstN]
  have ih := fstN_zero (f := f) (m := m)
  constructor
  ·intro h k hk
   split at h
   ·rename_i h1; exact absurd h h1
   ·rename_i h1
    by_cases hm : k < m
    ·exact ih.1 (Classical.not_not.1 h1) k hm
    ·obtain rfl : k = m := by omega
     exact h
  ·intro h
   rw [if_neg (fun h1 => h1 (ih.2 fun k hk => h k (by omega)))]
   exact h m (by omega)
theorem fstN_ex {f : Nat → Int} : ∀ {m : Nat}, fstN f m ≠ 0 → ∃ i, i < m ∧ (∀ k, k < i → f k = 0) ∧ f i ≠ 0 ∧ fstN f m = f i
 | 0, h => absurd rfl h
 | m + 1, h => by
  by_cases hm : fstN f m = 0
  ·have h2 : fstN f (m + 1) = f m := by rw [fstN, if_neg (by simp [hm])]
   exact ⟨m, by omega, fstN_zero.1 hm, by rw [← h2]; exact h, h2⟩
  ·obtain ⟨i, h1, h3, h4, h5⟩ := fstN_ex hm
   exact ⟨i, by omega, h3, h4, by rw [fstN, if_pos hm, h5]⟩
noncomputable def fitA (n l j : Nat) (x : NodT) : Bool := decide (x.l.toNat = l ∧ x.j = j ∧ ftN n x = 0)
theorem fitA_iff {n l j : Nat} {x : NodT} : fitA n l j x = true ↔ x.l.toNat = l ∧ x.j = j ∧ ftN n x = 0 := by unfold fitA; rw [decide_eq_true_iff]
open Classical in
noncomputable def badK (n : Nat) (T : List NodT) (l k : Nat) (e : EntT) : Bool := decide ((¬ (decide e.Z = emT n T l k)) ∨ (¬ e.Z ∧ e.t ≠ sha (ndAt T (tot n l + k)).bl))
def badE (n : Nat) (T : List NodT) : Nat → Nat → NodT → Prop
 | 0, _, _ => False
 | l + 1, j, x => ∃ w, w < pts n (l + 1) j ∧ badK n T l (4 * j + w) (x.e w) = true
open Classical in
noncomputable def errA (n : Nat) (T : List NodT) (l j : Nat) : Int := if fitA n l j (ndAt T (tot n l + j)) = false then 17 else if badE n T l j (ndAt T (tot n l + j)) then 9 else 0
noncomputable def errI (n : Nat) (T : List NodT) (i : Nat) : Int := errA n T (lev n i) (idx n i)
theorem errI_at {n : Nat} {T : List NodT} {l j : Nat} (hl : l ≤ 5) (hj : j < un n (l + 1)) : errI n T (tot n l + j) = errA n T l j := by unfold errI; rw [lev_at hl hj, idx_at hl hj]
noncomputable def chkT (n : Int) (T : List NodT) : Int := if ¬ (1 ≤ n ∧ n ≤ 4096) then 1 else if T.length ≠ tot n.toNat (hg n.toNat + 1) then 1 else fstN (errI n.toNat T) (tot n.toNat (hg n.toNat + 1))
theorem chk_bad {n : Int} {T : List NodT} (h : ¬ (1 ≤ n ∧ n ≤ 4096)) : chkT n T = 1 := if_pos h
theorem chk_len {n : Nat} {T : List NodT} (h1 : 1 ≤ n) (h2 : n ≤ 4096) (h : T.length ≠ tot n (hg n + 1)) : chkT n T = 1 := by unfold chkT; rw [if_neg (by omega), Int.toNat_natCast, if_pos h]
theorem chk_ok {n : Nat} {T : List NodT} (h1 : 1 ≤ n) (h2 : n ≤ 4096) (h : T.length = tot n (hg n + 1)) : chkT n T = fstN (errI n T) (tot n (hg n + 1)) := by unfold chkT; rw [if_neg (by omega), Int.toNat_natCast, if_neg (by simp [h])]
structure Tree (n : Nat) (T : List NodT) : Prop where
 h1 : 1 ≤ n
 h2 : n ≤ 4096
 len : T.length = tot n (hg n + 1)
 ok : ∀ l j, l ≤ hg n → j < un n (l + 1) → errA n T l j = 0
theorem Tree.chkT {n : Nat} {T : List NodT} (h : Tree n T) : chkT n T = 0 := by
 rw [chk_ok h.h1 h.h2 h.len]
 refine fstN_zero.2 fun i hi => ?_
 obtain ⟨a, b, _⟩ := lev_ok hi
 exact h.ok _ _ a b
theorem errA_fit {n : Nat} {T : List NodT} {l j : Nat} (h : errA n T l j = 0) : (ndAt T (tot n l + j)).l.toNat = l ∧ (ndAt T (tot n l + j)).j = j ∧ ftN n (ndAt T (tot n l + j)) = 0 := by
 unfold errA at h
 split at h
 ·cases h
 ·rename_i h1; exact fitA_iff.1 (by simpa using h1)
theorem errA_no {n : Nat} {T : List NodT} {l j : Nat} (h : errA n T l j = 0) : ¬ badE n T l j (ndAt T (tot n l + j)) := by
 unfold errA at h
 split at h
 ·cases h
 ·split at h
  ·cases h
  ·assumption
theorem ft_zero {n : Nat} {x : NodT} (h1 : 1 ≤ n) (h2 : n ≤ 4096) (h : ftN n x = 0) : x.ck = 0 ∧ IsP n x.l.toNat x.j ∧ ∀ i, pts n x.l.toNat x.j ≤ i → i < 4 → (x.r i).Z ∧ (x.e i).Z := by
 unfold ftN at h
 rw [if_neg (by omega)] at h
 split at h
 ·rename_i hk; exact absurd h hk
 ·rename_i hk
  rw [Int.toNat_natCast] at h
  split at h
  ·cases h
  ·rename_i hp
   split at h
   ·rename_i hz; exact ⟨Classical.not_not.1 hk, Classical.not_not.1 hp, hz⟩
   ·cases h
theorem Tree.fit {n : Nat} {T : List NodT} (h : Tree n T) {l j : Nat} (hl : l ≤ hg n) (hj : j < un n (l + 1)) : (ndAt T (tot n l + j)).l.toNat = l ∧ (ndAt T (tot n l + j)).j = j ∧ (ndAt T (tot n l + j)).ck = 0 ∧ ∀ i, pts n l j ≤ i → i < 4 → ((ndAt T (tot n l + j)).r i).Z ∧ ((ndAt T (tot n l + j)).e i).Z := by
 obtain ⟨h3, h4, h5⟩ := errA_fit (h.ok l j hl hj)
 obtain ⟨h6, _, h7⟩ := ft_zero h.h1 h.h2 h5
 exact ⟨h3, h4, h6, by rw [h3, h4] at h7; exact h7⟩
theorem tot_zero (n : Nat) : tot n 0 = 0 := rfl
theorem Tree.grps {n : Nat} {T : List NodT} (h : Tree n T) : Grps n T := fun j hj => by
 obtain ⟨h3, _, _, h7⟩ := h.fit (l := 0) (j := j) (Nat.zero_le _) hj
 rw [tot_zero, Nat.zero_add] at h3 h7
 exact ⟨h3, fun w h1 h2 => (h7 w h1 h2).1⟩
theorem Tree.ent {n : Nat} {T : List NodT} (h : Tree n T) {l j w : Nat} (hl : l + 1 ≤ hg n) (hj : j < un n (l + 2)) (hw : w < pts n (l + 1) j) : (((ndAt T (tot n (l + 1) + j)).e w).Z ↔ emT n T l (4 * j + w) = true) ∧ (¬ ((ndAt T (tot n (l + 1) + j)).e w).Z → ((ndAt T (tot n (l + 1) + j)).e w).t = sha (ndAt T (tot n l + (4 * j + w))).bl) := by
 have hb := errA_no (h.ok (l + 1) j hl hj)
 have hk : ¬ badK n T l (4 * j + w) ((ndAt T (tot n (l + 1) + j)).e w) = true := fun hk => hb ⟨w, hw, hk⟩
 unfold badK at hk
 rw [decide_eq_true_iff, not_or, Classical.not_not, not_and, Classical.not_not] at hk
 exact ⟨by rw [← hk.1, decide_eq_true_iff], hk.2⟩
end
section
theorem beK_inj {k a b : Nat} (ha : a < 256 ^ k) (hb : b < 256 ^ k) (h : be k a = be k b) : a = b := by
 have := congrArg num h
 rwa [num_be, num_be, Nat.mod_eq_of_lt ha, Nat.mod_eq_of_lt hb] at this
theorem RecT.l_inj {r q : RecT} (hr : r.Fit) (hq : q.Fit) (h : r.l = q.l) : r = q := by
 obtain ⟨x, s, c, t⟩ := r
 obtain ⟨x', s', c', t'⟩ := q
 unfold RecT.l recL at h
 dsimp only at h
 injection h with h1 h
 unfold nonceL at h
 obtain ⟨h2, h3⟩ := List.append_inj h (by simp [be_length])
 obtain ⟨h4, h5⟩ := List.append_inj h2 (by simp [be_length])
 rw [h1, beK_inj hr.s hq.s h4, beK_inj hr.c hq.c h5, h3]
theorem EntT.l_inj {r q : EntT} (h : r.l = q.l) : r = q := by
 obtain ⟨x, t⟩ := r
 obtain ⟨x', t'⟩ := q
 unfold EntT.l entL at h
 dsimp only at h
 injection h with h1 h2
 rw [h1, h2]
theorem flat_injL {α β : Type} {v : α → List β} {k : Nat} {F : α → Prop} (hv : ∀ a b, F a → F b → v a = v b → a = b) : ∀ {L L' : List α}, (∀ a ∈ L, F a ∧ (v a).length = k) → (∀ a ∈ L', F a ∧ (v a).length = k) → L.length = L'.length → L.flatMap v = L'.flatMap v → L = L'
 | [], [], _, _, _, _ => rfl
 | [], _ :: _, _, _, hl, _ => by simp at hl
 | _ :: _, [], _, _, hl, _ => by simp at hl
 | a :: L, b :: L', h, h', hl, he => by
  simp only [List.flatMap_cons] at he
  have ha := h a List.mem_cons_self
  have hb := h' b List.mem_cons_self
  obtain ⟨h1, h2⟩ := List.append_inj he (by rw [ha.2, hb.2])
  rw [hv a b ha.1 hb.1 h1, flat_injL hv (fun x hx => h x (List.mem_cons_of_mem _ hx)) (fun x hx => h' x (List.mem_cons_of_mem _ hx)) (by simpa using hl) h2]
theorem nod_inj {x y : NodT} (hx : x.Fit) (hy : y.Fit) (hkx : x.ck = 0) (hky : y.ck = 0) (h : x.bl = y.bl) : x = y := by
 obtain ⟨a1, a2, a3⟩ := NodT.ck_ok hkx
 obtain ⟨b1, b2, b3⟩ := NodT.ck_ok hky
 have hxr := fun h0 => rest_zero (fun _ h => RecT.z_iff.1 h) hx.lr (a3 h0).1
 have hyr := fun h0 => rest_zero (fun _ h => RecT.z_iff.1 h) hy.lr (b3 h0).1
 have hxe := fun h0 => rest_zero (fun _ h => EntT.z_iff.1 h) hx.le (a2 h0).1
 have hye := fun h0 => rest_zero (fun _ h => EntT.z_iff.1 h) hy.le (b2 h0).1
 have lx := RecT.lensL hx.fr
 have ly := RecT.lensL hy.fr
 have mx := EntT.lensL hx.fe
 have my := EntT.lensL hy.fe
 have fx := hx.fr
 have fy := hy.fr
 have jx := hx.j
 have jy := hy.j
 have r1 := hx.lr
 have r2 := hy.lr
 have e1 := hx.le
 have e2 := hy.le
 obtain ⟨l, j, R, E⟩ := x
 obtain ⟨l', j', R', E'⟩ := y
 unfold NodT.bl at h
 dsimp only at h hxr hyr hxe hye lx ly mx my jx jy fx fy r1 r2 e1 e2
 injection h with h1 h
 subst h1
 obtain ⟨h2, h3⟩ := List.append_inj h (by simp [be_length])
 have hj : j = j' := beK_inj (k := 4) jx jy h2
 subst hj
 by_cases h0 : l.toNat = 0
 ·rw [if_pos h0, if_pos h0] at h3
  rw [hxe h0, hye h0, flat_injL (F := RecT.Fit) (fun a b ha hb => RecT.l_inj ha hb) (fun a ha => ⟨fx a ha, lx a ha⟩) (fun a ha => ⟨fy a ha, ly a ha⟩) (by omega) h3]
 ·rw [if_neg h0, if_neg h0] at h3
  rw [hxr h0, hyr h0, flat_injL (F := fun _ => True) (fun a b _ _ => EntT.l_inj) (fun a ha => ⟨trivial, mx a ha⟩) (fun a ha => ⟨trivial, my a ha⟩) (by omega) h3]
def OkR (R : List RecT) : Prop := ∀ r ∈ R, ¬ r.Bad
theorem OkR.at {R : List RecT} (h : OkR R) (i : Nat) : ¬ (recAt R i).Bad := by
 unfold recAt
 rw [List.getD_eq_getElem?_getD]
 cases hi : R[i]? with
 | none => exact RecT.zero_ok
 | some x => exact h x (List.mem_of_getElem? hi)
def OkS (S : List Nat) : Prop := ∀ s ∈ S, s = 0 ∨ s = 1
theorem OkS.at {S : List Nat} (h : OkS S) (i : Nat) : S.getD i 0 ≤ 1 := by
 rw [List.getD_eq_getElem?_getD]
 cases hi : S[i]? with
 | none => exact Nat.zero_le _
 | some x => rcases h x (List.mem_of_getElem? hi) with rfl | rfl <;> decide
theorem ze_e (i : Nat) : zerosE.getD i EntT.zero = EntT.zero := by
 unfold zerosE
 rw [List.getD_eq_getElem?_getD, List.getElem?_replicate]; split <;> rfl
theorem zr_r (i : Nat) : zerosR.getD i RecT.zero = RecT.zero := by
 unfold zerosR
 rw [List.getD_eq_getElem?_getD, List.getElem?_replicate]; split <;> rfl
theorem entR_ok {s : Nat} (h : s ≤ 1) (x : NodT) : ¬ (entR s x).Bad ∧ ¬ (entR s x).Z := by
 have h1 : (UInt8.ofNat (s + 1)).toNat = s + 1 := sm8 (by omega)
 unfold EntT.Bad BadE EntT.Z entR
 dsimp only
 rw [h1]
 exact ⟨by omega, by omega⟩
theorem EntT.zZ : EntT.zero.Z := EntT.z_iff.2 rfl
theorem RecT.zZ : RecT.zero.Z := RecT.z_iff.2 rfl
theorem nodR_E {R : List RecT} {S : List Nat} (hS : OkS S) {l j w : Nat} (hw : w < 4) : ¬ ((nodR R S l j).e w).Bad := by
 cases l with
 | zero => rw [nodR_zero]; show ¬ (zerosE.getD w EntT.zero).Bad; rw [ze_e]; exact EntT.zero_ok
 | succ l =>
  rw [nodR_e hw]
  split
  ·split
   ·exact EntT.zero_ok
   ·exact (entR_ok (hS.at _) _).1
  ·exact EntT.zero_ok
theorem nodR_ck {R : List RecT} {S : List Nat} (hR : OkR R) (hS : OkS S) {l j : Nat} (hl : l ≤ 5) : (nodR R S l j).ck = 0 := by
 by_cases h0 : l = 0
 ·subst h0
  rw [nodR_zero]
  refine NodT.ok_R rfl (fun i hi => ?_) fun i hi => ?_
  ·show (zerosE.getD i EntT.zero).Z; rw [ze_e]; exact EntT.zZ
  ·rw [grpR_r hi]; exact hR.at _
 ·refine NodT.ok_E (by rw [nodR_l hl]; omega) (by rw [nodR_l hl]; exact h0) (fun i hi => ?_) fun i hi => nodR_E hS hi
  cases l with
  | zero => exact absurd rfl h0
  | succ l => rw [nodR_succ]; show (zerosR.getD i RecT.zero).Z; rw [zr_r]; exact RecT.zZ
theorem nodR_ft {R : List RecT} {S : List Nat} (hR : OkR R) (hS : OkS S) (h1 : 1 ≤ R.length) (h2 : R.length ≤ 4096) {l j : Nat} (hl : l ≤ hg R.length) (hj : j < un R.length (l + 1)) : ftN R.length (nodR R S l j) = 0 := by
 have hh := hg_le R.length
 have hl' := nodR_l (R := R) (S := S) (j := j) (show l ≤ 5 by omega)
 have hj' := nodR_j (R := R) (S := S) (l := l) (j := j)
 refine ft_ok h1 h2 (nodR_ck hR hS (by omega)) ?_ ?_
 ·rw [hl', hj']; exact isP_nat.2 ⟨hl, hj⟩
 ·rw [hl', hj']
  intro i hi h4
  cases l with
  | zero => rw [nodR_zero]; exact ⟨grpR_Z hi h4, by show (zerosE.getD i EntT.zero).Z; rw [ze_e]; exact EntT.zZ⟩
  | succ l =>
   refine ⟨by rw [nodR_succ]; show (zerosR.getD i RecT.zero).Z; rw [zr_r]; exact RecT.zZ, ?_⟩
   rw [nodR_e h4, if_neg (by omega)]; exact EntT.zZ
theorem treR_tree {R : List RecT} {S : List Nat} (hR : OkR R) (hS : OkS S) (h1 : 1 ≤ R.length) (h2 : R.length ≤ 4096) : Tree R.length (treR R S (tot R.length (hg R.length + 1))) where
 h1 := h1
 h2 := h2
 len := treR_length _ _ _
 ok := fun l j hl hj => by
  have hh := hg_le R.length
  unfold errA
  rw [treR_at (by omega) hj (numP_lt hl hj)]
  rw [if_neg (by rw [fitA_iff.2 ⟨nodR_l (by omega), nodR_j, nodR_ft hR hS h1 h2 hl hj⟩]; decide)]
  rw [if_neg]
  cases l with
  | zero => exact fun h => h
  | succ l =>
   rintro ⟨w, hw, hb⟩
   have hk := kid_ok hw
   have h4 := pts_le R.length (l + 1) j
   have hc := treR_at (S := S) (show l ≤ 5 by omega) hk (numP_lt (by omega) hk)
   unfold badK at hb
   rw [decide_eq_true_iff, (treR_grps (tot_mono (by omega))).em hk, nodR_e (by omega), if_pos hw, hc] at hb
   cases he : emF R.length (recAt R) l (4 * j + w) with
   | true =>
    rw [he] at hb
    simp only [if_true] at hb
    rcases hb with hb | hb
    ·exact hb (decide_eq_true_iff.2 EntT.zZ)
    ·exact hb.1 EntT.zZ
   | false =>
    rw [he] at hb
    simp only [Bool.false_eq_true, if_false] at hb
    have hz := (entR_ok (hS.at (tot R.length l + (4 * j + w))) (nodR R S l (4 * j + w))).2
    rcases hb with hb | hb
    ·exact hb (decide_eq_false hz)
    ·exact hb.2 rfl
def pidx (n x i : Nat) : Nat := x / 4 ^ (hg n - i + 1)
def wch (n x i : Nat) : Nat := pidx n x (i + 1) % 4
theorem pidx_step {n x i : Nat} (hi : i < hg n) : pidx n x (i + 1) / 4 = pidx n x i := by
 unfold pidx
 rw [show hg n - i + 1 = hg n - (i + 1) + 2 from by omega, div_pow]
theorem pidx_lt {n x : Nat} (hx : x < n) (i : Nat) : pidx n x i < un n (hg n - i + 1) := div_lt_un hx _
theorem pidx_4 {n x i : Nat} (hi : i < hg n) : 4 * pidx n x i + wch n x i = pidx n x (i + 1) := by rw [← pidx_step hi]; unfold wch; omega
theorem pidx_root {n x : Nat} (h1 : 1 ≤ n) (h2 : n ≤ 4096) (hx : x < n) : pidx n x 0 = 0 := by
 have := pidx_lt hx 0
 rw [Nat.sub_zero, un_root h1 h2] at this
 omega
theorem wch_pts {n x i : Nat} (hx : x < n) (hi : i < hg n) : wch n x i < pts n (hg n - i) (pidx n x i) := by
 have h := pidx_lt hx (i + 1)
 rw [show hg n - i = (hg n - (i + 1)) + 1 from by omega]
 exact kid_pts (Nat.mod_lt _ (by decide)) (by rw [pidx_4 hi]; exact h)
noncomputable def wantV (n : Nat) (d : List UInt8) (x : Nat) (T : List NodT) : Nat → List UInt8
 | 0 => d
 | i + 1 => ((ndAt T i).e (wch n x i)).t
open Classical in
noncomputable def verE (n : Nat) (d : List UInt8) (x : Nat) (T : List NodT) (i : Nat) : Int :=
 if fitA n (hg n - i) (pidx n x i) (ndAt T i) = false then 17 else if sha (ndAt T i).bl ≠ wantV n d x T i then 9
 else if i < hg n ∧ decide ((ndAt T i).e (wch n x i)).Z ≠ decide (i + 1 = T.length) then 9 else 0
noncomputable def ver (n : Int) (d : List UInt8) (x : Int) (T : List NodT) : Int :=
 if ¬ (1 ≤ n ∧ n ≤ 4096) then 1 else if ¬ (0 ≤ x ∧ x < n) then 1 else if T.length = 0 ∨ hg n.toNat + 1 < T.length then 1 else fstN (verE n.toNat d x.toNat T) T.length
noncomputable def verR (n : Int) (d : List UInt8) (x : Int) (T : List NodT) : RecT := if ver n d x T = 0 ∧ T.length = hg n.toNat + 1 then (ndAt T (hg n.toNat)).r (x.toNat % 4) else RecT.zero
theorem ver_bad {n x : Int} {d : List UInt8} {T : List NodT} (h : ¬ (1 ≤ n ∧ n ≤ 4096)) : ver n d x T = 1 := if_pos h
theorem ver_blk {n : Nat} {x : Int} {d : List UInt8} {T : List NodT} (h1 : 1 ≤ n) (h2 : n ≤ 4096) (h : ¬ (0 ≤ x ∧ x < n)) : ver n d x T = 1 := by unfold ver; rw [if_neg (by omega), if_pos h]
theorem ver_len {n x : Nat} {d : List UInt8} {T : List NodT} (h1 : 1 ≤ n) (h2 : n ≤ 4096) (hx : x < n) (h : T.length = 0 ∨ hg n + 1 < T.length) : ver n d x T = 1 := by unfold ver; rw [if_neg (by omega), if_neg (by omega), Int.toNat_natCast, if_pos h]
theorem ver_ok {n x : Nat} {d : List UInt8} {T : List NodT} (h1 : 1 ≤ n) (h2 : n ≤ 4096) (hx : x < n) (h : ¬ (T.length = 0 ∨ hg n + 1 < T.length)) : ver n d x T = fstN (verE n d x T) T.length := by unfold ver; rw [if_neg (by omega), if_neg (by omega), Int.toNat_natCast, Int.toNat_natCast, if_neg h]
theorem verR_no {n x : Int} {d : List UInt8} {T : List NodT} (h : ver n d x T ≠ 0) : verR n d x T = RecT.zero := if_neg fun hh => h hh.1
theorem verR_all {n x : Nat} {d : List UInt8} {T : List NodT} (h : ver n d x T = 0) (hl : T.length = hg n + 1) : verR n d x T = (ndAt T (hg n)).r (x % 4) := if_pos ⟨h, by simpa using hl⟩
theorem verR_part {n x : Nat} {d : List UInt8} {T : List NodT} (hl : T.length ≠ hg n + 1) : verR n d x T = RecT.zero := if_neg fun hh => hl (by simpa using hh.2)
theorem verE_17 {n x i : Nat} {d : List UInt8} {T : List NodT} (h : fitA n (hg n - i) (pidx n x i) (ndAt T i) = false) : verE n d x T i = 17 := if_pos h
theorem verE_9 {n x i : Nat} {d : List UInt8} {T : List NodT} (h : fitA n (hg n - i) (pidx n x i) (ndAt T i) = true) (h2 : sha (ndAt T i).bl ≠ wantV n d x T i) : verE n d x T i = 9 := by unfold verE; rw [if_neg (by simp [h]), if_pos h2]
theorem verE_9z {n x i : Nat} {d : List UInt8} {T : List NodT} (h : fitA n (hg n - i) (pidx n x i) (ndAt T i) = true) (h2 : sha (ndAt T i).bl = wantV n d x T i) (h3 : i < hg n) (h4 : decide ((ndAt T i).e (wch n x i)).Z ≠ decide (i + 1 = T.length)) : verE n d x T i = 9 := by unfold verE; rw [if_neg (by simp [h]), if_neg (by simp [h2]), if_pos ⟨h3, h4⟩]
theorem verE_0 {n x i : Nat} {d : List UInt8} {T : List NodT} (h : fitA n (hg n - i) (pidx n x i) (ndAt T i) = true) (h2 : sha (ndAt T i).bl = wantV n d x T i) (h3 : i < hg n → decide ((ndAt T i).e (wch n x i)).Z = decide (i + 1 = T.length)) : verE n d x T i = 0 := by
 unfold verE
 rw [if_neg (by simp [h]), if_neg (by simp [h2]), if_neg fun hh => hh.2 (h3 hh.1)]
structure Prf (n : Nat) (d : List UInt8) (x : Nat) (T : List NodT) : Prop where
 h1 : 1 ≤ n
 h2 : n ≤ 4096
 hx : x < n
 l0 : T.length ≠ 0
 lh : T.length ≤ hg n + 1
 ok : ∀ i, i < T.length → verE n d x T i = 0
theorem Prf.ver {n x : Nat} {d : List UInt8} {T : List NodT} (h : Prf n d x T) : ver n d x T = 0 := by
 have h0 := h.l0
 have h1 := h.lh
 rw [ver_ok h.h1 h.h2 h.hx (by omega)]
 exact fstN_zero.2 h.ok
def runTo (p : Nat → Bool) : Nat → Nat → Nat
 | 0, a => a
 | f + 1, a => if p a then a else runTo p f (a + 1)
theorem runTo_spec (p : Nat → Bool) : ∀ (f a : Nat), a ≤ runTo p f a ∧ runTo p f a ≤ a + f ∧ (∀ i, a ≤ i → i < runTo p f a → p i = false) ∧ (runTo p f a < a + f → p (runTo p f a) = true)
 | 0, a => ⟨Nat.le_refl _, Nat.le_refl _, fun i h1 h2 => absurd h2 (by simp [runTo]; omega), fun h => absurd h (by simp [runTo])⟩
 | f + 1, a => by
  unfold runTo
  split
  ·rename_i h
   exact ⟨Nat.le_refl _, by omega, fun i h1 h2 => absurd h2 (by omega), fun _ => h⟩
  ·rename_i h
   obtain ⟨h1, h2, h3, h4⟩ := runTo_spec p f (a + 1)
   refine ⟨by omega, by omega, fun i h5 h6 => ?_, fun h5 => h4 (by omega)⟩
   by_cases hi : i = a
   ·subst hi; simpa using h
   ·exact h3 i (by omega) h6
theorem runTo_eq {p : Nat → Bool} {f a m : Nat} (h1 : a ≤ m) (h2 : m ≤ a + f) (h3 : ∀ i, a ≤ i → i < m → p i = false) (h4 : m < a + f → p m = true) : runTo p f a = m := by
 obtain ⟨g1, g2, g3, g4⟩ := runTo_spec p f a
 rcases Nat.lt_trichotomy (runTo p f a) m with h | h | h
 ·have := h3 _ g1 h
  rw [g4 (by omega)] at this; cases this
 ·exact h
 ·have := g3 m h1 h
  rw [h4 (by omega)] at this; cases this
def mny (n : Nat) (T : List NodT) (x : Nat) : Nat := runTo (fun i => emT n T (hg n - i) (pidx n x i)) (hg n) 1
def pthT (n : Nat) (T : List NodT) (x m : Nat) : List NodT := (List.range m).map fun i => ndAt T (tot n (hg n - i) + pidx n x i)
theorem pthT_length (n : Nat) (T : List NodT) (x m : Nat) : (pthT n T x m).length = m := by simp [pthT]
theorem pthT_at {n : Nat} {T : List NodT} {x m i : Nat} (h : i < m) : ndAt (pthT n T x m) i = ndAt T (tot n (hg n - i) + pidx n x i) := by
 unfold pthT
 conv => lhs; unfold ndAt
 rw [List.getD_eq_getElem?_getD, List.getElem?_map, List.getElem?_range h]; rfl
theorem pthT_step (n : Nat) (T : List NodT) (x m : Nat) : pthT n T x m ++ [ndAt T (tot n (hg n - m) + pidx n x m)] = pthT n T x (m + 1) := by
 unfold pthT; rw [List.range_succ, List.map_append, List.map_singleton]
theorem pthT_fit {n : Nat} {T : List NodT} (hT : FitT T) (x m : Nat) : FitT (pthT n T x m) := fun y hy => by
 obtain ⟨i, _, rfl⟩ := List.mem_map.1 hy
 exact hT.at _
theorem mny_le (n : Nat) (T : List NodT) (x : Nat) : 1 ≤ mny n T x ∧ mny n T x ≤ hg n + 1 := by
 obtain ⟨h1, h2, _⟩ := runTo_spec (fun i => emT n T (hg n - i) (pidx n x i)) (hg n) 1
 exact ⟨h1, by unfold mny; omega⟩
theorem Tree.prf {n : Nat} {T : List NodT} (h : Tree n T) {x : Nat} (hx : x < n) : Prf n (sha (ndAt T (tot n (hg n))).bl) x (pthT n T x (mny n T x)) := by
 obtain ⟨m1, m2⟩ := mny_le n T x
 obtain ⟨r1, r2, r3, r4⟩ := runTo_spec (fun i => emT n T (hg n - i) (pidx n x i)) (hg n) 1
 have hh := hg_le n
 refine ⟨h.h1, h.h2, hx, by rw [pthT_length]; omega, by rw [pthT_length]; omega, fun i hi => ?_⟩
 rw [pthT_length] at hi
 obtain ⟨f1, f2, f3, f4⟩ := h.fit (Nat.sub_le (hg n) i) (pidx_lt hx i)
 have hft := (errA_fit (h.ok _ _ (Nat.sub_le (hg n) i) (pidx_lt hx i))).2.2
 -- the entry that leads to the next place
 have hent : ∀ k, k < hg n → (((ndAt T (tot n (hg n - k) + pidx n x k)).e (wch n x k)).Z ↔ emT n T (hg n - (k + 1)) (pidx n x (k + 1)) = true) ∧ (¬ ((ndAt T (tot n (hg n - k) + pidx n x k)).e (wch n x k)).Z → ((ndAt T (tot n (hg n - k) + pidx n x k)).e (wch n x k)).t = sha (ndAt T (tot n (hg n - (k + 1)) + pidx n x (k + 1))).bl) := fun k hk => by
  have e1 : hg n - k = (hg n - (k + 1)) + 1 := by omega
  have hw := wch_pts hx hk
  have hj := pidx_lt hx k
  rw [e1] at hw hj ⊢
  have := h.ent (by omega) hj hw
  rw [pidx_4 hk] at this
  exact this
 refine verE_0 (by rw [pthT_at hi]; exact fitA_iff.2 ⟨f1, f2, hft⟩) ?_ ?_
 ·rw [pthT_at hi]
  cases i with
  | zero => show _ = sha _; rw [Nat.sub_zero, pidx_root h.h1 h.h2 hx, Nat.add_zero]
  | succ i =>
   show _ = ((ndAt (pthT n T x (mny n T x)) i).e _).t
   rw [pthT_at (by omega)]
   have hne := r3 (i + 1) (by omega) hi
   obtain ⟨g1, g2⟩ := hent i (by omega)
   exact (g2 fun hz => by rw [g1.1 hz] at hne; cases hne).symm
 ·intro hlt
  rw [pthT_at hi, pthT_length]
  obtain ⟨g1, _⟩ := hent i hlt
  rw [decide_eq_decide, g1]
  constructor
  ·intro he
   apply Classical.byContradiction
   intro hne
   have := r3 (i + 1) (by omega) (show i + 1 < mny n T x by omega)
   rw [he] at this; cases this
  ·intro he
   have hm : mny n T x = i + 1 := he.symm
   have := r4 (by unfold mny at hm; omega)
   unfold mny at hm
   rw [hm] at this; exact this
theorem Tree.prf_rec {n : Nat} {T : List NodT} (h : Tree n T) {x : Nat} (hx : x < n) (hz : ∀ i, i < n → (recT T i).x.toNat = 0 → (recT T i) = RecT.zero) : verR n (sha (ndAt T (tot n (hg n))).bl) x (pthT n T x (mny n T x)) = recT T x := by
 have hp := h.prf hx
 obtain ⟨m1, m2⟩ := mny_le n T x
 by_cases hl : mny n T x = hg n + 1
 ·rw [verR_all hp.ver (by rw [pthT_length]; exact hl), pthT_at (by omega), Nat.sub_self, tot_zero, Nat.zero_add]
  unfold pidx recT
  rw [Nat.sub_self]
 ·rw [verR_part (by rw [pthT_length]; exact hl)]
  obtain ⟨r1, r2, r3, r4⟩ := runTo_spec (fun i => emT n T (hg n - i) (pidx n x i)) (hg n) 1
  have he := r4 (by unfold mny at hl m2; omega)
  rw [emT_eq h.grps _ (pidx_lt hx _), emF_iff] at he
  exact (hz x hx (he x hx rfl)).symm
theorem Tree.empty {n : Nat} {T : List NodT} (h : Tree n T) (hT : FitT T) {l j : Nat} (hl : l ≤ hg n) (hj : j < un n (l + 1)) (he : emT n T l j = true) : ndAt T (tot n l + j) = NodT.emp (UInt8.ofNat l) j := by
 have hh := hg_le n
 obtain ⟨f1, f2, f3, f4⟩ := h.fit hl hj
 have hx := hT.at (tot n l + j)
 obtain ⟨c1, c2, c3⟩ := NodT.ck_ok f3
 have hl8 : (ndAt T (tot n l + j)).l = UInt8.ofNat l := UInt8.toNat_inj.1 (by rw [f1, sm8 (by omega)])
 have hR : (ndAt T (tot n l + j)).R = zerosR := rest_zero (fun _ h => RecT.z_iff.1 h) hx.lr fun i hi => by
  by_cases h0 : l = 0
  ·subst h0
   by_cases hp : i < pts n 0 j
   ·have hb := (c2 f1).2 i hi
    unfold emT at he
    rw [decide_eq_true_iff] at he
    rw [tot_zero, Nat.zero_add] at hb f1 ⊢
    unfold usN at he
    rw [cnt_zero] at he
    have := he i hi
    rw [if_pos f1] at this
    have h00 : ((ndAt T j).r i).x.toNat = 0 := by simpa using this
    unfold RecT.Bad BadR at hb
    have hb2 : ¬ (((ndAt T j).r i).x.toNat = 0 ∧ ¬ (((ndAt T j).r i).s = 0 ∧ ((ndAt T j).r i).c = 0 ∧ ((ndAt T j).r i).t = zD)) := fun hh => hb (.inr hh)
    exact ⟨h00, Classical.byContradiction fun hh => hb2 ⟨h00, hh⟩⟩
   ·exact (f4 i (by omega) hi).1
  ·exact (c3 (by rw [f1]; exact h0)).1 i hi
 have hE : (ndAt T (tot n l + j)).E = zerosE := rest_zero (fun _ h => EntT.z_iff.1 h) hx.le fun i hi => by
  by_cases h0 : l = 0
  ·subst h0; exact (c2 f1).1 i hi
  ·by_cases hp : i < pts n l j
   ·obtain ⟨l, rfl⟩ : ∃ k, l = k + 1 := ⟨l - 1, by omega⟩
    unfold emT at he
    rw [decide_eq_true_iff] at he
    exact (h.ent hl hj hp).1.2 (he i hp)
   ·exact (f4 i (by omega) hi).2
 unfold NodT.emp
 cases hn : ndAt T (tot n l + j) with
 | mk a b c d => rw [hn] at hl8 f2 hR hE; dsimp only at hl8 f2 hR hE; subst hl8; subst f2; subst hR; subst hE; rfl
end
section
def lvlT (n : Nat) (T : List NodT) (l k : Nat) : List NodT := (List.range k).map fun j => ndAt T (tot n l + j)
theorem lvlT_length (n : Nat) (T : List NodT) (l k : Nat) : (lvlT n T l k).length = k := by simp [lvlT]
theorem lvlT_at {n : Nat} {T : List NodT} {l k j : Nat} (h : j < k) : ndAt (lvlT n T l k) j = ndAt T (tot n l + j) := by
 unfold lvlT
 conv => lhs; unfold ndAt
 rw [List.getD_eq_getElem?_getD, List.getElem?_map, List.getElem?_range h]; rfl
theorem lvlT_step (n : Nat) (T : List NodT) (l k : Nat) : lvlT n T l k ++ [ndAt T (tot n l + k)] = lvlT n T l (k + 1) := by
 unfold lvlT; rw [List.range_succ, List.map_append, List.map_singleton]
def dwn (n : Nat) (T : List NodT) : Nat → List NodT
 | 0 => []
 | m + 1 => lvlT n T m (un n (m + 1)) ++ dwn n T m
theorem dwn_length (n : Nat) (T : List NodT) : ∀ m, (dwn n T m).length = tot n m
 | 0 => rfl
 | m + 1 => by
  show (lvlT n T m (un n (m + 1)) ++ dwn n T m).length = tot n m + un n (m + 1)
  rw [List.length_append, lvlT_length, dwn_length n T m, Nat.add_comm]
theorem dwn_fit {n : Nat} {T : List NodT} (h : FitT T) : ∀ m, FitT (dwn n T m)
 | 0 => FitT.nil
 | m + 1 => FitT.app (fun x hx => by
   obtain ⟨j, _, rfl⟩ := List.mem_map.1 hx
   exact h.at _) (dwn_fit h m)
theorem dwn_at {n : Nat} {T : List NodT} {l j : Nat} (hj : j < un n (l + 1)) : ∀ {m : Nat}, l < m → ndAt (dwn n T m) (tot n m - tot n (l + 1) + j) = ndAt T (tot n l + j)
 | 0, h => absurd h (Nat.not_lt_zero _)
 | m + 1, h => by
  show ndAt (lvlT n T m (un n (m + 1)) ++ dwn n T m) _ = _
  by_cases hl : l = m
  ·subst hl
   rw [Nat.sub_self, Nat.zero_add, ndAt_app (by rw [lvlT_length]; exact hj), lvlT_at hj]
  ·have hmono := tot_mono (n := n) (show l + 1 ≤ m by omega)
   have := ndAt_app2 (T := lvlT n T m (un n (m + 1))) (U := dwn n T m) (i := tot n m - tot n (l + 1) + j)
   rw [lvlT_length] at this
   rw [show tot n (m + 1) - tot n (l + 1) + j = un n (m + 1) + (tot n m - tot n (l + 1) + j) from by rw [tot_succ]; omega, this]
   exact dwn_at hj (by omega)
theorem dwn_ex {n : Nat} : ∀ {m i : Nat}, i < tot n m → ∃ l j, l < m ∧ j < un n (l + 1) ∧ i = tot n m - tot n (l + 1) + j
 | 0, _, h => absurd h (Nat.not_lt_zero _)
 | m + 1, i, h => by
  have e : tot n (m + 1) = tot n m + un n (m + 1) := tot_succ n m
  by_cases hm : i < un n (m + 1)
  ·exact ⟨m, i, by omega, hm, by omega⟩
  ·have h' : i - un n (m + 1) < tot n m := by omega
   obtain ⟨l, j, h1, h2, h3⟩ := dwn_ex h'
   have hmono := tot_mono (n := n) (show l + 1 ≤ m by omega)
   exact ⟨l, j, by omega, h2, by omega⟩
theorem Tree.same {n : Nat} {T U : List NodT} (h : Tree n T) (h' : Tree n U) (hT : FitT T) (hU : FitT U) (hr : sha (ndAt T (tot n (hg n))).bl = sha (ndAt U (tot n (hg n))).bl) {l j : Nat} (hl : l ≤ hg n) (hj : j < un n (l + 1)) (hp : l < hg n → ndAt T (tot n (l + 1) + j / 4) = ndAt U (tot n (l + 1) + j / 4)) :
  sha (ndAt T (tot n l + j)).bl = sha (ndAt U (tot n l + j)).bl := by
 by_cases h0 : l = hg n
 ·subst h0
  rw [un_root h.h1 h.h2] at hj
  obtain rfl : j = 0 := by omega
  exact hr
 ·have hp := hp (by omega)
  have hj2 : j / 4 < un n (l + 2) := by rw [un_succ]; omega
  have hw : j % 4 < pts n (l + 1) (j / 4) := kid_pts (Nat.mod_lt _ (by decide)) (by omega)
  have e1 := h.ent (by omega) hj2 hw
  have e2 := h'.ent (by omega) hj2 hw
  rw [show 4 * (j / 4) + j % 4 = j from by omega] at e1 e2
  rw [← hp] at e2
  by_cases hz : ((ndAt T (tot n (l + 1) + j / 4)).e (j % 4)).Z
  ·rw [h.empty hT hl hj (e1.1.1 hz), h'.empty hU hl hj (e2.1.1 hz)]
  ·rw [← e1.2 hz, ← e2.2 hz]
theorem Tree.coll {n : Nat} {T U : List NodT} (h : Tree n T) (h' : Tree n U) (hT : FitT T) (hU : FitT U) (hr : sha (ndAt T (tot n (hg n))).bl = sha (ndAt U (tot n (hg n))).bl) {i : Nat} (hi : i < tot n (hg n + 1)) (he : ∀ k, k < i → ndAt (dwn n T (hg n + 1)) k = ndAt (dwn n U (hg n + 1)) k) :
  sha (ndAt (dwn n T (hg n + 1)) i).bl = sha (ndAt (dwn n U (hg n + 1)) i).bl := by
 obtain ⟨l, j, h1, h2, rfl⟩ := dwn_ex hi
 rw [dwn_at h2 h1, dwn_at h2 h1]
 refine h.same h' hT hU hr (by omega) h2 fun hlt => ?_
 have hj2 : j / 4 < un n (l + 2) := by have h2' := h2; rw [un_succ n (l + 1)]; omega
 have m1 := tot_mono (n := n) (show l + 2 ≤ hg n + 1 by omega)
 have m2 := tot_succ n (l + 1)
 have := he (tot n (hg n + 1) - tot n (l + 2) + j / 4) (by have : tot n (l + 2) = tot n (l + 1) + un n (l + 2) := m2; omega)
 rwa [dwn_at hj2 (by omega), dwn_at hj2 (by omega)] at this
theorem dwn_eq {n : Nat} {T U : List NodT} {m : Nat} (hT : T.length = tot n m) (hU : U.length = tot n m) (h : ∀ i, i < tot n m → ndAt (dwn n T m) i = ndAt (dwn n U m) i) : T = U := by
 refine ndAt_ext (by omega) fun i hi => ?_
 obtain ⟨l, j, h1, h2, rfl⟩ := num_ex (m := m) (show i < tot n m by omega)
 have m1 := tot_mono (n := n) (show l + 1 ≤ m by omega)
 have m2 := tot_succ n l
 have := h (tot n m - tot n (l + 1) + j) (by omega)
 rwa [dwn_at h2 h1, dwn_at h2 h1] at this
theorem Tree.dwn_ck {n : Nat} {T : List NodT} (h : Tree n T) {i : Nat} (hi : i < tot n (hg n + 1)) : (ndAt (dwn n T (hg n + 1)) i).ck = 0 := by
 obtain ⟨l, j, h1, h2, rfl⟩ := dwn_ex hi
 rw [dwn_at h2 h1]
 exact (h.fit (by omega) h2).2.2.1
end
section
variable {κ : Cx}
section
variable {P : Program} {n : Nat} {w₀ : World} {ops : Array Oper} {E : Env} {ty : TypeId} {pos : String} {after : Array Edge}
def DoneE (N : Nat) (ok : Nat → Bool) (J Jx : Nat → World → Prop) (W : World) : Prop := ((∀ k, k < N → ok k = true) ∧ J N W) ∨ ∃ i, i < N ∧ (∀ k, k < i → ok k = true) ∧ ok i = false ∧ Jx i W
def nextE (ok : Nat → Bool) (J Jx : Nat → World → Prop) (i : Nat) (W : World) : Prop := (ok i = true → J (i + 1) W) ∧ (ok i = false → Jx i W)
theorem look_appE {t : Nat} {e : D} : ∀ {V E : Env}, Env.look (V ++ E) t = some e → (t, e) ∈ V ∨ Env.look E t = some e
 | [], _, h => .inr h
 | (s, d) :: V, E, h => by
  by_cases hs : s = t
  ·subst hs
   rw [List.cons_append, look_here] at h; injection h with h; subst h
   exact .inl List.mem_cons_self
  ·rw [List.cons_append, look_past _ _ hs] at h
   exact (look_appE h).imp (List.mem_cons_of_mem _) id
def RoundE (w₀ : World) (b : Bool) (V Vx : Env) : Exit → Act → World → Prop
 | .normal, _, w => b = true ∧ Holds w₀ V w
 | .ret, _, w => b = false ∧ Holds w₀ Vx w
 | _, _, _ => False
theorem Holds.ofSt {V : Env} {a : Act} {w : World} (hs : Sub V E) (hV : ∀ p ∈ V, vbase ≤ p.1) (hn : n ≤ vbase) (g : Below w₀.heap.size w₀ w) (hst : St κ n w₀.heap.size E a w) : Holds w₀ V w := ⟨g, hst.base, fun p hp => by
 have h1 := hst.of p.1 p.2 (hs p hp)
 have := hV p hp
 rwa [Array.getD_eq_getD_getElem?, Array.getElem?_eq_none (by rw [hst.size]; omega)] at h1⟩
theorem A.openN {t k B' : Nat} {e : TypeId} {val : Nat → Value} {xs : List Value} {c : Code} {Q : Exit → Act → World → Prop} (ht : E.look t = some (newD B' e val xs)) (h : ∀ b, B' ≤ b → A κ P w₀ n c ((t, .v (val b)) :: (k, blk b e xs) :: E) Q) : A κ P w₀ n c E Q := fun a w g hs => by
 obtain ⟨b, h1, h2, h3, h4⟩ := hs.of t _ ht
 exact h b h2 a w g ((hs.push (t := k) (d := blk b e xs) ⟨h3, h4⟩).push (d := .v (val b)) h1)
theorem End.roundE {b : Bool} {V Vx : Env} (hb : b = true) (hs : Sub V E) (hV : ∀ p ∈ V, vbase ≤ p.1) (hn : n ≤ vbase) : End κ w₀ n E (RoundE w₀ b V Vx .normal) := fun a w g hst => ⟨hb, .ofSt hs hV hn g hst⟩
theorem End.roundEx {b : Bool} {V Vx : Env} (hb : b = false) (hs : Sub Vx E) (hV : ∀ p ∈ Vx, vbase ≤ p.1) (hn : n ≤ vbase) : End κ w₀ n E (RoundE w₀ b V Vx .ret) := fun a w g hst => ⟨hb, .ofSt hs hV hn g hst⟩
end
section
variable {P : Program} {n : Nat} {w₀ : World} {E : Env}
theorem load_one {w : World} {b : Nat} {e T : TypeId} {td : TypeDesc} {x : Value} (ht : P.underlying T = some td) (hp : (match td with | .struct _ | .array _ _ => false | _ => true) = true) (hh : w.heap[b]? = some (.cells [x].toArray e (0,0))) :
  (loadVar T ⟨b, 0, none⟩).run P w = .ok x w := by
 have hagg : (isAgg T).run P w = .ok false w := by
  unfold isAgg
  simp only [Sem.run_bind, run_underlying ht, Result.andThen_ok]
  cases td <;> simp_all
 have hc : w.cell? ⟨b, 0, none⟩ = some x := by simp [World.cell?, hh]
 simp [loadVar, hagg, hc]
end
end
section
structure CelT where
 t : List UInt8
 e : Nat
 m : Nat
namespace CelT
def zero : CelT := ⟨zD, 0,0⟩
def v (c : CelT) : List Value := celV c.t c.e c.m
theorem one (c : CelT) : c.v.all (·.oneCell') = true := cel_one _ _ _
instance : DecidableEq CelT := fun a b => if h : a.t = b.t ∧ a.e = b.e ∧ a.m = b.m then .isTrue (by obtain ⟨t, e, m⟩ := a; obtain ⟨t', e', m'⟩ := b; obtain ⟨h1, h2, h3⟩ := h; simp only at h1 h2 h3; subst h1; subst h2; subst h3; rfl) else .isFalse fun hab => h (by subst hab; exact ⟨rfl, rfl, rfl⟩)
def fol (a b : CelT) : Nat := if a.e + 1 = b.e ∧ a.m = b.m then 1 else if a.e = b.e ∧ a.t = b.t ∧ a.m < b.m then 2 else 0
end CelT
def ceAt (l : List CelT) (i : Nat) : CelT := l.getD i CelT.zero
def folAt (l : List CelT) (k : Nat) : Nat := CelT.fol (ceAt l k) (ceAt l (k + 1))
def faultN (l : List CelT) : Nat → Nat
 | 0 => 0
 | n + 1 => if faultN l n = 0 then (if folAt l n = 0 then n + 1 else 0) else faultN l n
def fault (l : List CelT) : Nat := faultN l (l.length - 1)
end
section
structure Us where
 key : List UInt8
 s : Nat
 c : Nat
 f : Nat
 l : Nat
deriving DecidableEq
instance : Inhabited Us := ⟨⟨[], 0,0,0,0⟩⟩
def stOf (u : Us) : List UInt8 × Nat × Nat := (u.key, u.s, u.c)
def Sorted (us : List Us) (L : List Nat) : Prop := L.Pairwise fun a b => us[a]!.f ≤ us[b]!.f
structure Lists (us : List Us) (Ls : List (List Nat)) : Prop where
 sorted : ∀ L ∈ Ls, Sorted us L
 lt : ∀ L ∈ Ls, ∀ x ∈ L, x < us.length
 nodup : ∀ L ∈ Ls, L.Nodup
 one : ∀ L ∈ Ls, ∀ x ∈ L, ∀ y ∈ L, stOf us[x]! = stOf us[y]!
 all : ∀ x y, x < y → y < us.length → stOf us[x]! = stOf us[y]! → ∃ L ∈ Ls, x ∈ L ∧ y ∈ L
end
section
variable {κ : Cx}
def RowX (lo : Nat) (e : TypeId) (B : Nat) (w : World) (A : Option Addr) (xs : List Value) : Prop :=
 ∀ (j : Nat) (u : Value), xs[j]? = some u → ∃ ad, A = some ad ∧ lo ≤ ad.block ∧ ad.block < B ∧ (∃ cur fr, w.heap[ad.block]? = some (.cells cur e fr)) ∧ w.cell? (ad.add j) = some u
theorem cell_block {w w' : World} {a : Addr} (h : w'.heap[a.block]? = w.heap[a.block]?) : w'.cell? a = w.cell? a := by unfold World.cell?; rw [h]
theorem RowX.other {lo : Nat} {e : TypeId} {B B' : Nat} {w w' : World} {A : Option Addr} {xs : List Value} (h : RowX lo e B w A xs) (hB : B ≤ B') (hk : ∀ b cur fr, lo ≤ b → b < B → w.heap[b]? = some (.cells cur e fr) → w'.heap[b]? = w.heap[b]?) : RowX lo e B' w' A xs := fun j u hu => by
 obtain ⟨ad, h1, h2, h3, ⟨cur, fr, h4⟩, h5⟩ := h j u hu
 have h6 := hk ad.block cur fr h2 h3 h4
 refine ⟨ad, h1, h2, by omega, ⟨cur, fr, by rw [h6]; exact h4⟩, ?_⟩
 have h7 : w'.cell? (ad.add j) = w.cell? (ad.add j) := cell_block (by rw [block_of_add]; exact h6)
 rw [h7]; exact h5
theorem RunTK.newG {P : Program} {n B : Nat} {ops : Array Oper} {draw : Bool} {C : Env → Prop} {o : Oper} {E : Env} {s : Nat} (p : Nat) (hsp : s ≤ p) (ho : ops[p]? = some o) (hb : draw = false ∨ barrier ops p = true)
  (h : RunK P B ops ((ops.toList.drop s).take (p - s)) E (fun E₁ => ∃ (ι : Type) (G : ι → Prop) (E₂ : ι → Env), EffG P n B ops o E₁ G E₂ ∧ ∀ i, G i → RunTK P n B ops draw C (p + 1) (E₂ i))) : RunTK P n B ops draw C s E := by
 obtain ⟨E₁, h1, ι, G, E₂, h2, h3⟩ := h
 exact .effG hsp ho hb h1 h2 h3
end
end Go.Proofs.YtmkpekmhhbcifaaGreatDoor
