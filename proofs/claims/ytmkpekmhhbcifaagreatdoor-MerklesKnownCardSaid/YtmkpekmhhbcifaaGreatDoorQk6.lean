/-
  OWN TEXTS of this seat, put together, part 6: C16h, TreeD, C16i, C16j, C16k, C12d, C13d, C16l, C16m, Vars, C16n, MerkL, C16o, C16p, C16t, Srt, C16w.
-/
import Derived.Test.YtmkpekmhhbcifaaGreatDoorQk0
import Derived.Test.YtmkpekmhhbcifaaGreatDoorQk2
import Derived.Test.YtmkpekmhhbcifaaGreatDoorQk5
import Derived.Test.YtmkpekmhhbcifaaGreatDoorQk4
import Derived.Test.YtmkpekmhhbcifaaGreatDoorQk3
namespace Go.Proofs.YtmkpekmhhbcifaaGreatDoor
set_option linter.unusedVariables false
set_option linter.unusedSimpArgs false
set_option maxRecDepth 20000
open Go Go.RowKit
def intL (S : List Int) : List Value := S.map (Value.int .i64)
theorem intL_len (S : List Int) : (intL S).length = S.length := List.length_map _
theorem intL_at {S : List Int} {i : Nat} (h : i < S.length) : ((intL S).drop (i * 1)).take 1 = [.int .i64 (S.getD i 0)] := by
 unfold intL
 rw [Nat.mul_one, ← List.map_drop, ← List.map_take, List.drop_eq_getElem_cons h, List.getD_eq_getElem?_getD, List.getElem?_eq_getElem h]; rfl
def staE (n : Int) : Int := if n = 0 ∨ n = 1 then 0 else 1
def stX (n : Int) : UInt8 := if n = 0 then 1 else if n = 1 then 2 else 0
theorem State_any (n : Int) : Fn Tryz.prog 65 [.v (.int .i64 n)] (.v (.tuple #[byteV (stX n), .int .i64 (staE n)])) := by
 by_cases h0 : n < 0
 ·have e1 : stX n = 0 := by unfold stX; rw [if_neg (by omega), if_neg (by omega)]
  have e2 : staE n = 1 := if_neg (by omega)
  rw [e1, e2]; exact State_neg n h0
 by_cases h1 : 1 < n
 ·have e1 : stX n = 0 := by unfold stX; rw [if_neg (by omega), if_neg (by omega)]
  have e2 : staE n = 1 := if_neg (by omega)
  rw [e1, e2]; exact State_big n h1
 ·have e2 : staE n = 0 := if_pos (by omega)
  rw [e2]
  refine State_ok n (stX n) (by omega) (by omega) ?_
  unfold stX
  have : n = 0 ∨ n = 1 := by omega
  rcases this with rfl | rfl <;> rfl
def SrcOk (n : Int) (R : List RecT) (S : List Int) : Prop := 1 ≤ n ∧ n ≤ 4096 ∧ (R.length : Int) = n ∧ S.length = tot n.toNat (hg n.toNat + 1) ∧ (∀ i, i < S.length → S.getD i 0 = 0 ∨ S.getD i 0 = 1) ∧ ∀ i, i < R.length → ¬ (recAt R i).Bad
open Classical in
noncomputable def srcE (n : Int) (R : List RecT) (S : List Int) : Int := if SrcOk n R S then 0 else 1
theorem srcE_no {n : Int} {R : List RecT} {S : List Int} (h : ¬ SrcOk n R S) : srcE n R S = 1 := if_neg h
theorem srcE_ok {n : Int} {R : List RecT} {S : List Int} (h : SrcOk n R S) : srcE n R S = 0 := if_pos h
abbrev srcM (A₁ : Option Addr) (R : List RecT) (A₂ : Option Addr) (S : List Int) : Env := [(1000801, memR A₁ (recsV R)), (1000702, memR A₂ (intL S))]
theorem ok_clipX {P : Program} {B : Nat} {E : Env} {dst : Option Tmp} {ty : TypeId} {pos : String} {after : Array Edge} {guard : Option (Nat × Bool)} {t e : TypeId} {z : Value} {nb sz : Nat} {x ho mo : Operand} {ad : Addr} {len c m : Nat} {k2 k3 : IntKind} (ht : P.underlying t = some (.slice e)) (hs : InfoP P e z sz nb) (hx : E.at x = some (.v (.slice (some ad) len c))) (hho : E.at ho = some (.v (.int k2 (m : Int)))) (hmo : E.at mo = some (.v (.int k3 (m : Int))))
  (h0 : 0 < m) (hmc : m ≤ c) : OpOk P B ⟨dst, .slice t x none (some ho) (some mo), ty, pos, after, guard⟩ E (.v (.slice (some ad) m m)) := fun ρ w _ _ hρ => by
 have h1 : ρ x = _ := hρ x (by simp [Op.operands]) _ hx
 have h3 : ρ ho = .int k2 (m : Int) := hρ ho (by simp [Op.operands]) _ hho
 have h4 : ρ mo = .int k3 (m : Int) := hρ mo (by simp [Op.operands]) _ hmo
 obtain ⟨info, hinfo, _, hsize, _⟩ := hs.get
 have hm : ¬ m = 0 := by omega
 refine out_val (w' := w) ?_ ⟨Grow.refl w, rfl⟩
 simp [execOp, h1, h3, h4, Instr.sliceAt, Instr.slice, run_underlying ht, Instr.sliceBounds, Instr.sliceBound, asIntOf, sizeOf, typeInfo, hinfo, hsize, hmc, hm]
 try (unfold Addr.add; split <;> simp_all)
theorem nods_one (T : List NodT) : (nodsV T).all (·.oneCell') = true := by
 unfold nodsV
 rw [List.all_flatMap]
 exact List.all_eq_true.2 fun x _ => NodT.one x
theorem buildTr (n : Nat) (v : Value) (hv : v.oneCell' = true) : Tryz.prog.built 32 [(0, nI n), (1, v)] = some ([nI n, v] : List Value).toArray := by
 cases v with
 | agg => cases hv
 | tuple => cases hv
 | _ => kernel_rfl
theorem src_m (n : Int) (R : List RecT) (hR : FitR R) (S : List Int) (A₁ A₂ : Option Addr) (c₁ c₂ : Nat) (hm : ¬ (1 ≤ n ∧ n ≤ 4096))  : FnM Tryz.prog 39 (srcM A₁ R A₂ S) [.v (.int .i64 (n)), .v (.slice A₁ R.length c₁), .v (.slice A₂ S.length c₂)] (.v (.int .i64 (1))) := by
 refine FnM.ofO Tryz.func39 rfl (by kernel_rfl) Tryz.ntmps39 (by simp) (by decide) (fun w => [(0, .v (.int .i64 (n))), (1, .v (.slice A₁ R.length c₁)), (2, .v (.slice A₂ S.length c₂)), (1000801, old w.heap.size (memR A₁ (recsV R))), (1000702, old w.heap.size (memR A₂ (intL S)))]) (fun w => (StartMO.v rfl (StartMO.v rfl (StartMO.v rfl (StartMO.mo (by simp [srcM]) (by decide) (StartMO.mo (by simp [srcM]) (by decide) StartMO.nil)))))) fun w₀ hM => ?_
 skip
 refine GV rfl (GT (RM rfl ?_));refine RS (ok_call (Total_bad n hm) (A1 rfl)) ?_;refine RVN 5 rfl ?_;refine QSB (GT (RV 2 rfl ?_));refine RT ?_;refine RVN 1 rfl ?_;refine A.yes rfl ?_;refine GV rfl (A.ret (End.ret_block (End.ret_then ?_)));exact ER rfl rfl
theorem src_l (n : Nat) (h1 : 1 ≤ n) (h2 : n ≤ 4096) (R : List RecT) (hR : FitR R) (S : List Int) (A₁ A₂ : Option Addr) (c₁ c₂ : Nat) (h : R.length ≠ n)  : FnM Tryz.prog 39 (srcM A₁ R A₂ S) [.v (nI (n)), .v (.slice A₁ R.length c₁), .v (.slice A₂ S.length c₂)] (.v (.int .i64 (1))) := by
 refine FnM.ofO Tryz.func39 rfl (by kernel_rfl) Tryz.ntmps39 (by simp) (by decide) (fun w => [(0, .v (nI (n))), (1, .v (.slice A₁ R.length c₁)), (2, .v (.slice A₂ S.length c₂)), (1000801, old w.heap.size (memR A₁ (recsV R))), (1000702, old w.heap.size (memR A₂ (intL S)))]) (fun w => (StartMO.v rfl (StartMO.v rfl (StartMO.v rfl (StartMO.mo (by simp [srcM]) (by decide) (StartMO.mo (by simp [srcM]) (by decide) StartMO.nil)))))) fun w₀ hM => ?_
 skip
 refine GV rfl (GT (RM rfl ?_));refine RS (ok_call (Total_ok n h1 h2) (A1 rfl)) ?_;refine RVN 5 rfl ?_;refine QSB (GT (RV 2 rfl ?_));refine RF ?_;refine RVN 1 rfl ?_;refine A.no rfl ?_;refine GT (RM rfl ?_);refine RS (ok_lenV U26 rfl) ?_;refine RV 2 rfl ?_;refine RZ (.bool true) (congrArg Value.bool (by simp; omega)) ?_;refine RVN 7 rfl ?_;refine A.yes rfl ?_;refine GV rfl (A.ret (End.ret_block (End.ret_then ?_)));exact ER rfl rfl
theorem src_s (n : Nat) (h1 : 1 ≤ n) (h2 : n ≤ 4096) (R : List RecT) (hR : FitR R) (S : List Int) (A₁ A₂ : Option Addr) (c₁ c₂ : Nat) (h : R.length = n) (hs : S.length ≠ tot n (hg n + 1))  : FnM Tryz.prog 39 (srcM A₁ R A₂ S) [.v (nI (n)), .v (.slice A₁ R.length c₁), .v (.slice A₂ S.length c₂)] (.v (.int .i64 (1))) := by
 refine FnM.ofO Tryz.func39 rfl (by kernel_rfl) Tryz.ntmps39 (by simp) (by decide) (fun w => [(0, .v (nI (n))), (1, .v (.slice A₁ R.length c₁)), (2, .v (.slice A₂ S.length c₂)), (1000801, old w.heap.size (memR A₁ (recsV R))), (1000702, old w.heap.size (memR A₂ (intL S)))]) (fun w => (StartMO.v rfl (StartMO.v rfl (StartMO.v rfl (StartMO.mo (by simp [srcM]) (by decide) (StartMO.mo (by simp [srcM]) (by decide) StartMO.nil)))))) fun w₀ hM => ?_
 skip
 refine GV rfl (GT (RM rfl ?_));refine RS (ok_call (Total_ok n h1 h2) (A1 rfl)) ?_;refine RVN 5 rfl ?_;refine QSB (GT (RV 2 rfl ?_));refine RF ?_;refine RVN 1 rfl ?_;refine A.no rfl ?_;refine GT (RM rfl ?_);refine RS (ok_lenV U26 rfl) ?_;refine RV 2 rfl ?_;refine RZ (.bool false) (congrArg Value.bool (by simp; omega)) ?_;refine RV 2 rfl ?_;refine RQ (ok_lenV U27 rfl) ?_;refine RV 2 rfl ?_;refine RZ (.bool true) (congrArg Value.bool (by simp; omega)) ?_;refine RVN 2 rfl ?_;refine A.yes rfl ?_;refine GV rfl (A.ret (End.ret_block (End.ret_then ?_)));exact ER rfl rfl
set_option maxHeartbeats 1000000 in
theorem src_go (n : Nat) (h1 : 1 ≤ n) (h2 : n ≤ 4096) (R : List RecT) (hR : FitR R) (S : List Int) (A₁ A₂ : Option Addr) (c₁ c₂ : Nat) (h : R.length = n) (hs : S.length = tot n (hg n + 1))  : FnM Tryz.prog 39 (srcM A₁ R A₂ S) [.v (nI (n)), .v (.slice A₁ R.length c₁), .v (.slice A₂ S.length c₂)] (.v (.int .i64 (srcE n R S))) := by
 have hsm := tot_small h1 h2 (show hg n + 1 ≤ 6 by have := hg_le n; omega)
 refine FnM.ofO Tryz.func39 rfl (by kernel_rfl) Tryz.ntmps39 (by simp) (by decide) (fun w => [(0, .v (nI (n))), (1, .v (.slice A₁ R.length c₁)), (2, .v (.slice A₂ S.length c₂)), (1000801, old w.heap.size (memR A₁ (recsV R))), (1000702, old w.heap.size (memR A₂ (intL S)))]) (fun w => (StartMO.v rfl (StartMO.v rfl (StartMO.v rfl (StartMO.mo (by simp [srcM]) (by decide) (StartMO.mo (by simp [srcM]) (by decide) StartMO.nil)))))) fun w₀ hM => ?_
 skip
 refine GV rfl (GT (RM rfl ?_));refine RS (ok_call (Total_ok n h1 h2) (A1 rfl)) ?_;refine RVN 5 rfl ?_;refine QSB (GT (RV 2 rfl ?_));refine RF ?_;refine RVN 1 rfl ?_;refine A.no rfl ?_;refine GT (RM rfl ?_);refine RS (ok_lenV U26 rfl) ?_;refine RV 2 rfl ?_;refine RZ (.bool false) (congrArg Value.bool (by simp; omega)) ?_;refine RV 2 rfl ?_;refine RQ (ok_lenV U27 rfl) ?_;refine RV 2 rfl ?_;refine RZ (.bool false) (congrArg Value.bool (by simp; omega)) ?_;refine RVN 2 rfl ?_;refine A.no rfl ?_;refine A.skip (End.normal_block (EN (QS (GT (RM rfl ?_)))));refine RS (ok_lenV U27 rfl) ?_;refine RVN 1 rfl ?_;refine A.sub (Sv [1, 36, 37, 38, 1000702, 1000801] rfl) ?_;refine A.block ?_;refine A.loop (ι := Nat) (fun i => i ≤ S.length ∧ ∀ k, k < i → S.getD k 0 = 0 ∨ S.getD k 0 = 1) (fun i => [(1, .v (.slice A₁ R.length c₁)), (36, .v (.slice A₂ S.length c₂)), (37, .v (nI (S.length))), (38, .v (nI (i))), (1000801, old w₀.heap.size (memR A₁ (recsV R))), (1000702, old w₀.heap.size (memR A₂ (intL S)))]) (fun i => S.length - i) 0 ?_ ?_ ?_
 ·exact ⟨Nat.zero_le _, fun k h => absurd h (Nat.not_lt_zero _)⟩
 ·exact (KC 1 rfl (KC 36 rfl (KC 37 rfl (KE 38 rfl (by rfl) (KC 1000801 rfl (KC 1000702 rfl KN))))))
 intro i hG
 refine GV rfl (QS ?_);refine A.cond rfl (fun hc39 => ?_) (fun hc39 => ?_)
 ·have hi : i < S.length := by simp at hc39; omega
  refine QK (QSB (GT (RS (ok_indexR (s := 1000702) i U27 infoPI rfl rfl (by decide) rfl hi (by rw [intL_len]; omega)) ?_)));refine RS (ok_loadP1 (u := .int .i64 (S.getD i 0)) (us := []) U3 rfl (by show some (elemP _) = _; rw [intL_at hi])) ?_;refine RVN 1 rfl ?_;refine GT (RM rfl ?_);refine RS (ok_call (State_any (S.getD i 0)) (A1 rfl)) ?_;refine RVN 5 rfl ?_;refine GV rfl ?_;refine A.cond rfl (fun hc48 => ?_) (fun hc48 => ?_)
  ·have hb : ¬ ((S.getD i 0) = 0 ∨ (S.getD i 0) = 1) := fun hb => by rw [show staE (S.getD i 0) = 0 from if_pos hb] at hc48; simp at hc48
   refine GV rfl (A.ret (End.ret_block (End.ret_then (End.ret_then (End.ret_block (End.ret_then ?_))))))
   first | exact End.ret1 rfl rfl (Le.v (congrArg (Value.int .i64) (by rw [srcE_no fun hh => hb (hh.2.2.2.2.1 i hi)]; exact if_neg hb))) | exact End.ret1 rfl rfl (Le.v (congrArg (Value.int .i64) (by rw [srcE_no fun hh => hh.2.2.2.2.2 i hi hb]; exact (RecT.ck_one _).resolve_left fun h0 => RecT.ck_zero.1 h0 hb))) | exact End.ret1 rfl rfl (Le.v (congrArg (Value.int .i64) (srcE_ok ⟨by omega, by omega, by omega, by rw [Int.toNat_natCast]; exact hs, by rw [← hi2]; exact hG.2, by rw [← hi3]; exact hJ.2⟩).symm))
  ·have hb : (S.getD i 0) = 0 ∨ (S.getD i 0) = 1 := Classical.byContradiction fun hb => by rw [show staE (S.getD i 0) = 1 from if_neg hb] at hc48; simp at hc48
   refine A.skip (End.normal_block (EN (GTE (RB rfl rfl rfl ?_))));refine RZ (nI (i + 1)) (wrap_eq (by omega) (by omega)) ?_;refine RVN 1 rfl ?_;refine End.normal_then ?_;refine End.again (i + 1) ?_ ?_ ?_
   ·exact ⟨by omega, fun k hk => (Nat.lt_or_ge k i).elim (hG.2 k) fun h => by rw [show k = i from by omega]; exact hb⟩
   ·show _ - _ < _ - _; omega
   ·exact (Sv [1, 36, 37, 38, 1000801, 1000702] rfl)
 ·have hi2 : i = S.length := by have := hG.1; simp at hc39; omega
  refine A.exit (End.exit_then (End.exit_then (End.exit_here (EN (QS (GT (RM rfl ?_)))))));refine RS (ok_lenV U26 rfl) ?_;refine RVN 1 rfl ?_;refine A.block ?_;refine A.loop (ι := Nat) (fun i => i ≤ R.length ∧ ∀ k, k < i → ¬ (recAt R k).Bad) (fun i => [(51, .v (.slice A₁ R.length c₁)), (52, .v (nI (R.length))), (53, .v (nI (i))), (1000801, old w₀.heap.size (memR A₁ (recsV R))), (1000702, old w₀.heap.size (memR A₂ (intL S)))]) (fun i => R.length - i) 0 ?_ ?_ ?_
  ·exact ⟨Nat.zero_le _, fun k h => absurd h (Nat.not_lt_zero _)⟩
  ·exact (KC 51 rfl (KC 52 rfl (KE 53 rfl (by rfl) (KC 1000801 rfl (KC 1000702 rfl KN)))))
  intro i hJ
  refine GV rfl (QS ?_);refine A.cond rfl (fun hc54 => ?_) (fun hc54 => ?_)
  ·have hi : i < R.length := by simp at hc54; omega
   refine QK (QSB (GS (TN 2 (RS (ok_indexR (s := 1000801) i U26 infoP51 rfl rfl (by decide) rfl hi (by rw [recs_len hR]; omega)) ?_))));refine RS (ok_loadElemT 35 U51 rfl size51 (by rw [recs_at hR hi, (hR.at _).len]; exact Nat.le_refl _) rfl) ?_; refine RZ (aggV (recAt R i).v) (congrArg aggV (by rw [recs_at hR hi]; exact List.take_of_length_le (Nat.le_of_eq (hR.at _).len))) ?_;refine RN ?_;refine ZN 1000014 zero51 fun b14 ⟨hBb14, hb14⟩ => ?_
   refine TF 3 (RN ?_);refine ⟨_, eff_storeA (n := 63) (s := 1000014) (size51.of ((hR.at i).len)) rfl rfl (RecT.one _) hBb14 rfl (by rw [(hR.at i).len]; rfl) (LO 1000702 rfl (LO 1000801 rfl (LW [14, 51, 52, 53] rfl))), ?_⟩
   refine TL (RN (GT (RL 1000014 U51 rfl rfl (size51.of ((hR.at i).len)) ?_)));refine RS (ok_call (CheckR_fn (recAt R i).x (recAt R i).s (recAt R i).c (recAt R i).t (hR.at i).t) (A1 rfl)) ?_; refine RZ (.int .i64 (recAt R i).ck) (by rfl) ?_;refine RVN 1 rfl ?_;refine GV rfl ?_;refine A.cond rfl (fun hc60 => ?_) (fun hc60 => ?_)
   ·have hb : (recAt R i).Bad := RecT.ck_bad (by simpa using hc60)
    refine GV rfl (A.ret (End.ret_block (End.ret_then (End.ret_then (End.ret_block (End.ret_then ?_))))))
    first | exact End.ret1 rfl rfl (Le.v (congrArg (Value.int .i64) (by rw [srcE_no fun hh => hb (hh.2.2.2.2.1 i hi)]; exact if_neg hb))) | exact End.ret1 rfl rfl (Le.v (congrArg (Value.int .i64) (by rw [srcE_no fun hh => hh.2.2.2.2.2 i hi hb]; exact (RecT.ck_one _).resolve_left fun h0 => RecT.ck_zero.1 h0 hb))) | exact End.ret1 rfl rfl (Le.v (congrArg (Value.int .i64) (srcE_ok ⟨by omega, by omega, by omega, by rw [Int.toNat_natCast]; exact hs, by rw [← hi2]; exact hG.2, by rw [← hi3]; exact hJ.2⟩).symm))
   ·have hb : ¬ (recAt R i).Bad := RecT.ck_zero.1 (by simpa using hc60)
    refine A.skip (End.normal_block (EN (GTE (RB rfl rfl rfl ?_))));refine RZ (nI (i + 1)) (wrap_eq (by omega) (by omega)) ?_;refine RVN 1 rfl ?_;refine End.normal_then ?_;refine End.again (i + 1) ?_ ?_ ?_
    ·exact ⟨by omega, fun k hk => (Nat.lt_or_ge k i).elim (hJ.2 k) fun h => by rw [show k = i from by omega]; exact hb⟩
    ·show _ - _ < _ - _; omega
    ·exact (Sv [51, 52, 53, 1000801, 1000702] rfl)
  ·have hi3 : i = R.length := by have := hJ.1; simp at hc54; omega
   refine A.exit (End.exit_then (End.exit_then (End.exit_here (EN (GV rfl (A.ret ?_))))))
   first | exact End.ret1 rfl rfl (Le.v (congrArg (Value.int .i64) (by rw [srcE_no fun hh => hb (hh.2.2.2.2.1 i hi)]; exact if_neg hb))) | exact End.ret1 rfl rfl (Le.v (congrArg (Value.int .i64) (by rw [srcE_no fun hh => hh.2.2.2.2.2 i hi hb]; exact (RecT.ck_one _).resolve_left fun h0 => RecT.ck_zero.1 h0 hb))) | exact End.ret1 rfl rfl (Le.v (congrArg (Value.int .i64) (srcE_ok ⟨by omega, by omega, by omega, by rw [Int.toNat_natCast]; exact hs, by rw [← hi2]; exact hG.2, by rw [← hi3]; exact hJ.2⟩).symm))
theorem checkSources_fn (n : Int) (R : List RecT) (hR : FitR R) (S : List Int) (A₁ A₂ : Option Addr) (c₁ c₂ : Nat) : FnM Tryz.prog 39 (srcM A₁ R A₂ S) [.v (.int .i64 (n)), .v (.slice A₁ R.length c₁), .v (.slice A₂ S.length c₂)] (.v (.int .i64 (srcE n R S))) := by
 by_cases hn : 1 ≤ n ∧ n ≤ 4096
 ·obtain ⟨k, rfl⟩ : ∃ k : Nat, n = k := ⟨n.toNat, by omega⟩
  by_cases h : R.length = k
  ·by_cases hs : S.length = tot k (hg k + 1)
   ·exact src_go k (by omega) (by omega) R hR S A₁ A₂ c₁ c₂ h hs
   ·rw [srcE_no fun hh => hs (by have := hh.2.2.2.1; rwa [Int.toNat_natCast] at this)]; exact src_s k (by omega) (by omega) R hR S A₁ A₂ c₁ c₂ h hs
  ·rw [srcE_no fun hh => h (by have := hh.2.2.1; omega)]; exact src_l k (by omega) (by omega) R hR S A₁ A₂ c₁ c₂ h
 ·rw [srcE_no fun hh => hn ⟨hh.1, hh.2.1⟩]; exact src_m n R hR S A₁ A₂ c₁ c₂ hn
theorem clipN_fn (ad : Addr) (m q : Nat) (h0 : 0 < m) (hq : m ≤ q) : Fn Tryz.prog 43 [.v (.slice (some ad) m q)] (.v (.slice (some ad) m m)) := by
 refine FV Tryz.func43 rfl Tryz.ntmps43 rfl fun w₀ => ?_
 refine GV rfl (GT (RV 2 rfl ?_));refine RS (ok_lenV U30 rfl) ?_;refine RM rfl ?_;refine RS (ok_lenV U30 rfl) ?_;refine RS (ok_clipX U30 infoN rfl rfl rfl h0 hq) ?_;refine RVN 1 rfl ?_;refine A.ret ?_;exact ER rfl rfl
theorem Build_bad (n : Int) (R : List RecT) (hR : FitR R) (S : List Int) (A₁ A₂ : Option Addr) (c₁ c₂ : Nat) (he : srcE n R S = 1)  : FnM Tryz.prog 12 (srcM A₁ R A₂ S) [.v (.int .i64 (n)), .v (.slice A₁ R.length c₁), .v (.slice A₂ S.length c₂)] (.v (.tuple #[aggV [nI 0, .slice none 0 0], .int .i64 1])) := by
 refine FnM.ofO Tryz.func12 rfl (by kernel_rfl) Tryz.ntmps12 (by simp) (by decide) (fun w => [(0, .v (.int .i64 (n))), (1, .v (.slice A₁ R.length c₁)), (2, .v (.slice A₂ S.length c₂)), (1000801, old w.heap.size (memR A₁ (recsV R))), (1000702, old w.heap.size (memR A₂ (intL S)))]) (fun w => (StartMO.v rfl (StartMO.v rfl (StartMO.v rfl (StartMO.mo (by simp [srcM]) (by decide) (StartMO.mo (by simp [srcM]) (by decide) StartMO.nil)))))) fun w₀ hM => ?_
 skip
 refine GS (TN 0 (RN ?_));refine ZN 1000006 zero32 fun b6 ⟨hBb6, hb6⟩ => ?_
 refine TL (RVN 1 rfl ?_);refine QS (GT (RV 3 rfl ?_));refine RS (ok_callMK (checkSources_fn n R hR S A₁ A₂ c₁ c₂) (SubK.cons (k := 1000801) (by decide) rfl Le.unold (SubK.cons (k := 1000702) (by decide) rfl Le.unold SubK.nil)) (A3 rfl rfl rfl)) ?_; refine RZ (.int .i64 1) (by rw [he]) ?_;refine RVN 1 rfl ?_;refine GT (RV 2 rfl ?_);refine RT ?_;refine RN (A.yes rfl ?_);refine GS (TF 2 (RS (ok_lit [] ([.int .i64 0] ++ [.slice none 0 0]) (fun _ _ => rfl) (by kernel_rfl)) ?_));refine RVN 1 rfl ?_;refine ZA 1000006 (size32.of rfl) hBb6 rfl rfl rfl (LO 1000702 rfl (LO 1000801 rfl (LW [6, 20] rfl))) ?_;refine TL (RVN 1 rfl ?_);refine A.ret (End.ret_then ?_);exact End.cellV (s := 1000006) rfl U32 rfl (size32.of rfl) rfl rfl rfl
theorem tre_up {R : List RecT} {S : List Nat} {l : Nat} (hl : l < 5) : treR R S (tot R.length (l + 1)) ++ pgT (upT R.length (treR R S (tot R.length (l + 1))) S l) (un R.length (l + 2)) (un R.length (l + 2)) = treR R S (tot R.length (l + 2)) := by
 have e1 : tot R.length (l + 2) = tot R.length (l + 1) + un R.length (l + 2) := tot_succ _ _
 refine ndAt_ext (by rw [List.length_append, treR_length, pgT_length, treR_length, e1]) fun i hi => ?_
 rw [List.length_append, treR_length, pgT_length] at hi
 by_cases h : i < tot R.length (l + 1)
 ·rw [ndAt_app (by rw [treR_length]; exact h), treR_get h, treR_get (by omega)]
 ·obtain ⟨k, rfl⟩ : ∃ k, i = tot R.length (l + 1) + k := ⟨i - tot R.length (l + 1), by omega⟩
  have := ndAt_app2 (T := treR R S (tot R.length (l + 1))) (U := pgT (upT R.length (treR R S (tot R.length (l + 1))) S l) (un R.length (l + 2)) (un R.length (l + 2))) (i := k)
  rw [treR_length] at this
  have hk : k < un R.length (l + 2) := by omega
  rw [this, pgT_at hk hk, upT_eq hl rfl, treR_at (by omega) (show k < un R.length (l + 1 + 1) from hk) (by omega)]
theorem gr_start (R : List RecT) (S : List Nat) {B : Nat} {e : TypeId} : ownP B e 274 (un R.length 1) (nodsV (grpsT R (un R.length 1))) = ownP B e 274 (tot R.length (0 + 1)) (nodsV (treR R S (tot R.length (0 + 1)))) := by
 rw [grpsT_tre R S, show 0 + 1 = 1 from rfl, tot_one]
def natL (S : List Nat) : List Int := S.map fun (k : Nat) => (k : Int)
theorem natL_v (S : List Nat) : intL (natL S) = slotV S := by unfold intL natL slotV; rw [List.map_map]; rfl
theorem natL_len (S : List Nat) : (natL S).length = S.length := List.length_map _
theorem natL_at (S : List Nat) (i : Nat) : (natL S).getD i 0 = ((S.getD i 0 : Nat) : Int) := by
 unfold natL
 rw [List.getD_eq_getElem?_getD, List.getD_eq_getElem?_getD, List.getElem?_map]
 cases S[i]? <;> rfl
theorem src_nat {R : List RecT} {S : List Nat} (h1 : 1 ≤ R.length) (h2 : R.length ≤ 4096) (hR : OkR R) (hS : OkS S) (hs : S.length = tot R.length (hg R.length + 1)) : SrcOk (R.length : Int) R (natL S) :=
 ⟨by omega, by omega, rfl, by rw [natL_len, Int.toNat_natCast]; exact hs, fun i hi => by rw [natL_at]; have := hS.at i; omega, fun i hi => hR.at i⟩
set_option maxHeartbeats 4000000 in
theorem Build_okB (R : List RecT) (hR : FitR R) (h1 : 1 ≤ R.length) (h2 : R.length ≤ 4096) (hO : OkR R) (S : List Nat) (hS : OkS S) (hSl : S.length = tot R.length (hg R.length + 1)) (a₁ a₂ : Addr) (c₁ c₂ : Nat) (hc : R.length ≤ c₁)  : FnMB Tryz.prog 12 (tabN ++ [(1000801, memR (some a₁) (recsV R)), (1000701, memR (some a₂) (slotV S))]) [.v (nI (R.length)), .v (.slice (some a₁) R.length c₁), .v (.slice (some a₂) S.length c₂)] (fun B => newY B 57 (fun b => .tuple #[aggV [nI R.length, .slice (some ⟨b, 0, none⟩) (tot R.length (hg R.length + 1)) (tot R.length (hg R.length + 1))], .int .i64 0]) (nodsV (treR R S (tot R.length (hg R.length + 1))))) := by
 have hh := hg_le R.length
 have hu1 := un_pos h1 1
 have hmo : ∀ l, 1 ≤ l → l ≤ hg R.length + 1 → 1 ≤ tot R.length l ∧ tot R.length l ≤ tot R.length (hg R.length + 1) := fun l ha hb => by have e1 := tot_mono (n := R.length) ha; have e2 := tot_mono (n := R.length) hb; rw [tot_one] at e1; omega
 have hsm := tot_small h1 h2 (show hg R.length + 1 ≤ 6 by omega)
 refine FnMB.ofO Tryz.func12 rfl (by kernel_rfl) Tryz.ntmps12 (by simp) (by decide) (fun w => [(0, .v (nI (R.length))), (1, .v (.slice (some a₁) R.length c₁)), (2, .v (.slice (some a₂) S.length c₂)), (1900001, tab 1 (sizV)), (1900002, tab 2 (H8.list.map u32V)), (1900003, tab 3 (K64.map u32V)), (1000801, old w.heap.size (memR (some a₁) (recsV R))), (1000701, old w.heap.size (memR (some a₂) (slotV S)))]) (fun w => (StartMO.v rfl (StartMO.v rfl (StartMO.v rfl (StartMO.m (by simp [tabN]) (by decide) (StartMO.m (by simp [tabN]) (by decide) (StartMO.m (by simp [tabN]) (by decide) (StartMO.mo (by simp [tabN]) (by decide) (StartMO.mo (by simp [tabN]) (by decide) StartMO.nil))))))))) fun w₀ hM => ?_
 have htab := tabN_hi fun p hp => hM p (List.mem_append_left _ hp)
 refine GS (TN 0 (RN ?_));refine ZN 1000006 zero32 fun b6 ⟨hBb6, hb6⟩ => ?_
 refine TL (RVN 1 rfl ?_);refine QS (GT (RV 3 rfl ?_));refine RS (ok_callMK (by have h := checkSources_fn (R.length : Int) R hR (natL S) (some a₁) (some a₂) c₁ c₂; rw [natL_len] at h; exact h) (SubK.cons (k := 1000801) (by decide) rfl Le.unold (SubK.cons (k := 1000701) (by decide) rfl (Le.unold.trans (Le.eq (by rw [natL_v]))) SubK.nil)) (A3 rfl rfl rfl)) ?_; refine RZ (.int .i64 0) (by rw [srcE_ok (src_nat h1 h2 hO hS hSl)]) ?_;refine RVN 1 rfl ?_;refine GT (RV 2 rfl ?_);refine RF ?_;refine RN (A.no rfl ?_);refine QK (GS (RunTK.newG 2 (by decide) rfl (.inl rfl) ?_));refine RVN 2 rfl ?_;refine ⟨_, _, _, eff_nameV (n := 48) (d := 23) (k := 1000203) (f := ownP w₀.heap.size 57 274 (un R.length 1) (nodsV (grpsT R (un R.length 1)))) rfl rfl (ok_callMBK (groups_fnB a₁ R hR h1 h2 c₁ hc) (fun _ _ h => ownP_mono h) (SubK.cons (k := 1000801) (by decide) rfl Le.unold SubK.nil) (A1 rfl)) (fun w x h => ownP_one h) (by decide) (by decide) (by decide), fun v23 hv23 => ?_⟩
 refine TN 4 (RS (ok_litS [(0, nI R.length), (1, v23)] [nI R.length, v23] ⟨rfl, rfl, rfl, rfl, trivial⟩ (buildTr _ _ hv23)) ?_);refine RN ?_;refine ZN 1000009 zero32 fun b9 ⟨hBb9, hb9⟩ => ?_
 have hlt_b6_b9 := hb9 1000006 b6 _ _ rfl
 refine TF 5 (RN ?_);refine ⟨_, eff_storeA (n := 48) (s := 1000009) (size32.of (rfl)) rfl rfl (by rw [List.all_cons, List.all_cons, hv23]; rfl) hBb9 rfl (rfl) (LB 1000006 rfl (LeftS.cons (t := 1000203) rfl (Surv.valM (Surv.ownP (by decide))) (LO 1000701 rfl (LO 1000801 rfl (LQ 1900001 rfl (LQ 1900002 rfl (LQ 1900003 rfl (LW [0, 2, 6, 9] rfl)))))))), ?_⟩
 refine TL (RN (GT (RM rfl ?_)));refine RS (ok_call (Height_ok R.length h1 h2) (A1 rfl)) ?_;refine RVN 5 rfl ?_;refine QS (GV rfl (A.block ?_));refine A.loop (ι := Nat × Value) (fun x => x.1 ≤ hg R.length ∧ x.2.oneCell' = true) (fun x => [(2, .v (.slice (some a₂) S.length c₂)), (6, .v (ptr b6)), (1000006, blk b6 32 [nI 0, .slice none 0 0]), (9, .v (ptr b9)), (30, .v (nI (hg R.length))), (31, .v (nI (x.1))), (1000009, blk b9 32 [nI R.length, x.2]), (1000203, valM x.2 (ownP w₀.heap.size 57 274 (tot R.length (x.1 + 1)) (nodsV (treR R S (tot R.length (x.1 + 1)))))), (1900001, tab 1 (sizV)), (1900002, tab 2 (H8.list.map u32V)), (1900003, tab 3 (K64.map u32V)), (1000801, old w₀.heap.size (memR (some a₁) (recsV R))), (1000701, old w₀.heap.size (memR (some a₂) (slotV S)))]) (fun x => hg R.length - x.1) ((0 : Nat), v23) ?_ ?_ ?_
 ·exact ⟨Nat.zero_le _, hv23⟩
 ·exact (KC 2 rfl (KC 6 rfl (KE 1000006 rfl (by rfl) (KC 9 rfl (KC 30 rfl (KE 31 rfl (by rfl) (KC 1000009 rfl (KE 1000203 rfl (congrArg (valM v23) (gr_start R S)) (KC 1900001 rfl (KC 1900002 rfl (KC 1900003 rfl (KC 1000801 rfl (KC 1000701 rfl KN)))))))))))))
 intro ⟨i, v⟩ hG
 dsimp only at hG ⊢
 have hmi := hmo (i + 1) (by omega) (by have := hG.1; omega)
 refine GV rfl (QS ?_);refine A.cond rfl (fun hc32 => ?_) (fun hc32 => ?_)
 ·have hi : i < hg R.length := by simp at hc32; omega
  refine QK (QSB (GV rfl ?_));refine A.openRowP (k := 1000203) (k' := 1000501) rfl (by rw [nods_len (treR_fit hR S h1 h2 (by omega)), treR_length]; omega) fun ad q hq hv => ?_
  change v = _ at hv
  subst hv
  refine A.reg (by kernel_rfl) (by kernel_rfl) (.inr (by kernel_rfl)) ?_;refine RunTK.newG 6 (by decide) rfl (.inr (by kernel_rfl)) ?_;refine RS (ok_field field32_1 (by decide) rfl) ?_;refine RS (OpOk.valP (k := 1000203) (ok_loadV (s := 1000009) (by decide) U30 rfl rfl rfl (rfl)) (by decide) rfl) ?_;refine RL 1000009 U32 rfl rfl (size32.of rfl) ?_;refine RV 2 rfl ?_;refine RS (ok_callMBK (above_fnB R.length h1 h2 i (by omega) ad (treR R S (tot R.length (i + 1))) (treR_fit hR S h1 h2 (by omega)) q (by rw [treR_length]; exact Nat.le_refl _) (fun j hj => by rw [treR_at (by omega) hj (by rw [tot_succ]; omega)]; exact nodR_ck hO hS (by omega)) S hS (by omega) a₂ c₂) newD_mono (SubK.app (SubK.of (Sub.cons rfl (Sub.cons rfl (Sub.cons rfl KN))) tabN_v) (SubK.cons (k := 1000501) (by decide) rfl (Le.refl _) (SubK.cons (k := 1000701) (by decide) rfl Le.unold SubK.nil))) (Args.cons rfl (Le.eq (by rw [treR_length])) (A2 rfl rfl))) ?_;refine RN ?_;refine ⟨_, _, _, Eff.named (k := 1000203) (fun w x h => ownP_one h) (by decide) (by decide) (by decide) (eff_appendRG U30 infoN (by decide) (by decide) rfl rfl rfl newD_rowD (nods_one _) (by rw [nods_len (pgT_fit fun k hk _ => upT_fit _ _ _ _ (by have := un_le h1 (i + 2); omega)), pgT_length]) (by have := un_le h1 (i + 2); omega) (by decide) (fun g hg => (LV 2 rfl (LV 6 rfl (LV 9 rfl (LV 30 rfl (LV 31 rfl (LT 1000006 rfl (LT 1000009 rfl (LO 1000701 rfl (LO 1000801 rfl (LQ 1900001 rfl (LQ 1900002 rfl (LQ 1900003 rfl LN)))))))))))))), fun v40 hv40 => ?_⟩
  refine TD 8 ?_;refine RS (ok_field field32_1 (by decide) rfl) ?_;refine RN ?_;refine ⟨_, eff_storeS (n := 48) (s := 1000009) info30 rfl rfl (by first | exact hv40 | rfl) hBb9 rfl (by simp) (LB 1000006 rfl (LeftS.cons (t := 1000203) rfl (Surv.valM (Surv.ownP (by decide))) (LO 1000701 rfl (LO 1000801 rfl (LQ 1900001 rfl (LQ 1900002 rfl (LQ 1900003 rfl (LW [2, 6, 9, 30, 31] rfl)))))))), ?_⟩
  refine TL (RN (End.sub (KC 2 rfl (KC 6 rfl (KC 9 rfl (KC 30 rfl (KC 31 rfl (KC 1000006 rfl (KE 1000009 rfl (show _ = blk b9 32 [nI R.length, v40] from rfl) (KC 1000203 rfl (KC 1000701 rfl (KC 1000801 rfl (KC 1900001 rfl (KC 1900002 rfl (KC 1900003 rfl KN))))))))))))) ?_));refine End.normal_block (EN (GTE (RB rfl rfl rfl ?_)));refine RZ (nI (i + 1)) (wrap_eq (by omega) (by omega)) ?_;refine RVN 1 rfl ?_;refine End.normal_then ?_;refine End.again ((i + 1 : Nat), v40) ?_ ?_ ?_
  ·exact ⟨by show i + 1 ≤ _; omega, hv40⟩
  ·show _ - _ < _ - _; omega
  ·exact (KC 2 rfl (KC 6 rfl (KC 1000006 rfl (KC 9 rfl (KC 30 rfl (KC 31 rfl (KC 1000009 rfl (KE 1000203 rfl (by show _ = valM v40 (ownP w₀.heap.size 57 274 (tot R.length (i + 1 + 1)) (nodsV (treR R S (tot R.length (i + 1 + 1))))); rw [← tre_up (by omega), nods_app, show tot R.length (i + 1 + 1) = tot R.length (i + 1) + un R.length (i + 2) from tot_succ _ _]) (KC 1900001 rfl (KC 1900002 rfl (KC 1900003 rfl (KC 1000801 rfl (KC 1000701 rfl KN)))))))))))))
 ·have hi2 : i = hg R.length := by have := hG.1; simp at hc32; omega
  subst hi2
  refine A.exit (End.exit_then (End.exit_then (End.exit_here (EN ?_))));refine A.openRowY (k := 1000203) (k' := 1000311) rfl (by rw [nods_len (treR_fit hR S h1 h2 (by omega)), treR_length]; omega) fun g11 q ys hBg hq hv => ?_
  change v = _ at hv
  subst hv
  refine GS (TF 4 (RS (ok_field field32_1 (by decide) rfl) ?_));refine RLV 1000009 U30 rfl rfl rfl ?_;refine RS (ok_call (clipN_fn ⟨g11, 0, none⟩ (tot R.length (hg R.length + 1)) q (by omega) (by omega)) (A1 rfl)) ?_;refine RS (ok_field field32_1 (by decide) rfl) ?_;refine RN ?_;refine ⟨_, eff_storeS (n := 48) (s := 1000009) info30 rfl rfl (by first | exact hv40 | rfl) hBb9 rfl (by simp) (LB 1000006 rfl (LeftS.cons (t := 1000203) rfl (Surv.valM (Surv.ownP (by decide))) (LT 1000311 rfl (LO 1000701 rfl (LO 1000801 rfl (LQ 1900001 rfl (LQ 1900002 rfl (LQ 1900003 rfl (LW [6, 9] rfl))))))))), ?_⟩
  refine TL (RN (A.sub (KC 6 rfl (KC 9 rfl (KC 1000006 rfl (KE 1000009 rfl (show _ = blk b9 32 [nI R.length, .slice (some ⟨g11, 0, none⟩) (tot R.length (hg R.length + 1)) (tot R.length (hg R.length + 1))] from rfl) (KC 1000203 rfl (KC 1000311 rfl (KC 1000701 rfl (KC 1000801 rfl (KC 1900001 rfl (KC 1900002 rfl (KC 1900003 rfl KN))))))))))) ?_));refine GS (TF 1 (RL 1000009 U32 rfl rfl (size32.of rfl) ?_));refine RN ?_; refine ZA 1000006 (size32.of rfl) hBb6 rfl rfl rfl (LV 6 rfl (LB 1000009 rfl (LeftS.cons (t := 1000203) rfl (Surv.valM (Surv.ownP (by decide))) (LT 1000311 rfl (LO 1000701 rfl (LO 1000801 rfl (LQ 1900001 rfl (LQ 1900002 rfl (LQ 1900003 rfl LN))))))))) ?_;refine TL (RVN 1 rfl ?_);refine A.ret ?_;exact End.cellY (s := 1000006) (kg := 1000311) rfl U32 rfl (size32.of rfl) rfl rfl rfl rfl hBg rfl
section
section
variable {P : Program} {B : Nat} {E : Env} {dst : Option Tmp} {ty : TypeId} {pos : String} {after : Array Edge} {guard : Option (Nat × Bool)}
theorem ok_indexAX {t e : TypeId} {len sz : Nat} {x i : Operand} {ad : Addr} {o : Nat} {k : IntKind} (m : Nat) (ht : P.underlying t = some (.array len e)) (hs : SizeIs P e sz) (hx : E.at x = some (.v (.pointer (some (ad.add o))))) (hi : E.at i = some (.v (.int k (m : Int)))) (hn : m < len) :
  OpOk P B ⟨dst, .indexAddr t x i, ty, pos, after, guard⟩ E (.v (.pointer (some (ad.add (o + m * sz))))) := fun ρ w _ _ hρ => by
 have h1 : ρ x = _ := hρ x (by simp [Op.operands]) _ hx
 have hi' : ρ i = .int k (m : Int) := hρ i (by simp [Op.operands]) _ hi
 obtain ⟨info, hinfo, hsize⟩ := hs.get
 refine out_val (w' := w) ?_ ⟨Grow.refl w, rfl⟩
 simp [execOp, h1, hi', Instr.indexAt, Instr.sureAddr, asIntOf, run_underlying ht, sizeOf, typeInfo, hinfo, hsize]
 first | (intro hle; omega) | (exact ⟨by omega, add_of_add _ _ _⟩) | (rw [if_pos (by omega)]; simp [add_of_add]) | (split <;> simp_all [add_of_add] <;> omega) | skip
end
theorem nods_rec {T : List NodT} (h : FitT T) {k j : Nat} (hk : k < T.length) (hj : j < 4) : ((nodsV T).drop (k * 274 + 2 + j * 35)).take 35 = ((ndAt T k).r j).v := by
 have h1 := nods_at h hk
 have h2 := (h.at k).rec_at hj
 rw [← h1, List.drop_take, List.drop_drop, List.take_take, Nat.min_eq_left (by omega)] at h2
 rw [Nat.add_assoc]; exact h2
theorem wantV_len {n x : Nat} {d : List UInt8} {T : List NodT} (hd : d.length = 32) (hT : FitT T) (i : Nat) : (wantV n d x T i).length = 32 := by
 cases i with
 | zero => exact hd
 | succ i => exact ((hT.at i).e _).t
noncomputable instance : DecidableEq NodT := fun a b => Classical.propDecidable (a = b)
end
section
theorem pathV_at {n x i : Nat} (h : i < hg n + 1) : ((pathV n x (hg n + 1)).drop (i * 2)).take 2 = plV (hg n - i) (pidx n x i) := pathV_get h
abbrev pthM (pd : Addr) (n x : Nat) (ad : Addr) (T : List NodT) : Env := [(1000501, memR (some ad) (nodsV T)), (1000711, memR (some pd) (pathV n x (hg n + 1)))]
set_option maxHeartbeats 4000000 in
theorem cProof_fn (n : Nat) (h1 : 1 ≤ n) (h2 : n ≤ 4096) (x : Nat) (hx : x < n) (d : List UInt8) (hd : d.length = 32) (pd : Addr) (pc : Nat) (ad : Addr) (T : List NodT) (hT : FitT T) (c : Nat) (hl0 : 0 < T.length) (hlh : T.length ≤ hg n + 1) (e : Value) (he0 : (∀ k, k < T.length → verE n d x T k = 0) → e = .nilIface) (heN : ∀ i, i < T.length → (∀ k, k < i → verE n d x T k = 0) → ¬ verE n d x T i = 0 → e = wrongV (hg n - i) (pidx n x i) (verE n d x T i))  : FnM Tryz.prog 58 (tabN ++ pthM pd n x ad T) [.v (nI (n)), .v (aggV (d.map byteV)), .v (.slice (some pd) (hg n + 1) pc), .v (.slice (some ad) T.length c)] (.v (e)) := by
 have hh := hg_le n
 refine FnM.ofO Tryz.func58 rfl (by kernel_rfl) Tryz.ntmps58 (by simp) (by decide) (fun w => [(0, .v (nI (n))), (1, .v (aggV (d.map byteV))), (2, .v (.slice (some pd) (hg n + 1) pc)), (3, .v (.slice (some ad) T.length c)), (1900001, tab 1 (sizV)), (1900002, tab 2 (H8.list.map u32V)), (1900003, tab 3 (K64.map u32V)), (1000501, old w.heap.size (memR (some ad) (nodsV T))), (1000711, old w.heap.size (memR (some pd) (pathV n x (hg n + 1))))]) (fun w => (StartMO.v rfl (StartMO.v rfl (StartMO.v rfl (StartMO.v rfl (StartMO.m (by simp [tabN]) (by decide) (StartMO.m (by simp [tabN]) (by decide) (StartMO.m (by simp [tabN]) (by decide) (StartMO.mo (by simp [tabN]) (by decide) (StartMO.mo (by simp [tabN]) (by decide) StartMO.nil)))))))))) fun w₀ hM => ?_
 have htab := tabN_hi fun p hp => hM p (List.mem_append_left _ hp)
 refine GS (TN 0 (RN ?_));refine ZB 1000005 rfl fun b5 ⟨hBb5, hb5⟩ => ?_
 refine TL (RVN 1 rfl ?_);refine GS (TN 1 (RL 1000005 U40 rfl rfl (size40.of (by rw [List.length_map, hd])) ?_));refine RN ?_;refine ZN 1000009 zero40 fun b9 ⟨hBb9, hb9⟩ => ?_
 have hlt_b5_b9 := hb9 1000005 b5 _ _ rfl
 refine TF 2 (RN ?_);refine ⟨_, eff_storeA (n := 84) (s := 1000009) (size40.of (by first | (rw [List.length_map, hd]; done) | (rw [List.length_map, ((hT.at i).e _).t]; done))) rfl rfl (all_bytes _) hBb9 rfl (by first | (rw [List.length_map, hd]; rfl) | (rw [List.length_map, List.length_map, ((hT.at i).e _).t, wantV_len hd hT])) (LB 1000005 rfl (LO 1000501 rfl (LO 1000711 rfl (LQ 1900001 rfl (LQ 1900002 rfl (LQ 1900003 rfl (LW [0, 2, 3, 9] rfl))))))), ?_⟩
 refine TL (RN (QS (GT (RM rfl ?_))));refine RS (ok_lenV U30 rfl) ?_;refine RVN 1 rfl ?_;refine A.block ?_;refine A.loop (ι := Nat) (fun i => i ≤ T.length ∧ ∀ k, k < i → verE n d x T k = 0) (fun i => [(0, .v (nI (n))), (2, .v (.slice (some pd) (hg n + 1) pc)), (3, .v (.slice (some ad) T.length c)), (9, .v (ptr b9)), (18, .v (.slice (some ad) T.length c)), (19, .v (nI (T.length))), (20, .v (nI (i))), (1000009, blk b9 40 ((wantV n d x T (i)).map byteV)), (1900001, tab 1 (sizV)), (1900002, tab 2 (H8.list.map u32V)), (1900003, tab 3 (K64.map u32V)), (1000501, old w₀.heap.size (memR (some ad) (nodsV T))), (1000711, old w₀.heap.size (memR (some pd) (pathV n x (hg n + 1))))]) (fun i => T.length - i) 0 ?_ ?_ ?_
 ·exact ⟨Nat.zero_le _, fun k h => absurd h (Nat.not_lt_zero _)⟩
 ·exact (KC 0 rfl (KC 2 rfl (KC 3 rfl (KC 9 rfl (KC 18 rfl (KC 19 rfl (KE 20 rfl (by rfl) (KE 1000009 rfl (by rfl) (KC 1900001 rfl (KC 1900002 rfl (KC 1900003 rfl (KC 1000501 rfl (KC 1000711 rfl KN)))))))))))))
 intro i hG
 refine GV rfl (QS ?_);refine A.cond rfl (fun hc21 => ?_) (fun hc21 => ?_)
 ·have hi : i < T.length := by simp at hc21; omega
  have hih : i < hg n + 1 := by omega
  refine QK (QSB (GS (TN 3 (RM rfl ?_))));refine RS (ok_indexR (s := 1000501) i U30 infoN rfl rfl (by decide) rfl hi (by rw [nods_len hT]; omega)) ?_;refine RS (ok_loadElemT 274 U57 rfl size57 (by rw [nods_at hT hi, (hT.at _).len]; exact Nat.le_refl _) rfl) ?_; refine RZ (aggV (ndAt T i).v) (congrArg aggV (by rw [nods_at hT hi]; exact List.take_of_length_le (Nat.le_of_eq (hT.at _).len))) ?_;refine RN ?_;refine ZN 1000011 zero57 fun b11 ⟨hBb11, hb11⟩ => ?_
  refine TF 5 (RVN 1 rfl ?_);refine ⟨_, eff_storeA (n := 84) (s := 1000011) (size57.of ((hT.at i).len)) rfl rfl (NodT.one _) hBb11 rfl (by rw [(hT.at i).len]; rfl) (LT 1000009 rfl (LO 1000501 rfl (LO 1000711 rfl (LQ 1900001 rfl (LQ 1900002 rfl (LQ 1900003 rfl (LW [0, 2, 3, 9, 10, 11, 18, 19, 20] rfl))))))), ?_⟩
  refine TL (RN (QS (GTD (RV 3 rfl ?_))));refine RS (ok_indexR (s := 1000711) (i) U112 infoPP rfl rfl (by decide) rfl hih (by rw [pathV_length (Nat.le_refl _)]; omega)) ?_;refine RS (ok_loadElemT 2 U67 rfl size67 (by rw [pathV_at hih]; exact Nat.le_refl _) rfl) ?_; refine RZ (aggV (plV (hg n - (i)) (pidx n x (i)))) (congrArg aggV (by rw [pathV_at hih]; rfl)) ?_;refine RL 1000011 U57 rfl rfl (size57.of ((hT.at i).len)) ?_;refine RS (ok_call (checkFit_fn n h1 h2 (hg n - i) (pidx n x i) (ndAt T i) (hT.at i)) (A3 rfl rfl rfl)) ?_;refine RVN 1 rfl ?_;refine GT (RM rfl ?_);refine RS (ok_neIf U104 rfl) ?_;refine RN ?_;refine A.cond rfl (fun hc33 => ?_) (fun hc33 => ?_)
  ·have hf : fitA n (hg n - i) (pidx n x i) (ndAt T i) = false := by simpa using hc33
   obtain rfl := heN i hi hG.2 (by rw [verE_17 hf]; decide)
   refine GT (RM rfl ?_);refine RZ (wrongV (hg n - i) (pidx n x i) (verE n d x T i)) (by rw [if_neg (by simp [hf]), verE_17 hf]) ?_;refine RVN 1 rfl ?_;refine A.ret (End.ret_then (End.ret_block (End.ret_then (End.ret_then (End.ret_block (End.ret_then ?_))))));exact End.ret1 rfl rfl (Le.refl _)
  ·have hf : fitA n (hg n - i) (pidx n x i) (ndAt T i) = true := by simpa using hc33
   have hck : (ndAt T i).ck = 0 := (ft_zero h1 h2 (fitA_iff.1 hf).2.2).1
   refine QK (QS (GTD (RL 1000011 U57 rfl rfl (size57.of ((hT.at i).len)) ?_)));refine RS (ok_callM (digestOf_fn (ndAt T i) (hT.at i) hck) (Sub.cons rfl (Sub.cons rfl (Sub.cons rfl KN))) tabN_v (A1 rfl)) ?_;refine RL 1000009 U40 rfl rfl (size40.of (by rw [List.length_map, wantV_len hd hT])) ?_;refine RS (ok_neqT (n := 4) (decide (sha (ndAt T i).bl = wantV n d x T (i))) flat40r (by decide) (by kernel_rfl) (by kernel_rfl) rfl rfl (kinB (sha_length _)) (kinB (wantV_len hd hT i)) (by rw [decide_eq_true_iff]; exact ⟨fun h => congrArg _ h, fun h => bytes_inj h⟩)) ?_;refine RN ?_;refine A.cond rfl (fun hc38 => ?_) (fun hc38 => ?_)
   ·have hne : sha (ndAt T i).bl ≠ wantV n d x T (i) := by simpa using hc38
    obtain rfl := heN i hi hG.2 (by rw [verE_9 hf hne]; decide)
    refine GT (RV 2 rfl ?_);refine RS (ok_indexR (s := 1000711) (i) U112 infoPP rfl rfl (by decide) rfl hih (by rw [pathV_length (Nat.le_refl _)]; omega)) ?_;refine RS (ok_loadElemT 2 U67 rfl size67 (by rw [pathV_at hih]; exact Nat.le_refl _) rfl) ?_; refine RZ (aggV (plV (hg n - (i)) (pidx n x (i)))) (congrArg aggV (by rw [pathV_at hih]; rfl)) ?_;refine RS (ok_iface U140 rfl rfl) ?_;refine RS (ok_litS [(0, aggV (plV (hg n - i) (pidx n x i))), (1, .iface 140 (.int .i64 9))] [nI (hg n - i), nI (pidx n x i), .iface 140 (.int .i64 9)] ⟨rfl, rfl, rfl, rfl, trivial⟩ (buildW _ _ _)) ?_;refine RS (ok_iface U149 rfl rfl) ?_; refine RZ (wrongV (hg n - i) (pidx n x i) (verE n d x T i)) (by rw [verE_9 hf hne]) ?_;refine RVN 1 rfl ?_;refine A.sub (Sv [8, 1000009, 1000011, 1000501, 1000711, 1900001, 1900002, 1900003] rfl) ?_;refine A.ret (End.ret_then (End.ret_block (End.ret_then (End.ret_then (End.ret_block (End.ret_then ?_))))));exact End.ret1 rfl rfl (Le.refl _)
   ·have heq : sha (ndAt T i).bl = wantV n d x T (i) := by simpa using hc38
    refine QK (QS (GT (RV 2 rfl ?_)));refine RS (ok_lenV U112 rfl) ?_;refine RB rfl rfl rfl ?_;refine RZ (nI (hg n)) (wrap_eq (by omega) (by omega)) ?_;refine RB rfl rfl rfl ?_;refine RZ (.bool (decide (i = hg n))) (congrArg Value.bool (decide_eq_decide.2 (by omega))) ?_;refine RN (A.sub (Sv [0, 2, 3, 9, 10, 11, 18, 19, 20, 50, 1000009, 1000011, 1000501, 1000711, 1900001, 1900002, 1900003] rfl) ?_);refine A.cond rfl (fun hc50 => ?_) (fun hc50 => ?_)
    ·have hlast : i = hg n := of_decide_eq_true hc50
     obtain rfl : e = .nilIface := he0 fun k hk => (Nat.lt_or_ge k i).elim (hG.2 k) fun h => by rw [show k = i from by omega]; exact verE_0 hf heq fun hlt => absurd hlt (by omega)
     refine A.exit (End.exit_then (End.exit_past (by decide) (End.exit_then (End.exit_then (End.exit_here (EN (GV rfl (A.ret ?_))))))));exact End.ret1 rfl rfl (Le.refl _)
    ·have hlt : i < hg n := by have := of_decide_eq_false hc50; omega
     have hi1 : i + 1 < hg n + 1 := by omega
     refine QK (GS (TN 11 (RV 4 rfl ?_)));refine RZ (nI (i + 1)) (wrap_eq (by omega) (by omega)) ?_;refine RS (ok_indexR (s := 1000711) (i + 1) U112 infoPP rfl rfl (by decide) rfl hi1 (by rw [pathV_length (Nat.le_refl _)]; omega)) ?_;refine RS (ok_loadElemT 2 U67 rfl size67 (by rw [pathV_at hi1]; exact Nat.le_refl _) rfl) ?_; refine RZ (aggV (plV (hg n - (i + 1)) (pidx n x (i + 1)))) (congrArg aggV (by rw [pathV_at hi1]; rfl)) ?_;refine RS (ok_call (Parent_up n h1 h2 (hg n - (i + 1)) (pidx n x (i + 1)) (Nat.sub_le _ _) (pidx_lt hx _) (by omega)) (A2 rfl rfl)) ?_;refine RVN 4 rfl ?_;refine ZN 1000013 zero67 fun b13 ⟨hBb13, hb13⟩ => ?_
     refine TF 12 (RN ?_); refine ZA 1000013 (size67.of rfl) hBb13 rfl rfl rfl (LT 1000009 rfl (LT 1000011 rfl (LO 1000501 rfl (LO 1000711 rfl (LQ 1900001 rfl (LQ 1900002 rfl (LQ 1900003 rfl (LW [0, 2, 3, 9, 10, 11, 18, 19, 20, 60, 61] rfl)))))))) ?_;refine TL (RVN 2 rfl ?_);refine GS (TN 4 (RM rfl ?_));refine RS (ok_field field57_3 (by decide) rfl) ?_;refine RS (ok_indexN (wch n x i) U55 size54 rfl rfl (rfl) (Nat.mod_lt _ (by decide))) ?_;refine RS (ok_loadP (s := 1000011) (by decide) U54 rfl size54 rfl rfl (by rw [(hT.at i).len]; have : wch n x i < 4 := Nat.mod_lt _ (by decide); omega) (ent_part (hT.at i) (Nat.mod_lt _ (by decide)))) ?_;refine RN ?_;refine ZN 1000016 zero54 fun b16 ⟨hBb16, hb16⟩ => ?_
     refine TF 5 (RN ?_);refine ⟨_, eff_storeA (n := 84) (s := 1000016) (size54.of (((hT.at i).e _).len)) rfl rfl (EntT.one _) hBb16 rfl (by rw [((hT.at i).e _).len]; rfl) (LT 1000009 rfl (LT 1000011 rfl (LT 1000013 rfl (LO 1000501 rfl (LO 1000711 rfl (LQ 1900001 rfl (LQ 1900002 rfl (LQ 1900003 rfl (LW [0, 2, 3, 9, 10, 16, 18, 19, 20] rfl))))))))), ?_⟩
     refine TL (RN (QS (GT (RL 1000016 U54 rfl rfl (size54.of (((hT.at i).e _).len)) ?_))));refine RS (ok_call (isZero_fn ((ndAt T i).e (wch n x i)) ((hT.at i).e _)) (A1 rfl)) ?_;refine RV 2 rfl ?_;refine RS (ok_lenV U30 rfl) ?_;refine RB rfl rfl rfl ?_;refine RZ (.int .i64 ((T.length : Int) - 1)) (congrArg (Value.int .i64) (wrap_i64 (by omega) (by omega))) ?_;refine RB rfl rfl rfl ?_;refine RZ (.bool (decide (i + 1 = T.length))) (congrArg Value.bool (decide_eq_decide.2 (by omega))) ?_;refine RS (ok_neBoolS U4 rfl rfl) ?_;refine RN (A.sub (Sv [0, 2, 3, 9, 10, 16, 18, 19, 20, 73, 1000009, 1000011, 1000013, 1000016, 1000501, 1000711, 1900001, 1900002, 1900003] rfl) ?_);refine A.cond rfl (fun hc73 => ?_) (fun hc73 => ?_)
     ·have hzz : decide ((ndAt T i).e (wch n x i)).Z ≠ decide (i + 1 = T.length) := by simpa using hc73
      obtain rfl := heN i hi hG.2 (by rw [verE_9z hf heq hlt hzz]; decide)
      refine GT (RV 2 rfl ?_);refine RS (ok_indexR (s := 1000711) (i) U112 infoPP rfl rfl (by decide) rfl hih (by rw [pathV_length (Nat.le_refl _)]; omega)) ?_;refine RS (ok_loadElemT 2 U67 rfl size67 (by rw [pathV_at hih]; exact Nat.le_refl _) rfl) ?_; refine RZ (aggV (plV (hg n - (i)) (pidx n x (i)))) (congrArg aggV (by rw [pathV_at hih]; rfl)) ?_;refine RS (ok_iface U140 rfl rfl) ?_;refine RS (ok_litS [(0, aggV (plV (hg n - i) (pidx n x i))), (1, .iface 140 (.int .i64 9))] [nI (hg n - i), nI (pidx n x i), .iface 140 (.int .i64 9)] ⟨rfl, rfl, rfl, rfl, trivial⟩ (buildW _ _ _)) ?_;refine RS (ok_iface U149 rfl rfl) ?_; refine RZ (wrongV (hg n - i) (pidx n x i) (verE n d x T i)) (by rw [verE_9z hf heq hlt hzz]) ?_;refine RVN 1 rfl ?_;refine A.ret (End.ret_then (End.ret_block (End.ret_then (End.ret_then (End.ret_block (End.ret_then ?_))))));exact End.ret1 rfl rfl (Le.refl _)
     ·have hzz : decide ((ndAt T i).e (wch n x i)).Z = decide (i + 1 = T.length) := by simpa using hc73
      have hz : verE n d x T i = 0 := verE_0 hf heq fun _ => hzz
      refine QK (GE (TF 2 (RS (ok_field field54_1 (by decide) rfl) ?_)));refine RS (ok_loadP (s := 1000016) (by decide) U40 rfl size40 rfl rfl (by rw [((hT.at i).e _).len]; decide) (ent_t ((hT.at i).e _))) ?_;refine RN ?_;refine ⟨_, eff_storeA (n := 84) (s := 1000009) (size40.of (by first | (rw [List.length_map, hd]; done) | (rw [List.length_map, ((hT.at i).e _).t]; done))) rfl rfl (all_bytes _) hBb9 rfl (by first | (rw [List.length_map, hd]; rfl) | (rw [List.length_map, List.length_map, ((hT.at i).e _).t, wantV_len hd hT])) (LT 1000011 rfl (LT 1000013 rfl (LT 1000016 rfl (LO 1000501 rfl (LO 1000711 rfl (LQ 1900001 rfl (LQ 1900002 rfl (LQ 1900003 rfl (LW [0, 2, 3, 9, 18, 19, 20] rfl))))))))), ?_⟩
      refine TL (RN (End.normal_block (EN (GTE (RB rfl rfl rfl ?_)))));refine RZ (nI (i + 1)) (wrap_eq (by omega) (by omega)) ?_;refine RVN 1 rfl ?_;refine End.normal_then ?_;refine End.again (i + 1) ?_ ?_ ?_
      ·exact ⟨by omega, fun k hk => (Nat.lt_or_ge k i).elim (hG.2 k) fun h => by rw [show k = i from by omega]; exact hz⟩
      ·show _ - _ < _ - _; omega
      ·exact (KC 0 rfl (KC 2 rfl (KC 3 rfl (KC 9 rfl (KC 18 rfl (KC 19 rfl (KC 20 rfl (KE 1000009 rfl (by rfl) (KC 1900001 rfl (KC 1900002 rfl (KC 1900003 rfl (KC 1000501 rfl (KC 1000711 rfl KN)))))))))))))
 ·have hi2 : i = T.length := by have := hG.1; simp at hc21; omega
  obtain rfl : e = .nilIface := he0 (by subst hi2; exact hG.2)
  refine A.exit (End.exit_then (End.exit_then (End.exit_here (EN (GV rfl (A.ret ?_))))));exact End.ret1 rfl rfl (Le.refl _)
theorem Ver_m (n : Int) (hm : ¬ (1 ≤ n ∧ n ≤ 4096)) (x : Int) (d : List UInt8) (hd : d.length = 32) (A₀ : Option Addr) (T : List NodT) (hT : FitT T) (c : Nat)  : FnM Tryz.prog 25 (tabE ++ trO A₀ T) [.v (.int .i64 (n)), .v (aggV (d.map byteV)), .v (aggV [.int .i64 x, .slice A₀ T.length c])] (.v (.tuple #[aggV RecT.zero.v, .int .i64 1])) := by
 refine FnM.ofO Tryz.func25 rfl (by kernel_rfl) Tryz.ntmps25 (by simp) (by decide) (fun w => [(0, .v (.int .i64 (n))), (1, .v (aggV (d.map byteV))), (2, .v (aggV [.int .i64 x, .slice A₀ T.length c])), (1900000, tabH 0 ([errT])), (1900001, tab 1 (sizV)), (1900002, tab 2 (H8.list.map u32V)), (1900003, tab 3 (K64.map u32V)), (1000501, old w.heap.size (memR A₀ (nodsV T)))]) (fun w => (StartMO.v rfl (StartMO.v rfl (StartMO.v rfl (StartMO.m (by simp [tabE]) (by decide) (StartMO.m (by simp [tabE]) (by decide) (StartMO.m (by simp [tabE]) (by decide) (StartMO.m (by simp [tabE]) (by decide) (StartMO.mo (by simp [tabE]) (by decide) StartMO.nil))))))))) fun w₀ hM => ?_
 have htab := tabE_hi fun p hp => hM p (List.mem_append_left _ hp)
 refine GS (TN 0 (RN ?_));refine ZB 1000004 rfl fun b4 ⟨hBb4, hb4⟩ => ?_
 refine TN 1 (RN ?_);refine ZB 1000005 rfl fun b5 ⟨hBb5, hb5⟩ => ?_
 refine TN 2 (RN ?_);refine ZN 1000006 zero51 fun b6 ⟨hBb6, hb6⟩ => ?_
 refine TL (RVN 1 rfl ?_);refine GT (RM rfl ?_);refine RS (ok_field field69_0 (by decide) rfl) ?_;refine RLV 1000005 U3 rfl rfl rfl ?_;refine RS (ok_call (Path_bad n hm x) (A2 rfl rfl)) ?_;refine RVN 5 rfl ?_;refine QSB (GT (RV 2 rfl ?_));refine RT ?_;refine RVN 1 rfl ?_;refine A.yes rfl ?_;refine GS (TF 2 (RS (ok_lit [] (RecT.v RecT.zero) (fun _ _ => rfl) (by kernel_rfl)) ?_));refine RVN 1 rfl ?_;refine ⟨_, eff_storeA (n := 77) (s := 1000006) (size51.of (RecT.zero_fit.len)) rfl rfl (RecT.one _) hBb6 rfl (by rw [RecT.zero_fit.len]; rfl) (LT 1000004 rfl (LT 1000005 rfl (LO 1000501 rfl (LeftS.cons (t := 1900000) rfl (Surv.tabH (by omega)) (LQ 1900001 rfl (LQ 1900002 rfl (LQ 1900003 rfl (LW [6, 25] rfl)))))))), ?_⟩
 refine TL (RVN 1 rfl ?_);refine A.ret (End.ret_block (End.ret_then ?_));exact End.cellV (s := 1000006) rfl U51 rfl (size51.of (RecT.zero_fit.len)) rfl rfl rfl
theorem Ver_b (n : Nat) (h1 : 1 ≤ n) (h2 : n ≤ 4096) (x : Int) (hx : ¬ (0 ≤ x ∧ x < n)) (d : List UInt8) (hd : d.length = 32) (A₀ : Option Addr) (T : List NodT) (hT : FitT T) (c : Nat)  : FnM Tryz.prog 25 (tabE ++ trO A₀ T) [.v (nI (n)), .v (aggV (d.map byteV)), .v (aggV [.int .i64 x, .slice A₀ T.length c])] (.v (.tuple #[aggV RecT.zero.v, .int .i64 1])) := by
 refine FnM.ofO Tryz.func25 rfl (by kernel_rfl) Tryz.ntmps25 (by simp) (by decide) (fun w => [(0, .v (nI (n))), (1, .v (aggV (d.map byteV))), (2, .v (aggV [.int .i64 x, .slice A₀ T.length c])), (1900000, tabH 0 ([errT])), (1900001, tab 1 (sizV)), (1900002, tab 2 (H8.list.map u32V)), (1900003, tab 3 (K64.map u32V)), (1000501, old w.heap.size (memR A₀ (nodsV T)))]) (fun w => (StartMO.v rfl (StartMO.v rfl (StartMO.v rfl (StartMO.m (by simp [tabE]) (by decide) (StartMO.m (by simp [tabE]) (by decide) (StartMO.m (by simp [tabE]) (by decide) (StartMO.m (by simp [tabE]) (by decide) (StartMO.mo (by simp [tabE]) (by decide) StartMO.nil))))))))) fun w₀ hM => ?_
 have htab := tabE_hi fun p hp => hM p (List.mem_append_left _ hp)
 refine GS (TN 0 (RN ?_));refine ZB 1000004 rfl fun b4 ⟨hBb4, hb4⟩ => ?_
 refine TN 1 (RN ?_);refine ZB 1000005 rfl fun b5 ⟨hBb5, hb5⟩ => ?_
 refine TN 2 (RN ?_);refine ZN 1000006 zero51 fun b6 ⟨hBb6, hb6⟩ => ?_
 refine TL (RVN 1 rfl ?_);refine GT (RM rfl ?_);refine RS (ok_field field69_0 (by decide) rfl) ?_;refine RLV 1000005 U3 rfl rfl rfl ?_;refine RS (ok_call (Path_no n h1 h2 x hx) (A2 rfl rfl)) ?_;refine RVN 5 rfl ?_;refine QSB (GT (RV 2 rfl ?_));refine RT ?_;refine RVN 1 rfl ?_;refine A.yes rfl ?_;refine GS (TF 2 (RS (ok_lit [] (RecT.v RecT.zero) (fun _ _ => rfl) (by kernel_rfl)) ?_));refine RVN 1 rfl ?_;refine ⟨_, eff_storeA (n := 77) (s := 1000006) (size51.of (RecT.zero_fit.len)) rfl rfl (RecT.one _) hBb6 rfl (by rw [RecT.zero_fit.len]; rfl) (LT 1000004 rfl (LT 1000005 rfl (LO 1000501 rfl (LeftS.cons (t := 1900000) rfl (Surv.tabH (by omega)) (LQ 1900001 rfl (LQ 1900002 rfl (LQ 1900003 rfl (LW [6, 25] rfl)))))))), ?_⟩
 refine TL (RVN 1 rfl ?_);refine A.ret (End.ret_block (End.ret_then ?_));exact End.cellV (s := 1000006) rfl U51 rfl (size51.of (RecT.zero_fit.len)) rfl rfl rfl
theorem Ver_0 (n : Nat) (h1 : 1 ≤ n) (h2 : n ≤ 4096) (x : Nat) (hx : x < n) (d : List UInt8) (hd : d.length = 32) (A₀ : Option Addr) (T : List NodT) (hT : FitT T) (c : Nat) (h0 : T.length = 0)  : FnM Tryz.prog 25 (tabE ++ trO A₀ T) [.v (nI (n)), .v (aggV (d.map byteV)), .v (aggV [nI x, .slice A₀ T.length c])] (.v (.tuple #[aggV RecT.zero.v, .int .i64 1])) := by
 refine FnM.ofO Tryz.func25 rfl (by kernel_rfl) Tryz.ntmps25 (by simp) (by decide) (fun w => [(0, .v (nI (n))), (1, .v (aggV (d.map byteV))), (2, .v (aggV [nI x, .slice A₀ T.length c])), (1900000, tabH 0 ([errT])), (1900001, tab 1 (sizV)), (1900002, tab 2 (H8.list.map u32V)), (1900003, tab 3 (K64.map u32V)), (1000501, old w.heap.size (memR A₀ (nodsV T)))]) (fun w => (StartMO.v rfl (StartMO.v rfl (StartMO.v rfl (StartMO.m (by simp [tabE]) (by decide) (StartMO.m (by simp [tabE]) (by decide) (StartMO.m (by simp [tabE]) (by decide) (StartMO.m (by simp [tabE]) (by decide) (StartMO.mo (by simp [tabE]) (by decide) StartMO.nil))))))))) fun w₀ hM => ?_
 have htab := tabE_hi fun p hp => hM p (List.mem_append_left _ hp)
 refine GS (TN 0 (RN ?_));refine ZB 1000004 rfl fun b4 ⟨hBb4, hb4⟩ => ?_
 refine TN 1 (RN ?_);refine ZB 1000005 rfl fun b5 ⟨hBb5, hb5⟩ => ?_
 refine TN 2 (RN ?_);refine ZN 1000006 zero51 fun b6 ⟨hBb6, hb6⟩ => ?_
 refine TL (RVN 1 rfl ?_);refine GS (TN 3 (RM rfl ?_));refine RS (ok_field field69_0 (by decide) rfl) ?_;refine RLV 1000005 U3 rfl rfl rfl ?_;refine RN ?_;refine ZM 1000018 (fun B' => ok_callB (Path_fnB n h1 h2 x hx) newD_mono (A2 rfl rfl)) rfl fun b18 ⟨hBb18, hb18⟩ => ?_
 have hlt_b4_b18 := hb18 1000004 b4 _ _ rfl
 have hlt_b5_b18 := hb18 1000005 b5 _ _ rfl
 have hlt_b6_b18 := hb18 1000006 b6 _ _ rfl
 refine TL (RVN 5 rfl ?_);refine QSB (GT (RV 2 rfl ?_));refine RF ?_;refine RVN 1 rfl ?_;refine A.no rfl ?_;refine GT (RS (ok_field field69_1 (by decide) rfl) ?_);refine RLV 1000005 U30 rfl rfl rfl ?_;refine RS (ok_lenV U30 rfl) ?_;refine RB rfl rfl rfl ?_;refine RZ (.bool true) (congrArg Value.bool (decide_eq_true (by omega))) ?_;refine RVN 9 rfl ?_;refine A.sub (Sv [0, 4, 5, 6, 8, 26, 1000004, 1000005, 1000006, 1000018, 1000501, 1900000, 1900001, 1900002, 1900003] rfl) ?_;refine A.yes rfl ?_;refine GS (TF 1 (RS (ok_lit [] (RecT.v RecT.zero) (fun _ _ => rfl) (by kernel_rfl)) ?_));refine RN ?_;refine ⟨_, eff_storeA (n := 77) (s := 1000006) (size51.of (RecT.zero_fit.len)) rfl rfl (RecT.one _) hBb6 rfl (by rw [RecT.zero_fit.len]; rfl) (LV 6 rfl (LT 1000004 rfl (LT 1000005 rfl (LT 1000018 rfl (LO 1000501 rfl (LeftS.cons (t := 1900000) rfl (Surv.tabH (by omega)) (LQ 1900001 rfl (LQ 1900002 rfl (LQ 1900003 rfl LN))))))))), ?_⟩
 refine TL (RVN 1 rfl ?_);refine A.ret (End.ret_block (End.ret_then ?_));exact End.cellV (s := 1000006) rfl U51 rfl (size51.of (RecT.zero_fit.len)) rfl rfl rfl
theorem Ver_l (n : Nat) (h1 : 1 ≤ n) (h2 : n ≤ 4096) (x : Nat) (hx : x < n) (d : List UInt8) (hd : d.length = 32) (A₀ : Option Addr) (T : List NodT) (hT : FitT T) (c : Nat) (h0 : T.length ≠ 0) (hl : hg n + 1 < T.length)  : FnM Tryz.prog 25 (tabE ++ trO A₀ T) [.v (nI (n)), .v (aggV (d.map byteV)), .v (aggV [nI x, .slice A₀ T.length c])] (.v (.tuple #[aggV RecT.zero.v, .int .i64 1])) := by
 refine FnM.ofO Tryz.func25 rfl (by kernel_rfl) Tryz.ntmps25 (by simp) (by decide) (fun w => [(0, .v (nI (n))), (1, .v (aggV (d.map byteV))), (2, .v (aggV [nI x, .slice A₀ T.length c])), (1900000, tabH 0 ([errT])), (1900001, tab 1 (sizV)), (1900002, tab 2 (H8.list.map u32V)), (1900003, tab 3 (K64.map u32V)), (1000501, old w.heap.size (memR A₀ (nodsV T)))]) (fun w => (StartMO.v rfl (StartMO.v rfl (StartMO.v rfl (StartMO.m (by simp [tabE]) (by decide) (StartMO.m (by simp [tabE]) (by decide) (StartMO.m (by simp [tabE]) (by decide) (StartMO.m (by simp [tabE]) (by decide) (StartMO.mo (by simp [tabE]) (by decide) StartMO.nil))))))))) fun w₀ hM => ?_
 have htab := tabE_hi fun p hp => hM p (List.mem_append_left _ hp)
 refine GS (TN 0 (RN ?_));refine ZB 1000004 rfl fun b4 ⟨hBb4, hb4⟩ => ?_
 refine TN 1 (RN ?_);refine ZB 1000005 rfl fun b5 ⟨hBb5, hb5⟩ => ?_
 refine TN 2 (RN ?_);refine ZN 1000006 zero51 fun b6 ⟨hBb6, hb6⟩ => ?_
 refine TL (RVN 1 rfl ?_);refine GS (TN 3 (RM rfl ?_));refine RS (ok_field field69_0 (by decide) rfl) ?_;refine RLV 1000005 U3 rfl rfl rfl ?_;refine RN ?_;refine ZM 1000018 (fun B' => ok_callB (Path_fnB n h1 h2 x hx) newD_mono (A2 rfl rfl)) rfl fun b18 ⟨hBb18, hb18⟩ => ?_
 have hlt_b4_b18 := hb18 1000004 b4 _ _ rfl
 have hlt_b5_b18 := hb18 1000005 b5 _ _ rfl
 have hlt_b6_b18 := hb18 1000006 b6 _ _ rfl
 refine TL (RVN 5 rfl ?_);refine QSB (GT (RV 2 rfl ?_));refine RF ?_;refine RVN 1 rfl ?_;refine A.no rfl ?_;refine GT (RS (ok_field field69_1 (by decide) rfl) ?_);refine RLV 1000005 U30 rfl rfl rfl ?_;refine RS (ok_lenV U30 rfl) ?_;refine RB rfl rfl rfl ?_;refine RZ (.bool false) (congrArg Value.bool (decide_eq_false (by omega))) ?_;refine RM rfl ?_;refine RQ (ok_field field69_1 (by decide) rfl) ?_;refine RQ (ok_loadV (s := 1000005) (by decide) U30 rfl rfl rfl (rfl)) ?_;refine RQ (ok_lenV U30 rfl) ?_;refine RQ (ok_move rfl) ?_;refine RQ (ok_lenV U112 rfl) ?_;refine RQ (ok_bin rfl rfl rfl) ?_;refine RZ (.bool true) (congrArg Value.bool (by simp; omega)) ?_;refine RVN 2 rfl ?_;refine A.sub (Sv [0, 4, 5, 6, 8, 26, 1000004, 1000005, 1000006, 1000018, 1000501, 1900000, 1900001, 1900002, 1900003] rfl) ?_;refine A.yes rfl ?_;refine GS (TF 1 (RS (ok_lit [] (RecT.v RecT.zero) (fun _ _ => rfl) (by kernel_rfl)) ?_));refine RN ?_;refine ⟨_, eff_storeA (n := 77) (s := 1000006) (size51.of (RecT.zero_fit.len)) rfl rfl (RecT.one _) hBb6 rfl (by rw [RecT.zero_fit.len]; rfl) (LV 6 rfl (LT 1000004 rfl (LT 1000005 rfl (LT 1000018 rfl (LO 1000501 rfl (LeftS.cons (t := 1900000) rfl (Surv.tabH (by omega)) (LQ 1900001 rfl (LQ 1900002 rfl (LQ 1900003 rfl LN))))))))), ?_⟩
 refine TL (RVN 1 rfl ?_);refine A.ret (End.ret_block (End.ret_then ?_));exact End.cellV (s := 1000006) rfl U51 rfl (size51.of (RecT.zero_fit.len)) rfl rfl rfl
set_option maxHeartbeats 1000000 in
theorem Ver_i (n : Nat) (h1 : 1 ≤ n) (h2 : n ≤ 4096) (x : Nat) (hx : x < n) (d : List UInt8) (hd : d.length = 32) (ad : Addr) (T : List NodT) (hT : FitT T) (c : Nat) (hl0 : 0 < T.length) (hlh : T.length ≤ hg n + 1) (i : Nat) (hi : i < T.length) (hz : ∀ k, k < i → verE n d x T k = 0) (h0 : ¬ verE n d x T i = 0)  : FnM Tryz.prog 25 (tabE ++ trO (some ad) T) [.v (nI (n)), .v (aggV (d.map byteV)), .v (aggV [nI x, .slice (some ad) T.length c])] (.v (.tuple #[aggV RecT.zero.v, .int .i64 (verE n d x T i)])) := by
 refine FnM.ofO Tryz.func25 rfl (by kernel_rfl) Tryz.ntmps25 (by simp) (by decide) (fun w => [(0, .v (nI (n))), (1, .v (aggV (d.map byteV))), (2, .v (aggV [nI x, .slice (some ad) T.length c])), (1900000, tabH 0 ([errT])), (1900001, tab 1 (sizV)), (1900002, tab 2 (H8.list.map u32V)), (1900003, tab 3 (K64.map u32V)), (1000501, old w.heap.size (memR ((some ad)) (nodsV T)))]) (fun w => (StartMO.v rfl (StartMO.v rfl (StartMO.v rfl (StartMO.m (by simp [tabE]) (by decide) (StartMO.m (by simp [tabE]) (by decide) (StartMO.m (by simp [tabE]) (by decide) (StartMO.m (by simp [tabE]) (by decide) (StartMO.mo (by simp [tabE]) (by decide) StartMO.nil))))))))) fun w₀ hM => ?_
 have htab := tabE_hi fun p hp => hM p (List.mem_append_left _ hp)
 refine GS (TN 0 (RN ?_));refine ZB 1000004 rfl fun b4 ⟨hBb4, hb4⟩ => ?_
 refine TN 1 (RN ?_);refine ZB 1000005 rfl fun b5 ⟨hBb5, hb5⟩ => ?_
 refine TN 2 (RN ?_);refine ZN 1000006 zero51 fun b6 ⟨hBb6, hb6⟩ => ?_
 refine TL (RVN 1 rfl ?_);refine GS (TN 3 (RM rfl ?_));refine RS (ok_field field69_0 (by decide) rfl) ?_;refine RLV 1000005 U3 rfl rfl rfl ?_;refine RN ?_;refine ZM 1000018 (fun B' => ok_callB (Path_fnB n h1 h2 x hx) newD_mono (A2 rfl rfl)) rfl fun b18 ⟨hBb18, hb18⟩ => ?_
 have hlt_b4_b18 := hb18 1000004 b4 _ _ rfl
 have hlt_b5_b18 := hb18 1000005 b5 _ _ rfl
 have hlt_b6_b18 := hb18 1000006 b6 _ _ rfl
 refine TL (RVN 5 rfl ?_);refine A.blkRow (k := 1000018) (k' := 1000712) (ys := []) (by rw [List.append_nil]; rfl) ?_;refine QSB (GT (RV 2 rfl ?_));refine RF ?_;refine RVN 1 rfl ?_;refine A.no rfl ?_;refine GT (RS (ok_field field69_1 (by decide) rfl) ?_);refine RLV 1000005 U30 rfl rfl rfl ?_;refine RS (ok_lenV U30 rfl) ?_;refine RB rfl rfl rfl ?_;refine RZ (.bool false) (congrArg Value.bool (decide_eq_false (by omega))) ?_;refine RM rfl ?_;refine RQ (ok_field field69_1 (by decide) rfl) ?_;refine RQ (ok_loadV (s := 1000005) (by decide) U30 rfl rfl rfl (rfl)) ?_;refine RQ (ok_lenV U30 rfl) ?_;refine RQ (ok_move rfl) ?_;refine RQ (ok_lenV U112 rfl) ?_;refine RQ (ok_bin rfl rfl rfl) ?_;refine RZ (.bool false) (congrArg Value.bool (by simp; omega)) ?_;refine RVN 2 rfl ?_;refine A.sub (Sv [0, 4, 5, 6, 8, 26, 1000004, 1000005, 1000006, 1000018, 1000501, 1000712, 1900000, 1900001, 1900002, 1900003] rfl) ?_;refine A.no rfl ?_;refine A.skip (End.normal_block (EN (QS (GT (RM rfl ?_)))));refine RL 1000004 U40 rfl rfl (size40.of (by rw [List.length_map, hd])) ?_;refine RM rfl ?_;refine RS (ok_field field69_1 (by decide) rfl) ?_;refine RLV 1000005 U30 rfl rfl rfl ?_;refine RS (ok_callMK (cProof_fn n h1 h2 x hx d hd ⟨b18, 0, none⟩ (hg n + 1) ad T hT c hl0 hlh (wrongV (hg n - i) (pidx n x i) (verE n d x T i)) (fun ha => absurd (ha i hi) h0) (fun k hk hb hb0 => by rcases Nat.lt_trichotomy k i with hlt | rfl | hlt; exact absurd (hz k hlt) hb0; rfl; exact absurd (hb i hlt) h0)) (SubK.app (SubK.of (Sub.cons rfl (Sub.cons rfl (Sub.cons rfl KN))) tabN_v) (SubK.cons (k := 1000501) (by decide) rfl Le.unold (SubK.cons (k := 1000712) (by decide) rfl (Le.refl _) SubK.nil))) (Args.cons rfl (Le.refl _) (A3 rfl rfl rfl))) ?_;refine RVN 1 rfl ?_;refine GT (RM rfl ?_);refine RS (ok_neHeld U104 rfl) ?_;refine RN (A.yes rfl ?_);refine GS (TF 3 (RS (ok_lit [] (RecT.v RecT.zero) (fun _ _ => rfl) (by kernel_rfl)) ?_));refine RM rfl ?_;refine RS (ok_callMK (errnoOf_wrong (hg n - i) (pidx n x i) (verE n d x T i)) (SubK.of (Sub.cons rfl (Sub.cons rfl (Sub.cons rfl (Sub.cons rfl KN)))) tabE_v) (A1 rfl)) ?_;refine RN ?_;refine ⟨_, eff_storeA (n := 77) (s := 1000006) (size51.of (RecT.zero_fit.len)) rfl rfl (RecT.one _) hBb6 rfl (by rw [RecT.zero_fit.len]; rfl) (LT 1000004 rfl (LT 1000005 rfl (LT 1000018 rfl (LO 1000501 rfl (LeftS.cons (t := 1900000) rfl (Surv.tabH (by omega)) (LQ 1900001 rfl (LQ 1900002 rfl (LQ 1900003 rfl (LW [6, 50] rfl))))))))), ?_⟩
 refine TL (RVN 1 rfl ?_);refine A.ret (End.ret_then ?_);exact End.cellV (s := 1000006) rfl U51 rfl (size51.of (RecT.zero_fit.len)) rfl rfl rfl
set_option maxHeartbeats 1000000 in
theorem Ver_s (n : Nat) (h1 : 1 ≤ n) (h2 : n ≤ 4096) (x : Nat) (hx : x < n) (d : List UInt8) (hd : d.length = 32) (ad : Addr) (T : List NodT) (hT : FitT T) (c : Nat) (hl0 : 0 < T.length) (hlh : T.length ≤ hg n + 1) (hz : ∀ k, k < T.length → verE n d x T k = 0) (hs : T.length ≠ hg n + 1)  : FnM Tryz.prog 25 (tabE ++ trO (some ad) T) [.v (nI (n)), .v (aggV (d.map byteV)), .v (aggV [nI x, .slice (some ad) T.length c])] (.v (.tuple #[aggV RecT.zero.v, .int .i64 0])) := by
 refine FnM.ofO Tryz.func25 rfl (by kernel_rfl) Tryz.ntmps25 (by simp) (by decide) (fun w => [(0, .v (nI (n))), (1, .v (aggV (d.map byteV))), (2, .v (aggV [nI x, .slice (some ad) T.length c])), (1900000, tabH 0 ([errT])), (1900001, tab 1 (sizV)), (1900002, tab 2 (H8.list.map u32V)), (1900003, tab 3 (K64.map u32V)), (1000501, old w.heap.size (memR ((some ad)) (nodsV T)))]) (fun w => (StartMO.v rfl (StartMO.v rfl (StartMO.v rfl (StartMO.m (by simp [tabE]) (by decide) (StartMO.m (by simp [tabE]) (by decide) (StartMO.m (by simp [tabE]) (by decide) (StartMO.m (by simp [tabE]) (by decide) (StartMO.mo (by simp [tabE]) (by decide) StartMO.nil))))))))) fun w₀ hM => ?_
 have htab := tabE_hi fun p hp => hM p (List.mem_append_left _ hp)
 refine GS (TN 0 (RN ?_));refine ZB 1000004 rfl fun b4 ⟨hBb4, hb4⟩ => ?_
 refine TN 1 (RN ?_);refine ZB 1000005 rfl fun b5 ⟨hBb5, hb5⟩ => ?_
 refine TN 2 (RN ?_);refine ZN 1000006 zero51 fun b6 ⟨hBb6, hb6⟩ => ?_
 refine TL (RVN 1 rfl ?_);refine GS (TN 3 (RM rfl ?_));refine RS (ok_field field69_0 (by decide) rfl) ?_;refine RLV 1000005 U3 rfl rfl rfl ?_;refine RN ?_;refine ZM 1000018 (fun B' => ok_callB (Path_fnB n h1 h2 x hx) newD_mono (A2 rfl rfl)) rfl fun b18 ⟨hBb18, hb18⟩ => ?_
 have hlt_b4_b18 := hb18 1000004 b4 _ _ rfl
 have hlt_b5_b18 := hb18 1000005 b5 _ _ rfl
 have hlt_b6_b18 := hb18 1000006 b6 _ _ rfl
 refine TL (RVN 5 rfl ?_);refine A.blkRow (k := 1000018) (k' := 1000712) (ys := []) (by rw [List.append_nil]; rfl) ?_;refine QSB (GT (RV 2 rfl ?_));refine RF ?_;refine RVN 1 rfl ?_;refine A.no rfl ?_;refine GT (RS (ok_field field69_1 (by decide) rfl) ?_);refine RLV 1000005 U30 rfl rfl rfl ?_;refine RS (ok_lenV U30 rfl) ?_;refine RB rfl rfl rfl ?_;refine RZ (.bool false) (congrArg Value.bool (decide_eq_false (by omega))) ?_;refine RM rfl ?_;refine RQ (ok_field field69_1 (by decide) rfl) ?_;refine RQ (ok_loadV (s := 1000005) (by decide) U30 rfl rfl rfl (rfl)) ?_;refine RQ (ok_lenV U30 rfl) ?_;refine RQ (ok_move rfl) ?_;refine RQ (ok_lenV U112 rfl) ?_;refine RQ (ok_bin rfl rfl rfl) ?_;refine RZ (.bool false) (congrArg Value.bool (by simp; omega)) ?_;refine RVN 2 rfl ?_;refine A.sub (Sv [0, 4, 5, 6, 8, 26, 1000004, 1000005, 1000006, 1000018, 1000501, 1000712, 1900000, 1900001, 1900002, 1900003] rfl) ?_;refine A.no rfl ?_;refine A.skip (End.normal_block (EN (QS (GT (RM rfl ?_)))));refine RL 1000004 U40 rfl rfl (size40.of (by rw [List.length_map, hd])) ?_;refine RM rfl ?_;refine RS (ok_field field69_1 (by decide) rfl) ?_;refine RLV 1000005 U30 rfl rfl rfl ?_;refine RS (ok_callMK (cProof_fn n h1 h2 x hx d hd ⟨b18, 0, none⟩ (hg n + 1) ad T hT c hl0 hlh (.nilIface) (fun _ => rfl) (fun i hi _ h0 => absurd (hz i hi) h0)) (SubK.app (SubK.of (Sub.cons rfl (Sub.cons rfl (Sub.cons rfl KN))) tabN_v) (SubK.cons (k := 1000501) (by decide) rfl Le.unold (SubK.cons (k := 1000712) (by decide) rfl (Le.refl _) SubK.nil))) (Args.cons rfl (Le.refl _) (A3 rfl rfl rfl))) ?_;refine RVN 1 rfl ?_;refine GT (RM rfl ?_);refine RS (ok_neNil U104 rfl) ?_;refine RN (A.no rfl ?_);refine QK (QS (GT (RS (ok_field field69_1 (by decide) rfl) ?_)));refine RLV 1000005 U30 rfl rfl rfl ?_;refine RS (ok_lenV U30 rfl) ?_;refine RM rfl ?_;refine RS (ok_lenV U112 rfl) ?_;refine RB rfl rfl rfl ?_;refine RZ (.bool true) (congrArg Value.bool (by simp; omega)) ?_;refine RN (A.yes rfl ?_);refine GS (TF 1 (RS (ok_lit [] (RecT.v RecT.zero) (fun _ _ => rfl) (by kernel_rfl)) ?_));refine RN ?_;refine ⟨_, eff_storeA (n := 77) (s := 1000006) (size51.of (RecT.zero_fit.len)) rfl rfl (RecT.one _) hBb6 rfl (by rw [RecT.zero_fit.len]; rfl) (LV 6 rfl (LT 1000004 rfl (LT 1000005 rfl (LT 1000018 rfl (LO 1000501 rfl (LeftS.cons (t := 1900000) rfl (Surv.tabH (by omega)) (LQ 1900001 rfl (LQ 1900002 rfl (LQ 1900003 rfl LN))))))))), ?_⟩
 refine TL (RVN 1 rfl ?_);refine A.ret (End.ret_then ?_);exact End.cellV (s := 1000006) rfl U51 rfl (size51.of (RecT.zero_fit.len)) rfl rfl rfl
set_option maxHeartbeats 1000000 in
theorem Ver_r (n : Nat) (h1 : 1 ≤ n) (h2 : n ≤ 4096) (x : Nat) (hx : x < n) (d : List UInt8) (hd : d.length = 32) (ad : Addr) (T : List NodT) (hT : FitT T) (c : Nat) (hl0 : 0 < T.length) (hlh : T.length ≤ hg n + 1) (hz : ∀ k, k < T.length → verE n d x T k = 0) (hs : T.length = hg n + 1)  : FnM Tryz.prog 25 (tabE ++ trO (some ad) T) [.v (nI (n)), .v (aggV (d.map byteV)), .v (aggV [nI x, .slice (some ad) T.length c])] (.v (.tuple #[aggV ((ndAt T (hg n)).r (x % 4)).v, .int .i64 0])) := by
 have hx4 : x % 4 < 4 := Nat.mod_lt _ (by decide)
 have hh := hg_le n
 refine FnM.ofO Tryz.func25 rfl (by kernel_rfl) Tryz.ntmps25 (by simp) (by decide) (fun w => [(0, .v (nI (n))), (1, .v (aggV (d.map byteV))), (2, .v (aggV [nI x, .slice (some ad) T.length c])), (1900000, tabH 0 ([errT])), (1900001, tab 1 (sizV)), (1900002, tab 2 (H8.list.map u32V)), (1900003, tab 3 (K64.map u32V)), (1000501, old w.heap.size (memR ((some ad)) (nodsV T)))]) (fun w => (StartMO.v rfl (StartMO.v rfl (StartMO.v rfl (StartMO.m (by simp [tabE]) (by decide) (StartMO.m (by simp [tabE]) (by decide) (StartMO.m (by simp [tabE]) (by decide) (StartMO.m (by simp [tabE]) (by decide) (StartMO.mo (by simp [tabE]) (by decide) StartMO.nil))))))))) fun w₀ hM => ?_
 have htab := tabE_hi fun p hp => hM p (List.mem_append_left _ hp)
 refine GS (TN 0 (RN ?_));refine ZB 1000004 rfl fun b4 ⟨hBb4, hb4⟩ => ?_
 refine TN 1 (RN ?_);refine ZB 1000005 rfl fun b5 ⟨hBb5, hb5⟩ => ?_
 refine TN 2 (RN ?_);refine ZN 1000006 zero51 fun b6 ⟨hBb6, hb6⟩ => ?_
 refine TL (RVN 1 rfl ?_);refine GS (TN 3 (RM rfl ?_));refine RS (ok_field field69_0 (by decide) rfl) ?_;refine RLV 1000005 U3 rfl rfl rfl ?_;refine RN ?_;refine ZM 1000018 (fun B' => ok_callB (Path_fnB n h1 h2 x hx) newD_mono (A2 rfl rfl)) rfl fun b18 ⟨hBb18, hb18⟩ => ?_
 have hlt_b4_b18 := hb18 1000004 b4 _ _ rfl
 have hlt_b5_b18 := hb18 1000005 b5 _ _ rfl
 have hlt_b6_b18 := hb18 1000006 b6 _ _ rfl
 refine TL (RVN 5 rfl ?_);refine A.blkRow (k := 1000018) (k' := 1000712) (ys := []) (by rw [List.append_nil]; rfl) ?_;refine QSB (GT (RV 2 rfl ?_));refine RF ?_;refine RVN 1 rfl ?_;refine A.no rfl ?_;refine GT (RS (ok_field field69_1 (by decide) rfl) ?_);refine RLV 1000005 U30 rfl rfl rfl ?_;refine RS (ok_lenV U30 rfl) ?_;refine RB rfl rfl rfl ?_;refine RZ (.bool false) (congrArg Value.bool (decide_eq_false (by omega))) ?_;refine RM rfl ?_;refine RQ (ok_field field69_1 (by decide) rfl) ?_;refine RQ (ok_loadV (s := 1000005) (by decide) U30 rfl rfl rfl (rfl)) ?_;refine RQ (ok_lenV U30 rfl) ?_;refine RQ (ok_move rfl) ?_;refine RQ (ok_lenV U112 rfl) ?_;refine RQ (ok_bin rfl rfl rfl) ?_;refine RZ (.bool false) (congrArg Value.bool (by simp; omega)) ?_;refine RVN 2 rfl ?_;refine A.sub (Sv [0, 4, 5, 6, 8, 26, 1000004, 1000005, 1000006, 1000018, 1000501, 1000712, 1900000, 1900001, 1900002, 1900003] rfl) ?_;refine A.no rfl ?_;refine A.skip (End.normal_block (EN (QS (GT (RM rfl ?_)))));refine RL 1000004 U40 rfl rfl (size40.of (by rw [List.length_map, hd])) ?_;refine RM rfl ?_;refine RS (ok_field field69_1 (by decide) rfl) ?_;refine RLV 1000005 U30 rfl rfl rfl ?_;refine RS (ok_callMK (cProof_fn n h1 h2 x hx d hd ⟨b18, 0, none⟩ (hg n + 1) ad T hT c hl0 hlh (.nilIface) (fun _ => rfl) (fun i hi _ h0 => absurd (hz i hi) h0)) (SubK.app (SubK.of (Sub.cons rfl (Sub.cons rfl (Sub.cons rfl KN))) tabN_v) (SubK.cons (k := 1000501) (by decide) rfl Le.unold (SubK.cons (k := 1000712) (by decide) rfl (Le.refl _) SubK.nil))) (Args.cons rfl (Le.refl _) (A3 rfl rfl rfl))) ?_;refine RVN 1 rfl ?_;refine GT (RM rfl ?_);refine RS (ok_neNil U104 rfl) ?_;refine RN (A.no rfl ?_);refine QK (QS (GT (RS (ok_field field69_1 (by decide) rfl) ?_)));refine RLV 1000005 U30 rfl rfl rfl ?_;refine RS (ok_lenV U30 rfl) ?_;refine RM rfl ?_;refine RS (ok_lenV U112 rfl) ?_;refine RB rfl rfl rfl ?_;refine RZ (.bool false) (congrArg Value.bool (by simp; omega)) ?_;refine RN (A.no rfl ?_);refine QK (GS (TN 8 (RM rfl ?_)));refine RS (ok_field field69_0 (by decide) rfl) ?_;refine RLV 1000005 U3 rfl rfl rfl ?_;refine RS (ok_call (Group_ok n h1 h2 x hx) (A2 rfl rfl)) ?_;refine RVN 4 rfl ?_;refine ZN 1000011 zero67 fun b11 ⟨hBb11, hb11⟩ => ?_
 have hlt_b18_b11 := hb11 1000018 b18 _ _ rfl
 refine TF 9 (RN ?_); refine ZA 1000011 (size67.of rfl) hBb11 rfl rfl rfl (LT 1000004 rfl (LT 1000005 rfl (LT 1000006 rfl (LB 1000018 rfl (LO 1000501 rfl (LeftS.cons (t := 1900000) rfl (Surv.tabH (by omega)) (LQ 1900001 rfl (LQ 1900002 rfl (LQ 1900003 rfl (LW [5, 6, 64, 65] rfl)))))))))) ?_;refine TL (RVN 2 rfl ?_);refine A.sub (Sv [5, 6, 12, 1000004, 1000005, 1000006, 1000011, 1000018, 1000501, 1900000, 1900001, 1900002, 1900003] rfl) ?_;refine GS (TF 11 (RS (ok_field field69_1 (by decide) rfl) ?_));refine RLV 1000005 U30 rfl rfl rfl ?_;refine RS (ok_field field69_1 (by decide) rfl) ?_;refine RLV 1000005 U30 rfl rfl rfl ?_;refine RS (ok_lenV U30 rfl) ?_;refine RB rfl rfl rfl ?_;refine RZ (nI (hg n)) (wrap_eq (by omega) (by omega)) ?_;refine RM rfl ?_;refine RS (ok_indexRX (hg n) U30 infoN rfl rfl (by omega)) ?_;refine RS (ok_fieldRX field57_2 (by decide) rfl) ?_;refine RS (ok_indexAX (x % 4) U52 size51 rfl rfl hx4) ?_;refine RS (ok_loadRXT (ys := ((ndAt T (hg n)).r (x % 4)).v) (s := 1000501) U51 rfl (size51.of ((hT.at _).r _).len) rfl (by decide) rfl (by rw [((hT.at _).r _).len]; exact nods_rec hT (by omega) hx4)) ?_;refine RN ?_;refine ⟨_, eff_storeA (n := 77) (s := 1000006) (size51.of (((hT.at _).r _).len)) rfl rfl (RecT.one _) hBb6 rfl (by rw [((hT.at _).r _).len]; rfl) (LV 6 rfl (LT 1000004 rfl (LT 1000005 rfl (LT 1000011 rfl (LT 1000018 rfl (LO 1000501 rfl (LeftS.cons (t := 1900000) rfl (Surv.tabH (by omega)) (LQ 1900001 rfl (LQ 1900002 rfl (LQ 1900003 rfl LN)))))))))), ?_⟩
 refine TL (RVN 1 rfl ?_);refine A.ret ?_;exact End.cellV (s := 1000006) rfl U51 rfl (size51.of (((hT.at _).r _).len)) rfl rfl rfl
theorem Verify_fn (n x : Int) (d : List UInt8) (hd : d.length = 32) (A₀ : Option Addr) (T : List NodT) (hT : FitT T) (c : Nat) : FnM Tryz.prog 25 (tabE ++ trO A₀ T) [.v (.int .i64 (n)), .v (aggV (d.map byteV)), .v (aggV [.int .i64 x, .slice A₀ T.length c])] (.v (.tuple #[aggV (verR n d x T).v, .int .i64 (ver n d x T)])) := by
 by_cases hn : 1 ≤ n ∧ n ≤ 4096
 ·obtain ⟨k, rfl⟩ : ∃ k : Nat, n = k := ⟨n.toNat, by omega⟩
  have h1 : 1 ≤ k := by omega
  have h2 : k ≤ 4096 := by omega
  by_cases hx : 0 ≤ x ∧ x < k
  ·obtain ⟨y, rfl⟩ : ∃ y : Nat, x = y := ⟨x.toNat, by omega⟩
   have hy : y < k := by omega
   by_cases h0 : T.length = 0
   ·have hv := ver_len (d := d) h1 h2 hy (.inl h0)
    rw [hv, verR_no (by rw [hv]; decide)]; exact Ver_0 k h1 h2 y hy d hd A₀ T hT c h0
   by_cases hl : hg k + 1 < T.length
   ·have hv := ver_len (d := d) h1 h2 hy (.inr hl)
    rw [hv, verR_no (by rw [hv]; decide)]; exact Ver_l k h1 h2 y hy d hd A₀ T hT c h0 hl
   have hv := ver_ok (d := d) h1 h2 hy (T := T) (by omega)
   refine FnM.addr (ds := fun a => [.v (.int .i64 (k : Int)), .v (aggV (d.map byteV)), .v (aggV [.int .i64 (y : Int), .slice a T.length c])]) (Ver_m 0 (by omega) 0 d hd none [] FitT.nil 0).body hT (by omega) fun ad => ?_
   by_cases hz : fstN (verE k d y T) T.length = 0
   ·rw [hz] at hv
    rw [hv]
    by_cases hs : T.length = hg k + 1
    ·rw [verR_all hv hs]; exact Ver_r k h1 h2 y hy d hd ad T hT c (by omega) (by omega) (fstN_zero.1 hz) hs
    ·rw [verR_part hs]; exact Ver_s k h1 h2 y hy d hd ad T hT c (by omega) (by omega) (fstN_zero.1 hz) hs
   ·obtain ⟨i, hi, hb, h3, he⟩ := fstN_ex hz
    rw [verR_no (by rw [hv]; exact hz), hv, he]; exact Ver_i k h1 h2 y hy d hd ad T hT c (by omega) (by omega) i hi hb h3
  ·have hv := ver_blk (d := d) (T := T) h1 h2 hx
   rw [hv, verR_no (by rw [hv]; decide)]; exact Ver_b k h1 h2 x hx d hd A₀ T hT c
 ·have hv := ver_bad (d := d) (x := x) (T := T) hn
  rw [hv, verR_no (by rw [hv]; decide)]; exact Ver_m n hn x d hd A₀ T hT c
end
section
theorem buildPf (x : Nat) (v : Value) (hv : v.oneCell' = true) : Tryz.prog.built 69 [(0, nI x), (1, v)] = some ([nI x, v] : List Value).toArray := by
 cases v with
 | agg => cases hv
 | tuple => cases hv
 | _ => kernel_rfl
theorem pthT_row (n : Nat) (T : List NodT) (x m : Nat) : nodsV (pthT n T x m) ++ (ndAt T (tot n (hg n - m) + pidx n x m)).v = nodsV (pthT n T x (m + 1)) := by
 rw [← pthT_step, nods_app]; simp [nodsV]
theorem mny_at {n x i : Nat} {T : List NodT} (h : ∀ k, 1 ≤ k → k ≤ i → emT n T (hg n - k) (pidx n x k) = false) (hi : i ≤ hg n) (he : i < hg n → emT n T (hg n - (i + 1)) (pidx n x (i + 1)) = true) : mny n T x = i + 1 :=
 runTo_eq (by omega) (by omega) (fun k h1 h2 => h k h1 (by omega)) fun h3 => he (by omega)
theorem pth_start {n x : Nat} (h1 : 1 ≤ n) (h2 : n ≤ 4096) (hx : x < n) (T : List NodT) : (ndAt T (tot n (hg n) + 0)).v = nodsV (pthT n T x (0 + 1)) := by
 unfold pthT nodsV
 rw [show List.range (0 + 1) = [0] from rfl, List.map_singleton, List.flatMap_singleton, Nat.sub_zero, pidx_root h1 h2 hx]
set_option maxHeartbeats 4000000 in
theorem Prove_okB (n : Nat) (ad : Addr) (T : List NodT) (hT : FitT T) (c : Nat) (ht : Tree n T) (x : Nat) (hx : x < n)  : FnMB Tryz.prog 23 (tabE ++ trO (some ad) T) [.v (aggV [nI n, .slice (some ad) T.length c]), .v (nI (x))] (fun B => newY B 57 (fun b => .tuple #[aggV [nI x, .slice (some ⟨b, 0, none⟩) (mny n T x) (mny n T x)], .int .i64 0]) (nodsV (pthT n T x (mny n T x)))) := by
 have h1 := ht.h1
 have h2 := ht.h2
 have hl := ht.len
 have he : chkT n T = 0 := ht.chkT
 have hh := hg_le n
 have htp := un_top h1 h2
 have hsm := tot_small h1 h2 (show hg n + 1 ≤ 6 by omega)
 have hpos := tot_pos h1
 have hu1 : un n 1 ≤ T.length := by have := tot_mono (n := n) (show 1 ≤ hg n + 1 by omega); rw [tot_one] at this; omega
 refine FnMB.ofO Tryz.func23 rfl (by kernel_rfl) Tryz.ntmps23 (by simp) (by decide) (fun w => [(0, .v (aggV [nI n, .slice (some ad) T.length c])), (1, .v (nI (x))), (1900000, tabH 0 ([errT])), (1900001, tab 1 (sizV)), (1900002, tab 2 (H8.list.map u32V)), (1900003, tab 3 (K64.map u32V)), (1000501, old w.heap.size (memR ((some ad)) (nodsV T)))]) (fun w => (StartMO.v rfl (StartMO.v rfl (StartMO.m (by simp [tabE]) (by decide) (StartMO.m (by simp [tabE]) (by decide) (StartMO.m (by simp [tabE]) (by decide) (StartMO.m (by simp [tabE]) (by decide) (StartMO.mo (by simp [tabE]) (by decide) StartMO.nil)))))))) fun w₀ hM => ?_
 have htab := tabE_hi fun p hp => hM p (List.mem_append_left _ hp)
 refine GS (TN 0 (RN ?_));refine ZB 1000002 rfl fun b2 ⟨hBb2, hb2⟩ => ?_
 refine TN 1 (RN ?_);refine ZN 1000004 zero69 fun b4 ⟨hBb4, hb4⟩ => ?_
 refine TL (RVN 1 rfl ?_);refine QS (GT (RL 1000002 U32 rfl rfl (size32.of rfl) ?_));refine RS (ok_callMK (Check_fn n (some ad) T hT c) (SubK.app (SubK.of (Sub.cons rfl (Sub.cons rfl (Sub.cons rfl (Sub.cons rfl KN)))) tabE_v) (SubK.cons (k := 1000501) (by decide) rfl Le.unold SubK.nil)) (A1 rfl)) ?_;refine RVN 1 rfl ?_;refine GT (RV 2 rfl ?_);refine RZ (.bool false) (congrArg Value.bool (by simp [he])) ?_;refine RN (A.no rfl ?_);refine QK (GS (TN 3 (RS (ok_field field32_0 (by decide) rfl) ?_)));refine RLV 1000002 U3 rfl rfl rfl ?_;refine RVN 1 rfl ?_;refine ZM 1000023 (fun B' => ok_callB (Path_fnB n h1 h2 x hx) newD_mono (A2 rfl rfl)) rfl fun b23 ⟨hBb23, hb23⟩ => ?_
 have hlt_b2_b23 := hb23 1000002 b2 _ _ rfl
 have hlt_b4_b23 := hb23 1000004 b4 _ _ rfl
 refine TL (RVN 5 rfl ?_);refine QS (GT (RV 2 rfl ?_));refine RF ?_;refine RN (A.no rfl ?_);refine QK (GTD (RL 1000002 U32 rfl rfl (size32.of rfl) ?_));refine RM rfl ?_;refine RS (ok_indexS 0 U112 infoPP rfl rfl rfl (by omega)) ?_;refine RS (ok_loadP (s := 1000023) (by decide) U67 rfl size67 rfl rfl (by rw [pathV_length (Nat.le_refl _)]; omega) (pathV_at (i := 0) (by omega))) ?_; refine RZ (aggV (plV (hg n) 0)) (congrArg (fun k => aggV (plV (hg n) k)) (pidx_root h1 h2 hx)) ?_;refine RS (ok_callMK (at_fn n h1 h2 (hg n) 0 (Nat.le_refl _) (by rw [un_root h1 h2]; decide) ad T hT c (by omega)) (SubK.cons (k := 1000501) (by decide) rfl Le.unold SubK.nil) (A2 rfl rfl)) ?_; refine RZ (aggV (ndAt T (tot n (hg n) + 0)).v) (by rfl) ?_;refine RS (ok_build1O U30 infoN rfl (by decide) (by decide) rfl (hT.at _).len) ?_;refine RL 1000002 U32 rfl rfl (size32.of rfl) ?_;refine RS (ok_callB (emptiness_fnB _ _ rfl rfl) closE_mono (A1 rfl)) ?_;refine RVN 2 rfl ?_;refine A.sub (Sv [1, 2, 4, 7, 9, 10, 1000002, 1000004, 1000023, 1000501, 1900000, 1900001, 1900002, 1900003] rfl) ?_;refine A.openClosE (t := 10) (k₁ := 1000601) (k₂ := 1000602) rfl fun p q hBp hBq hpq => ?_
 refine QS (GT (RM rfl ?_));refine RS (ok_sliceLoK 1 U112 infoPP rfl rfl (by omega)) ?_;refine RS (ok_lenV U112 rfl) ?_; refine RZ (nI (hg n)) (congrArg (Value.int .i64) (by omega)) ?_;refine RVN 1 rfl ?_;refine A.block ?_;refine A.loop (ι := Nat) (fun i => i ≤ hg n ∧ ∀ k, 1 ≤ k → k ≤ i → emT n T (hg n - k) (pidx n x k) = false) (fun i => [(1, .v (nI (x))), (2, .v (ptr b2)), (4, .v (ptr b4)), (9, ownP w₀.heap.size 57 274 (i + 1) (nodsV (pthT n T x (i + 1)))), (10, .v (emF1 p q)), (39, .v (.slice (some ⟨b23, if hg n + 1 = 1 then 0 else 1 * 2, none⟩) (hg n + 1 - 1) (hg n + 1 - 1))), (40, .v (nI (hg n))), (41, .v (nI (i))), (1000002, blk b2 32 [nI n, .slice (some ad) T.length c]), (1000004, blk b4 69 [nI 0, .slice none 0 0]), (1000023, blk b23 67 (pathV n x (hg n + 1))), (1000601, blk p 32 [nI n, .slice (some ad) T.length c]), (1000602, blk q 115 [emF1 p q]), (1900000, tabH 0 ([errT])), (1900001, tab 1 (sizV)), (1900002, tab 2 (H8.list.map u32V)), (1900003, tab 3 (K64.map u32V)), (1000501, old w₀.heap.size (memR ((some ad)) (nodsV T)))]) (fun i => hg n - i) 0 ?_ ?_ ?_
 ·exact ⟨Nat.zero_le _, fun k h1 h2 => absurd h1 (by omega)⟩
 ·exact (KC 1 rfl (KC 2 rfl (KC 4 rfl (KE 9 rfl (congrArg (ownP w₀.heap.size 57 274 1) (pth_start h1 h2 hx T)) (KC 10 rfl (KC 39 rfl (KC 40 rfl (KE 41 rfl (by rfl) (KC 1000002 rfl (KE 1000004 rfl (by rfl) (KC 1000023 rfl (KC 1000601 rfl (KC 1000602 rfl (KC 1900000 rfl (KC 1900001 rfl (KC 1900002 rfl (KC 1900003 rfl (KC 1000501 rfl KN))))))))))))))))))
 intro i hG
 refine GV rfl (QS ?_);refine A.cond rfl (fun hc42 => ?_) (fun hc42 => ?_)
 ·have hi : i < hg n := by simp at hc42; omega
  refine QK (QSB (GS (TN 2 (RS (ok_indexS i U112 infoPP rfl rfl rfl (by omega)) ?_)))); refine RZ (.pointer (some ⟨b23, (i + 1) * 2, none⟩)) (by rw [if_neg (by omega)]; congr 3; omega) ?_;refine RS (ok_loadP (s := 1000023) (by decide) U67 rfl size67 rfl rfl (by rw [pathV_length (Nat.le_refl _)]; omega) (pathV_at (by omega))) ?_; refine RZ (aggV (plV (hg n - (i + 1)) (pidx n x (i + 1)))) (by rfl) ?_;refine RN ?_;refine ZN 1000012 zero67 fun b12 ⟨hBb12, hb12⟩ => ?_
  have hlt_b23_b12 := hb12 1000023 b23 _ _ rfl
  refine TF 3 (RN ?_); refine ZA 1000012 (size67.of rfl) hBb12 rfl rfl rfl (LeftS.cons (t := 9) rfl (Surv.ownP (by decide)) (LT 1000002 rfl (LT 1000004 rfl (LB 1000023 rfl (LO 1000501 rfl (LT 1000601 rfl (LT 1000602 rfl (LeftS.cons (t := 1900000) rfl (Surv.tabH (by omega)) (LQ 1900001 rfl (LQ 1900002 rfl (LQ 1900003 rfl (LW [1, 2, 4, 10, 12, 39, 40, 41] rfl)))))))))))) ?_;refine TL (RN (QS (GT (RM rfl ?_))));refine RL 1000012 U67 rfl rfl (size67.of rfl) ?_;refine RS (ok_callVMK (us := [ptr p, ptr q]) (em_fn n h1 h2 ad T hT hu1 c p q (hg n - (i + 1)) (pidx n x (i + 1)) (Nat.sub_le _ _) (pidx_lt hx _)) (SubK.cons (k := 1000601) (by decide) rfl (Le.refl _) (SubK.cons (k := 1000602) (by decide) rfl (Le.refl _) (SubK.cons (k := 1000501) (by decide) rfl Le.unold SubK.nil))) rfl (A1 rfl)) ?_;refine RN ?_;refine A.cond rfl (fun hc47 => ?_) (fun hc47 => ?_)
  ·have hm : mny n T x = i + 1 := mny_at hG.2 (by omega) fun _ => hc47
   refine A.exit (End.exit_then (End.exit_past (by decide) (End.exit_then (End.exit_then (End.exit_here (EN ?_))))));refine A.nameP (t := 9) (k := 1000203) rfl (fun w y h => ownP_one h) fun v9 hv9 => ?_
   refine A.openRowY (k := 1000203) (k' := 1000311) rfl (by rw [nods_len (pthT_fit hT _ _), pthT_length]; omega) fun g11 q ys hBg hq hv => ?_
   subst hv
   refine GS (TF 4 (RV 2 rfl ?_));refine RS (ok_call (clipN_fn ⟨g11, 0, none⟩ (i + 1) q (by omega) (by omega)) (A1 rfl)) ?_;refine RS (ok_litS [(0, nI x), (1, .slice (some ⟨g11, 0, none⟩) (i + 1) (i + 1))] [nI x, .slice (some ⟨g11, 0, none⟩) (i + 1) (i + 1)] ⟨rfl, rfl, rfl, rfl, trivial⟩ (buildPf _ _ rfl)) ?_;refine RN ?_; refine ZA 1000004 (size69.of rfl) hBb4 rfl rfl rfl (LV 4 rfl (LT 1000002 rfl (LT 1000012 rfl (LT 1000023 rfl (LT 1000311 rfl (LO 1000501 rfl (LT 1000601 rfl (LT 1000602 rfl (LeftS.cons (t := 1900000) rfl (Surv.tabH (by omega)) (LQ 1900001 rfl (LQ 1900002 rfl (LQ 1900003 rfl LN)))))))))))) ?_;refine TL (RVN 1 rfl ?_);refine A.ret ?_;exact (by rw [hm]; exact End.cellY (s := 1000004) (kg := 1000311) rfl U69 rfl (size69.of rfl) rfl rfl rfl rfl hBg rfl)
  ·have hf : emT n T (hg n - (i + 1)) (pidx n x (i + 1)) = false := by simpa using hc47
   refine QK (GE (TF 5 (RM rfl ?_)));refine RL 1000002 U32 rfl rfl (size32.of rfl) ?_;refine RL 1000012 U67 rfl rfl (size67.of rfl) ?_;refine RS (ok_callMK (at_fn n h1 h2 (hg n - (i + 1)) (pidx n x (i + 1)) (Nat.sub_le _ _) (pidx_lt hx _) ad T hT c (by have := numP_lt (Nat.sub_le (hg n) (i + 1)) (pidx_lt hx (i + 1)); omega)) (SubK.cons (k := 1000501) (by decide) rfl Le.unold SubK.nil) (A2 rfl rfl)) ?_;refine RS (ok_build1K U30 infoN rfl (by decide) (by decide) rfl (hT.at _).len) ?_;refine RN ?_;refine ⟨_, eff_appendG U30 infoN (by decide) (by decide) rfl rfl rfl (hT.at _).len (NodT.one _) (by omega) (by decide) (fun g hg => (LT 1000002 rfl (LT 1000004 rfl (LT 1000012 rfl (LT 1000023 rfl (LO 1000501 rfl (LT 1000601 rfl (LT 1000602 rfl (LeftS.cons (t := 1900000) rfl (Surv.tabH (by omega)) (LQ 1900001 rfl (LQ 1900002 rfl (LQ 1900003 rfl (LW [1, 2, 4, 10, 39, 40, 41] rfl))))))))))))), ?_⟩
   refine TL (RVN 1 rfl ?_);refine End.normal_block (EN (GTE (RB rfl rfl rfl ?_)));refine RZ (nI (i + 1)) (wrap_eq (by omega) (by omega)) ?_;refine RVN 1 rfl ?_;refine End.normal_then ?_;refine End.again (i + 1) ?_ ?_ ?_
   ·exact ⟨by omega, fun k ha hb => (Nat.lt_or_ge k (i + 1)).elim (fun h => hG.2 k ha (by omega)) fun h => by rw [show k = i + 1 from by omega]; exact hf⟩
   ·show _ - _ < _ - _; omega
   ·exact (KC 1 rfl (KC 2 rfl (KC 4 rfl (KE 9 rfl (congrArg (ownP w₀.heap.size 57 274 (i + 1 + 1)) (pthT_row n T x (i + 1))) (KC 10 rfl (KC 39 rfl (KC 40 rfl (KC 41 rfl (KC 1000002 rfl (KC 1000004 rfl (KC 1000023 rfl (KC 1000601 rfl (KC 1000602 rfl (KC 1900000 rfl (KC 1900001 rfl (KC 1900002 rfl (KC 1900003 rfl (KC 1000501 rfl KN))))))))))))))))))
 ·have hi2 : i = hg n := by have := hG.1; simp at hc42; omega
  have hm : mny n T x = i + 1 := mny_at hG.2 (by omega) fun h => absurd h (by omega)
  refine A.exit (End.exit_then (End.exit_then (End.exit_here (EN ?_))));refine A.nameP (t := 9) (k := 1000203) rfl (fun w y h => ownP_one h) fun v9 hv9 => ?_
  refine A.openRowY (k := 1000203) (k' := 1000311) rfl (by rw [nods_len (pthT_fit hT _ _), pthT_length]; omega) fun g11 q ys hBg hq hv => ?_
  subst hv
  refine GS (TF 4 (RV 2 rfl ?_));refine RS (ok_call (clipN_fn ⟨g11, 0, none⟩ (i + 1) q (by omega) (by omega)) (A1 rfl)) ?_;refine RS (ok_litS [(0, nI x), (1, .slice (some ⟨g11, 0, none⟩) (i + 1) (i + 1))] [nI x, .slice (some ⟨g11, 0, none⟩) (i + 1) (i + 1)] ⟨rfl, rfl, rfl, rfl, trivial⟩ (buildPf _ _ rfl)) ?_;refine RN ?_; refine ZA 1000004 (size69.of rfl) hBb4 rfl rfl rfl (LV 4 rfl (LT 1000002 rfl (LT 1000023 rfl (LT 1000311 rfl (LO 1000501 rfl (LT 1000601 rfl (LT 1000602 rfl (LeftS.cons (t := 1900000) rfl (Surv.tabH (by omega)) (LQ 1900001 rfl (LQ 1900002 rfl (LQ 1900003 rfl LN))))))))))) ?_;refine TL (RVN 1 rfl ?_);refine A.ret ?_;exact (by rw [hm]; exact End.cellY (s := 1000004) (kg := 1000311) rfl U69 rfl (size69.of rfl) rfl rfl rfl rfl hBg rfl)
abbrev twoM (A₀ : Option Addr) (T : List NodT) (B₀ : Option Addr) (W : List NodT) : Env := [(1000501, memR A₀ (nodsV T)), (1000502, memR B₀ (nodsV W))]
end
section
theorem verR_fit {n x : Int} {d : List UInt8} {T : List NodT} (hT : FitT T) : (verR n d x T).Fit := by
 unfold verR
 split
 ·exact (hT.at _).r _
 ·exact RecT.zero_fit
noncomputable instance : DecidableEq RecT := fun a b => Classical.propDecidable (a = b)
theorem coll_x (x y : Int) (A₀ B₀ : Option Addr) (T W : List NodT) (hT : FitT T) (hW : FitT W) (c c' : Nat) (r s : RecT) (hr : r.Fit) (hs : s.Fit) (h : x ≠ y)  : FnM Tryz.prog 60 (tabS ++ twoM A₀ T B₀ W) [.v (aggV [.int .i64 x, .slice A₀ T.length c]), .v (aggV [.int .i64 y, .slice B₀ W.length c']), .v (aggV r.v), .v (aggV s.v)] (.v (.tuple #[.slice none 0 0, .slice none 0 0, .int .i64 1])) := by
 refine FnM.ofO Tryz.func60 rfl (by kernel_rfl) Tryz.ntmps60 (by simp) (by decide) (fun w => [(0, .v (aggV [.int .i64 x, .slice A₀ T.length c])), (1, .v (aggV [.int .i64 y, .slice B₀ W.length c'])), (2, .v (aggV r.v)), (3, .v (aggV s.v)), (1900001, tab 1 (sizV)), (1000501, old w.heap.size (memR A₀ (nodsV T))), (1000502, old w.heap.size (memR B₀ (nodsV W)))]) (fun w => (StartMO.v rfl (StartMO.v rfl (StartMO.v rfl (StartMO.v rfl (StartMO.m (by simp [tabS]) (by decide) (StartMO.mo (by simp [tabS]) (by decide) (StartMO.mo (by simp [tabS]) (by decide) StartMO.nil)))))))) fun w₀ hM => ?_
 skip
 refine GS (TN 0 (RN ?_));refine ZB 1000004 rfl fun b4 ⟨hBb4, hb4⟩ => ?_
 refine TN 1 (RN ?_);refine ZB 1000005 rfl fun b5 ⟨hBb5, hb5⟩ => ?_
 have hlt_b4_b5 := hb5 1000004 b4 _ _ rfl
 refine TN 2 (RN ?_);refine ZB 1000006 rfl fun b6 ⟨hBb6, hb6⟩ => ?_
 refine TN 3 (RN ?_);refine ZB 1000007 rfl fun b7 ⟨hBb7, hb7⟩ => ?_
 have hlt_b6_b7 := hb7 1000006 b6 _ _ rfl
 refine TL (RVN 3 rfl ?_);refine QSB (GT (RS (ok_field field69_0 (by decide) rfl) ?_));refine RLV 1000004 U3 rfl rfl rfl ?_;refine RS (ok_field field69_0 (by decide) rfl) ?_;refine RLV 1000005 U3 rfl rfl rfl ?_;refine RB rfl rfl rfl ?_;refine RZ (.bool true) (congrArg Value.bool (by simp [h])) ?_;refine RVN 1 rfl ?_;refine A.yes rfl ?_;refine GV rfl (A.ret (End.ret_block (End.ret_then ?_)));exact End.ret3V rfl rfl rfl rfl
set_option maxHeartbeats 1000000 in
theorem Coll_x (n x y : Int) (d : List UInt8) (hd : d.length = 32) (A₀ B₀ : Option Addr) (T W : List NodT) (hT : FitT T) (hW : FitT W) (c c' : Nat) (ha : ver n d x T = 0) (hb : ver n d y W = 0) (h : x ≠ y)  : FnM Tryz.prog 32 (tabE ++ twoM A₀ T B₀ W) [.v (.int .i64 (n)), .v (aggV (d.map byteV)), .v (aggV [.int .i64 x, .slice A₀ T.length c]), .v (aggV [.int .i64 y, .slice B₀ W.length c'])] (.v (.tuple #[.slice none 0 0, .slice none 0 0, .int .i64 1])) := by
 refine FnM.ofO Tryz.func32 rfl (by kernel_rfl) Tryz.ntmps32 (by simp) (by decide) (fun w => [(0, .v (.int .i64 (n))), (1, .v (aggV (d.map byteV))), (2, .v (aggV [.int .i64 x, .slice A₀ T.length c])), (3, .v (aggV [.int .i64 y, .slice B₀ W.length c'])), (1900000, tabH 0 ([errT])), (1900001, tab 1 (sizV)), (1900002, tab 2 (H8.list.map u32V)), (1900003, tab 3 (K64.map u32V)), (1000501, old w.heap.size (memR A₀ (nodsV T))), (1000502, old w.heap.size (memR B₀ (nodsV W)))]) (fun w => (StartMO.v rfl (StartMO.v rfl (StartMO.v rfl (StartMO.v rfl (StartMO.m (by simp [tabE]) (by decide) (StartMO.m (by simp [tabE]) (by decide) (StartMO.m (by simp [tabE]) (by decide) (StartMO.m (by simp [tabE]) (by decide) (StartMO.mo (by simp [tabE]) (by decide) (StartMO.mo (by simp [tabE]) (by decide) StartMO.nil))))))))))) fun w₀ hM => ?_
 have htab := tabE_hi fun p hp => hM p (List.mem_append_left _ hp)
 refine GS (TN 0 (RN ?_));refine ZB 1000005 rfl fun b5 ⟨hBb5, hb5⟩ => ?_
 refine TN 1 (RN ?_);refine ZB 1000006 rfl fun b6 ⟨hBb6, hb6⟩ => ?_
 refine TN 2 (RN ?_);refine ZB 1000007 rfl fun b7 ⟨hBb7, hb7⟩ => ?_
 have hlt_b6_b7 := hb7 1000006 b6 _ _ rfl
 refine TL (RVN 3 rfl ?_);refine GS (TN 7 (RM rfl ?_));refine RL 1000005 U40 rfl rfl (size40.of (by rw [List.length_map, hd])) ?_;refine RL 1000006 U69 rfl rfl (size69.of rfl) ?_;refine RS (ok_callMK (Verify_fn n x d hd A₀ T hT c) (SubK.app (SubK.of (Sub.cons rfl (Sub.cons rfl (Sub.cons rfl (Sub.cons rfl KN)))) tabE_v) (SubK.cons (k := 1000501) (by decide) rfl Le.unold SubK.nil)) (A3 rfl rfl rfl)) ?_;refine RVN 3 rfl ?_;refine ZN 1000011 zero51 fun b11 ⟨hBb11, hb11⟩ => ?_
 refine TF 8 (RN ?_);refine ⟨_, eff_storeA (n := 42) (s := 1000011) (size51.of ((verR_fit hT).len)) rfl rfl (RecT.one _) hBb11 rfl (by rw [(verR_fit hT).len]; rfl) (LT 1000005 rfl (LT 1000006 rfl (LT 1000007 rfl (LO 1000501 rfl (LO 1000502 rfl (LeftS.cons (t := 1900000) rfl (Surv.tabH (by omega)) (LQ 1900001 rfl (LQ 1900002 rfl (LQ 1900003 rfl (LW [0, 5, 6, 7, 11, 20] rfl)))))))))), ?_⟩
 refine TL (RVN 1 rfl ?_);refine QS (GT (RV 2 rfl ?_));refine RZ (.bool false) (congrArg Value.bool (by simp [ha])) ?_;refine RN (A.no rfl ?_);refine QK (GS (TN 7 (RM rfl ?_)));refine RL 1000005 U40 rfl rfl (size40.of (by rw [List.length_map, hd])) ?_;refine RL 1000007 U69 rfl rfl (size69.of rfl) ?_;refine RS (ok_callMK (Verify_fn n y d hd B₀ W hW c') (SubK.app (SubK.of (Sub.cons rfl (Sub.cons rfl (Sub.cons rfl (Sub.cons rfl KN)))) tabE_v) (SubK.cons (k := 1000502) (by decide) rfl Le.unold SubK.nil)) (A3 rfl rfl rfl)) ?_;refine RVN 3 rfl ?_;refine ZN 1000013 zero51 fun b13 ⟨hBb13, hb13⟩ => ?_
 have hlt_b11_b13 := hb13 1000011 b11 _ _ rfl
 refine TF 8 (RN ?_);refine ⟨_, eff_storeA (n := 42) (s := 1000013) (size51.of ((verR_fit hW).len)) rfl rfl (RecT.one _) hBb13 rfl (by rw [(verR_fit hW).len]; rfl) (LT 1000005 rfl (LT 1000006 rfl (LT 1000007 rfl (LB 1000011 rfl (LO 1000501 rfl (LO 1000502 rfl (LeftS.cons (t := 1900000) rfl (Surv.tabH (by omega)) (LQ 1900001 rfl (LQ 1900002 rfl (LQ 1900003 rfl (LW [6, 7, 11, 13, 30] rfl))))))))))), ?_⟩
 refine TL (RVN 1 rfl ?_);refine A.sub (Sv [6, 7, 11, 12, 13, 1000005, 1000006, 1000007, 1000011, 1000013, 1000501, 1000502, 1900000, 1900001, 1900002, 1900003] rfl) ?_;refine QS (GT (RV 2 rfl ?_));refine RZ (.bool false) (congrArg Value.bool (by simp [hb])) ?_;refine RN (A.no rfl ?_);refine QK (GT (RL 1000006 U69 rfl rfl (size69.of rfl) ?_));refine RL 1000007 U69 rfl rfl (size69.of rfl) ?_;refine RL 1000011 U51 rfl rfl (size51.of ((verR_fit hT).len)) ?_;refine RL 1000013 U51 rfl rfl (size51.of ((verR_fit hW).len)) ?_;refine RS (ok_callMK (coll_x x y A₀ B₀ T W hT hW c c' (verR n d x T) (verR n d y W) (verR_fit hT) (verR_fit hW) h) (SubK.app (SubK.of (Sub.cons rfl KN) tabS_v) (SubK.cons (k := 1000501) (by decide) rfl Le.unold (SubK.cons (k := 1000502) (by decide) rfl Le.unold SubK.nil))) (Args.cons rfl (Le.refl _) (A3 rfl rfl rfl))) ?_;refine RVN 6 rfl ?_;refine A.ret ?_;exact End.ret3V rfl rfl rfl rfl
end
theorem un_one {n h : Nat} (hh : h ≤ hg n) (h0 : un n (h + 1) = 1) : h = hg n := by
 rcases Nat.lt_or_ge h (hg n) with h1 | h1
 ·have := un_big (n := n) (k := h + 1) (by omega) (by omega)
  omega
 ·omega
theorem rCount_fn (n : Nat) (h1 : 1 ≤ n) (h2 : n ≤ 4096) (l : Nat) (hl : l ≤ hg n) : Fn Tryz.prog 44 [.v (nI (n)), .v (nI (l))] (.v (nI (un n (l + 1)))) := by
 have hh := hg_le n
 refine FV Tryz.func44 rfl Tryz.ntmps44 rfl fun w₀ => ?_
 refine GV rfl (GV rfl (QS (GV rfl (A.block ?_))));refine A.loop (ι := Nat) (fun i => i ≤ l + 1) (fun i => [(0, .v (nI (n))), (1, .v (nI (l))), (5, .v (nI (un n i))), (6, .v (nI (i)))]) (fun i => l + 1 - i) 0 ?_ ?_ ?_
 ·exact Nat.zero_le _
 ·exact (Sv [0, 1, 5, 6] rfl)
 intro i hi
 have hu0 := un_le h1 (i)
 have hv0 := un_pos h1 (i)
 have hu1 := un_le h1 (i + 1)
 have hv1 := un_pos h1 (i + 1)
 refine QS (GV rfl ?_);refine A.cond rfl (fun hc10 => ?_) (fun hc10 => ?_)
 ·have hlt : i ≤ l := by simp at hc10; omega
  refine QK (QSB (QS ?_))
  by_cases hi0 : 0 < i
  ·refine GT (RV 2 rfl ?_);refine RT ?_;refine RV 3 rfl ?_;refine RZ (.bool false) (by have := un_big (n := n) (k := i) (by omega) (by omega); simp; omega) ?_;refine RVN 1 rfl ?_;refine A.no rfl ?_;refine QK (GTE (RV 2 rfl ?_));refine RZ (nI (un n i + 3)) (wrap_eq (by omega) (by omega)) ?_;refine RS (ok_div rfl rfl (by decide)) ?_; refine RZ (nI (un n (i + 1))) (by rw [tdiv_lit _ (by decide)]; exact wrap_eq rfl (by omega)) ?_;refine RVN 1 rfl ?_;refine End.normal_block (EN (GTE (RV 2 rfl ?_)));refine RZ (nI (i + 1)) (wrap_eq (by omega) (by omega)) ?_;refine RVN 1 rfl ?_;refine End.normal_then ?_;refine End.again (i + 1) ?_ ?_ ?_
   ·show _ ≤ _; omega
   ·show _ - _ < _ - _; omega
   ·exact (Sv [0, 1, 5, 6] rfl)
  ·refine GT (RV 2 rfl ?_);refine RF ?_;refine RVN 4 rfl ?_;refine A.no rfl ?_;refine QK (GTE (RV 2 rfl ?_));refine RZ (nI (un n i + 3)) (wrap_eq (by omega) (by omega)) ?_;refine RS (ok_div rfl rfl (by decide)) ?_; refine RZ (nI (un n (i + 1))) (by rw [tdiv_lit _ (by decide)]; exact wrap_eq rfl (by omega)) ?_;refine RVN 1 rfl ?_;refine End.normal_block (EN (GTE (RV 2 rfl ?_)));refine RZ (nI (i + 1)) (wrap_eq (by omega) (by omega)) ?_;refine RVN 1 rfl ?_;refine End.normal_then ?_;refine End.again (i + 1) ?_ ?_ ?_
   ·show _ ≤ _; omega
   ·show _ - _ < _ - _; omega
   ·exact (Sv [0, 1, 5, 6] rfl)
 ·have hie : i = l + 1 := by simp at hc10; omega
  refine A.exit (End.exit_then (End.exit_then (End.exit_here (EN (GT (RM rfl ?_))))));refine RZ (nI (un n (l + 1))) (by rw [hie]) ?_;refine RVN 1 rfl ?_;refine A.ret ?_;exact ER rfl rfl
theorem rHeight_fn (n : Nat) (h1 : 1 ≤ n) (h2 : n ≤ 4096)  : Fn Tryz.prog 26 [.v (nI (n))] (.v (nI (hg n))) := by
 have hh := hg_le n
 refine FV Tryz.func26 rfl Tryz.ntmps26 rfl fun w₀ => ?_
 refine GV rfl (GV rfl (QSB ?_));refine A.loop (ι := Nat) (fun h => h ≤ hg n) (fun h => [(0, .v (nI (n))), (3, .v (nI (h)))]) (fun h => hg n - h) 0 ?_ ?_ ?_
 ·exact Nat.zero_le _
 ·exact (Sv [0, 3] rfl)
 intro h hle
 refine QS (GT (RV 2 rfl ?_));refine RS (ok_call (rCount_fn n h1 h2 h hle) (A2 rfl rfl)) ?_;refine RVN 1 rfl ?_;refine A.cond rfl (fun hc7 => ?_) (fun hc7 => ?_)
 ·have hlt : h < hg n := by
   have h3 := un_root h1 h2
   have h4 : un n (h + 1) ≠ 1 := by simp at hc7; omega
   rcases Nat.lt_or_ge h (hg n) with h5 | h5
   ·exact h5
   ·obtain rfl : h = hg n := by omega
    exact absurd h3 h4
  refine QK (A.block (GTE (RV 2 rfl ?_)));refine RZ (nI (h + 1)) (wrap_eq (by omega) (by omega)) ?_;refine RVN 1 rfl ?_;refine End.normal_block (End.normal_then ?_);refine End.again (h + 1) ?_ ?_ ?_
  ·show _ ≤ _; omega
  ·show _ - _ < _ - _; omega
  ·exact (Sv [0, 3] rfl)
 ·have hie : h = hg n := un_one hle (by simp at hc7; omega)
  refine A.exit (End.exit_then (End.exit_then (End.exit_here (EN (GT (RM rfl ?_))))));refine RZ (nI (hg n)) (by rw [hie]) ?_;refine RVN 1 rfl ?_;refine A.ret ?_;exact ER rfl rfl
section
theorem be4 (v : Nat) : be 4 v = [UInt8.ofNat (v / 16777216), UInt8.ofNat (v / 65536), UInt8.ofNat (v / 256), UInt8.ofNat v] := by simp [be, List.range, List.range.loop]
theorem add_u8 (s : UInt8) (n : Nat) : Value.int .u8 (IntKind.u8.wrap (((s.toNat : Nat) : Int) + (((UInt8.ofNat n).toNat : Nat) : Int))) = byteV (UInt8.ofNat (s.toNat + n)) := by
 rw [← Int.natCast_add, wrap_u8_nat, byteV]
 congr 3
 apply UInt8.toNat_inj.1
 rw [UInt8.toNat_ofNat', UInt8.toNat_ofNat', UInt8.toNat_ofNat', Nat.add_mod_mod]
set_option maxHeartbeats 2000000 in
theorem rBytes_R (x : NodT) (hx : x.Fit) (h0 : x.l.toNat = 0) : Fn Tryz.prog 57 [.v (aggV x.v)] (byt x.bl) := by
 refine FV Tryz.func57 rfl Tryz.ntmps57 rfl fun w₀ => ?_
 refine GS (TN 0 (RN ?_));refine ZB 1000001 rfl fun b1 ⟨hBb1, hb1⟩ => ?_
 refine TL (RVN 1 rfl ?_);refine GT (RS (ok_field field57_0 (by decide) rfl) ?_);refine RLV 1000001 U5 rfl rfl rfl ?_;refine RS (ok_field field57_1 (by decide) rfl) ?_;refine RLV 1000001 U46 rfl rfl rfl ?_;refine RS (ok_shr rfl rfl (by decide)) ?_; refine RZ (nW (x.j / 16777216)) (by rw [show min (24 : Int).toNat IntKind.u32.bits = 24 from rfl, shr_nat]) ?_;refine RS (ok_conv U46 U5 rfl) ?_; refine RZ (byteV (UInt8.ofNat (x.j / 16777216))) (by rw [wrap_u8_nat]; rfl) ?_;refine RS (ok_field field57_1 (by decide) rfl) ?_;refine RLV 1000001 U46 rfl rfl rfl ?_;refine RS (ok_shr rfl rfl (by decide)) ?_; refine RZ (nW (x.j / 65536)) (by rw [show min (16 : Int).toNat IntKind.u32.bits = 16 from rfl, shr_nat]) ?_;refine RS (ok_conv U46 U5 rfl) ?_; refine RZ (byteV (UInt8.ofNat (x.j / 65536))) (by rw [wrap_u8_nat]; rfl) ?_;refine RS (ok_field field57_1 (by decide) rfl) ?_;refine RLV 1000001 U46 rfl rfl rfl ?_;refine RS (ok_shr rfl rfl (by decide)) ?_; refine RZ (nW (x.j / 256)) (by rw [show min (8 : Int).toNat IntKind.u32.bits = 8 from rfl, shr_nat]) ?_;refine RS (ok_conv U46 U5 rfl) ?_; refine RZ (byteV (UInt8.ofNat (x.j / 256))) (by rw [wrap_u8_nat]; rfl) ?_;refine RS (ok_field field57_1 (by decide) rfl) ?_;refine RLV 1000001 U46 rfl rfl rfl ?_;refine RS (ok_conv U46 U5 rfl) ?_; refine RZ (byteV (UInt8.ofNat (x.j))) (by rw [wrap_u8_nat]; rfl) ?_;refine RS (ok_buildOwn [byteV x.l, byteV (UInt8.ofNat (x.j / 16777216)), byteV (UInt8.ofNat (x.j / 65536)), byteV (UInt8.ofNat (x.j / 256)), byteV (UInt8.ofNat x.j)] U23 info5 rfl (by decide) (by decide) rfl ⟨rfl, rfl, rfl, rfl, rfl, rfl, rfl, rfl, rfl, rfl, trivial⟩ (fun d hd => by simp only [List.mem_cons, List.not_mem_nil, or_false] at hd; rcases hd with rfl | rfl | rfl | rfl | rfl <;> rfl)) ?_;refine RVN 1 rfl ?_;refine QS (GV rfl (A.block ?_));refine A.loop (ι := Nat) (fun i => i ≤ 4) (fun i => [(1, .v (ptr b1)), (3, own w₀.heap.size 5 (5 + 45 * i) (((x.l :: be 4 x.j) ++ (x.R.take i).flatMap RecT.l).map byteV)), (4, .v (nI (i))), (1000001, blk b1 57 x.v)]) (fun i => 4 - i) 0 ?_ ?_ ?_
 ·exact Nat.zero_le _
 ·exact (KC 1 rfl (KE 3 rfl (show own _ _ _ _ = own _ _ _ _ from congrArg _ (by rw [List.take_zero, List.flatMap_nil, List.append_nil, be4]; rfl)) (KE 4 rfl (by rfl) (KC 1000001 rfl KN))))
 intro i hG
 refine QS (GV rfl ?_);refine A.cond rfl (fun hc24 => ?_) (fun hc24 => ?_)
 ·have hi : i < 4 := by simp at hc24; omega
  refine QK (QSB (GT (RS (ok_field field57_0 (by decide) rfl) ?_)));refine RLV 1000001 U5 rfl rfl rfl ?_;refine RB rfl rfl rfl ?_;refine RZ (.bool true) (by simp [h0]) ?_;refine RN (A.yes rfl ?_);refine GE (TF 6 (RV 2 rfl ?_));refine RS (ok_field field57_2 (by decide) rfl) ?_;refine RS (ok_indexN (i) U52 size51 rfl rfl (rfl) (hi)) ?_;refine RS (ok_loadP (s := 1000001) (by decide) U51 rfl size51 rfl rfl (by rw [hx.len]; omega) (hx.rec_at hi)) ?_;refine RS (ok_call (refRecord_fn (x.r i).x (x.r i).s (x.r i).c (x.r i).t (hx.r i).t (hx.r i).s (hx.r i).c) (A1 rfl)) ?_;refine RN ?_;refine ⟨_, eff_appendS (vs := ((x.r i).l.map byteV)) U23 info5 (by decide) rfl rfl rfl (Le.eq (byt_vals _)) (by simp [byteV, Value.oneCell']) (by rw [List.length_map, (hx.r i).lenL]; omega) (by decide) (fun g hg => (LT 1000001 rfl (LW [1, 4] rfl))), ?_⟩
  refine TL (RVN 1 rfl ?_);refine End.normal_block (EN (GTE (RV 2 rfl ?_)));refine RZ (nI (i + 1)) (wrap_eq (by omega) (by omega)) ?_;refine RVN 1 rfl ?_;refine End.normal_then ?_;refine End.again (i + 1) ?_ ?_ ?_
  ·show _ ≤ _; omega
  ·show _ - _ < _ - _; omega
  ·exact (KC 1 rfl (KE 3 rfl (show own _ _ _ _ = own _ _ _ _ from by rw [List.length_map, (hx.r i).lenL, take_flat hx.lr hi (z := RecT.zero), ← List.append_assoc, List.map_append (l₁ := (x.l :: be 4 x.j) ++ _), show 5 + 45 * (i + 1) = 5 + 45 * i + 45 from by omega]; rfl) (KC 4 rfl (KC 1000001 rfl KN))))
 ·have hi2 : i = 4 := by simp at hc24; omega
  refine A.exit (End.exit_then (End.exit_then (End.exit_here (EN (GV rfl (A.ret ?_))))))
  subst hi2
  exact End.ret1 rfl rfl ((own_byt (by rw [List.take_of_length_le (Nat.le_of_eq hx.lr), List.length_append, flat_length (RecT.lensL hx.fr), hx.lr, List.length_cons, be_length])).trans (Le.eq (congrArg byt (by rw [List.take_of_length_le (Nat.le_of_eq hx.lr)]; unfold NodT.bl; rw [if_pos h0]; rfl))))
set_option maxHeartbeats 2000000 in
theorem rBytes_E (x : NodT) (hx : x.Fit) (h0 : ¬ x.l.toNat = 0) : Fn Tryz.prog 57 [.v (aggV x.v)] (byt x.bl) := by
 refine FV Tryz.func57 rfl Tryz.ntmps57 rfl fun w₀ => ?_
 refine GS (TN 0 (RN ?_));refine ZB 1000001 rfl fun b1 ⟨hBb1, hb1⟩ => ?_
 refine TL (RVN 1 rfl ?_);refine GT (RS (ok_field field57_0 (by decide) rfl) ?_);refine RLV 1000001 U5 rfl rfl rfl ?_;refine RS (ok_field field57_1 (by decide) rfl) ?_;refine RLV 1000001 U46 rfl rfl rfl ?_;refine RS (ok_shr rfl rfl (by decide)) ?_; refine RZ (nW (x.j / 16777216)) (by rw [show min (24 : Int).toNat IntKind.u32.bits = 24 from rfl, shr_nat]) ?_;refine RS (ok_conv U46 U5 rfl) ?_; refine RZ (byteV (UInt8.ofNat (x.j / 16777216))) (by rw [wrap_u8_nat]; rfl) ?_;refine RS (ok_field field57_1 (by decide) rfl) ?_;refine RLV 1000001 U46 rfl rfl rfl ?_;refine RS (ok_shr rfl rfl (by decide)) ?_; refine RZ (nW (x.j / 65536)) (by rw [show min (16 : Int).toNat IntKind.u32.bits = 16 from rfl, shr_nat]) ?_;refine RS (ok_conv U46 U5 rfl) ?_; refine RZ (byteV (UInt8.ofNat (x.j / 65536))) (by rw [wrap_u8_nat]; rfl) ?_;refine RS (ok_field field57_1 (by decide) rfl) ?_;refine RLV 1000001 U46 rfl rfl rfl ?_;refine RS (ok_shr rfl rfl (by decide)) ?_; refine RZ (nW (x.j / 256)) (by rw [show min (8 : Int).toNat IntKind.u32.bits = 8 from rfl, shr_nat]) ?_;refine RS (ok_conv U46 U5 rfl) ?_; refine RZ (byteV (UInt8.ofNat (x.j / 256))) (by rw [wrap_u8_nat]; rfl) ?_;refine RS (ok_field field57_1 (by decide) rfl) ?_;refine RLV 1000001 U46 rfl rfl rfl ?_;refine RS (ok_conv U46 U5 rfl) ?_; refine RZ (byteV (UInt8.ofNat (x.j))) (by rw [wrap_u8_nat]; rfl) ?_;refine RS (ok_buildOwn [byteV x.l, byteV (UInt8.ofNat (x.j / 16777216)), byteV (UInt8.ofNat (x.j / 65536)), byteV (UInt8.ofNat (x.j / 256)), byteV (UInt8.ofNat x.j)] U23 info5 rfl (by decide) (by decide) rfl ⟨rfl, rfl, rfl, rfl, rfl, rfl, rfl, rfl, rfl, rfl, trivial⟩ (fun d hd => by simp only [List.mem_cons, List.not_mem_nil, or_false] at hd; rcases hd with rfl | rfl | rfl | rfl | rfl <;> rfl)) ?_;refine RVN 1 rfl ?_;refine QS (GV rfl (A.block ?_));refine A.loop (ι := Nat) (fun i => i ≤ 4) (fun i => [(1, .v (ptr b1)), (3, own w₀.heap.size 5 (5 + 33 * i) (((x.l :: be 4 x.j) ++ (x.E.take i).flatMap EntT.l).map byteV)), (4, .v (nI (i))), (1000001, blk b1 57 x.v)]) (fun i => 4 - i) 0 ?_ ?_ ?_
 ·exact Nat.zero_le _
 ·exact (KC 1 rfl (KE 3 rfl (show own _ _ _ _ = own _ _ _ _ from congrArg _ (by rw [List.take_zero, List.flatMap_nil, List.append_nil, be4]; rfl)) (KE 4 rfl (by rfl) (KC 1000001 rfl KN))))
 intro i hG
 refine QS (GV rfl ?_);refine A.cond rfl (fun hc24 => ?_) (fun hc24 => ?_)
 ·have hi : i < 4 := by simp at hc24; omega
  refine QK (QSB (GT (RS (ok_field field57_0 (by decide) rfl) ?_)));refine RLV 1000001 U5 rfl rfl rfl ?_;refine RB rfl rfl rfl ?_;refine RZ (.bool false) (by simp; omega) ?_;refine RN (A.no rfl ?_);refine GE (TF 6 (RV 2 rfl ?_));refine RS (ok_field field57_3 (by decide) rfl) ?_;refine RS (ok_indexN (i) U55 size54 rfl rfl (rfl) (hi)) ?_;refine RS (ok_loadP (s := 1000001) (by decide) U54 rfl size54 rfl rfl (by rw [hx.len]; omega) (hx.ent_at hi)) ?_;refine RS (ok_call (refEntry_fn (x.e i).x (x.e i).t (hx.e i).t) (A1 rfl)) ?_;refine RN ?_;refine ⟨_, eff_appendS (vs := ((x.e i).l.map byteV)) U23 info5 (by decide) rfl rfl rfl (Le.eq (byt_vals _)) (by simp [byteV, Value.oneCell']) (by rw [List.length_map, (hx.e i).lenL]; omega) (by decide) (fun g hg => (LT 1000001 rfl (LW [1, 4] rfl))), ?_⟩
  refine TL (RVN 1 rfl ?_);refine End.normal_block (EN (GTE (RV 2 rfl ?_)));refine RZ (nI (i + 1)) (wrap_eq (by omega) (by omega)) ?_;refine RVN 1 rfl ?_;refine End.normal_then ?_;refine End.again (i + 1) ?_ ?_ ?_
  ·show _ ≤ _; omega
  ·show _ - _ < _ - _; omega
  ·exact (KC 1 rfl (KE 3 rfl (show own _ _ _ _ = own _ _ _ _ from by rw [List.length_map, (hx.e i).lenL, take_flat hx.le hi (z := EntT.zero), ← List.append_assoc, List.map_append (l₁ := (x.l :: be 4 x.j) ++ _), show 5 + 33 * (i + 1) = 5 + 33 * i + 33 from by omega]; rfl) (KC 4 rfl (KC 1000001 rfl KN))))
 ·have hi2 : i = 4 := by simp at hc24; omega
  refine A.exit (End.exit_then (End.exit_then (End.exit_here (EN (GV rfl (A.ret ?_))))))
  subst hi2
  exact End.ret1 rfl rfl ((own_byt (by rw [List.take_of_length_le (Nat.le_of_eq hx.le), List.length_append, flat_length (EntT.lensL hx.fe), hx.le, List.length_cons, be_length])).trans (Le.eq (congrArg byt (by rw [List.take_of_length_le (Nat.le_of_eq hx.le)]; unfold NodT.bl; rw [if_neg h0]; rfl))))
theorem rBytes_fn (x : NodT) (hx : x.Fit) : Fn Tryz.prog 57 [.v (aggV x.v)] (byt x.bl) := by
 by_cases h : x.l.toNat = 0
 ·exact rBytes_R x hx h
 ·exact rBytes_E x hx h
theorem rDigest_fn (x : NodT) (hx : x.Fit) (h5 : x.l.toNat ≤ 5) : Fn Tryz.prog 24 [.v (aggV x.v)] (.v (aggV ((sha x.bl).map byteV))) := by
 refine FV Tryz.func24 rfl Tryz.ntmps24 rfl fun w₀ => ?_
 refine GS (TN 0 (RN ?_));refine ZB 1000001 rfl fun b1 ⟨hBb1, hb1⟩ => ?_
 refine TN 1 (RN ?_);refine ZN 1000002 zero40 fun b2 ⟨hBb2, hb2⟩ => ?_
 refine TL (RN (GS (TF 3 (RL 1000001 U57 rfl rfl (size57.of (hx.len)) ?_))));refine RS (ok_call (rBytes_fn x hx) (A1 rfl)) ?_;refine RS (ok_call (refSum_fn x.bl (by rw [hx.bl_length]; have := sz_le x.l.toNat; omega)) (Args.cons rfl LA Args.nil)) ?_;refine RN ?_;refine ⟨_, eff_storeA (n := 6) (s := 1000002) (size40.of (by rw [List.length_map, sha_length])) rfl rfl (all_bytes _) hBb2 rfl (by rw [List.length_map, sha_length]; rfl) (LV 2 rfl (LT 1000001 rfl LN)), ?_⟩
 refine TL (RN (A.ret ?_));exact End.cell1 (s := 1000002) rfl U40 rfl (size40.of (by rw [List.length_map, sha_length])) rfl rfl (Le.refl _)
def digS (s : UInt8) : List UInt8 := (List.range 32).map fun i => UInt8.ofNat (s.toNat + 7 * i)
theorem digS_len (s : UInt8) : (digS s).length = 32 := by simp [digS]
theorem digS_get {s : UInt8} {i : Nat} (h : i < 32) : (digS s)[i]? = some (UInt8.ofNat (s.toNat + 7 * i)) := by simp [digS, h]
def recOf (a b : UInt8) : RecT := if a.toNat % 3 = 0 then RecT.zero else ⟨UInt8.ofNat (a.toNat % 3), b.toNat % 8, b.toNat * 257, digS b⟩
theorem mod3 {a : UInt8} (h : ¬ a.toNat % 3 = 0) : (UInt8.ofNat (a.toNat % 3)).toNat = a.toNat % 3 := by rw [UInt8.toNat_ofNat', Nat.mod_eq_of_lt (by omega)]
theorem recOf_fit (a b : UInt8) : (recOf a b).Fit := by
 unfold recOf
 have := b.toNat_lt
 split
 ·exact RecT.zero_fit
 ·exact ⟨digS_len b, by show b.toNat % 8 < _; omega, by show b.toNat * 257 < _; omega⟩
theorem recOf_ok (a b : UInt8) : ¬ (recOf a b).Bad := by
 unfold recOf
 split
 ·exact RecT.zero_ok
 ·rename_i h
  unfold RecT.Bad BadR
  simp only [mod3 h]
  omega
theorem lDigest_fn (s : UInt8) : Fn Tryz.prog 64 [.v (byteV s)] (.v (aggV ((digS s).map byteV))) := by
 refine FV Tryz.func64 rfl Tryz.ntmps64 rfl fun w₀ => ?_
 refine GS (TN 0 (RN ?_));refine ZN 1000002 zero40 fun b2 ⟨hBb2, hb2⟩ => ?_
 refine TL (RN (GS (TN 0 (RN ?_))));refine ZN 1000003 zero40 fun b3 ⟨hBb3, hb3⟩ => ?_
 have hlt_b2_b3 := hb3 1000002 b2 _ _ rfl
 refine TL (RN (QS (GV rfl (A.block ?_))));refine A.loop (ι := Nat) (fun i => i ≤ 32) (fun i => [(0, .v (byteV s)), (2, .v (ptr b2)), (3, .v (ptr b3)), (4, .v (nI (i))), (1000002, blk b2 40 (List.replicate 32 (.int .u8 0))), (1000003, blk b3 40 (((digS s).take i).map byteV ++ List.replicate ((digS s).length - i) (.int .u8 0)))]) (fun i => 32 - i) 0 ?_ ?_ ?_
 ·exact Nat.zero_le _
 ·exact (KC 0 rfl (KC 2 rfl (KC 3 rfl (KE 4 rfl (by rfl) (KC 1000002 rfl (KE 1000003 rfl (by rw [digS_len]; rfl) KN))))))
 intro i hG
 refine QS (GV rfl ?_);refine A.cond rfl (fun hc6 => ?_) (fun hc6 => ?_)
 ·have hi : i < 32 := by simp at hc6; omega
  refine QK (QSB (GE (TF 7 (RV 4 rfl ?_))));refine RZ (nI (7 * i)) (wrap_eq (by omega) (by omega)) ?_;refine RS (ok_conv U3 U5 rfl) ?_; refine RZ (byteV (UInt8.ofNat (7 * i))) (by rw [wrap_u8_nat]; rfl) ?_;refine RB rfl rfl rfl ?_;refine RZ (byteV (UInt8.ofNat (s.toNat + 7 * i))) (add_u8 s (7 * i)) ?_;refine RS (ok_index0 (i) U40 info5 rfl rfl (rfl) (hi)) ?_;refine RN ?_;refine ⟨_, eff_storeS (n := 17) (s := 1000003) info5 rfl rfl rfl hBb3 rfl (by simp [digS_len]; omega) (LB 1000002 rfl (LW [0, 2, 3, 4] rfl)), ?_⟩
  refine TL (RN (End.normal_block (EN (GTE (RV 2 rfl ?_)))));refine RZ (nI (i + 1)) (wrap_eq (by omega) (by omega)) ?_;refine RVN 1 rfl ?_;refine End.normal_then ?_;refine End.again (i + 1) ?_ ?_ ?_
  ·show _ ≤ _; omega
  ·show _ - _ < _ - _; omega
  ·exact (KC 0 rfl (KC 2 rfl (KC 3 rfl (KC 4 rfl (KC 1000002 rfl (KE 1000003 rfl (congrArg _ (fill_step (digS_get hi))) KN))))))
 ·have hi2 : i = 32 := by simp at hc6; omega
  refine A.exit (End.exit_then (End.exit_then (End.exit_here (EN (GS (TF 1 (RL 1000003 U40 rfl rfl (size40.of (by rw [List.length_append, List.length_map, List.length_take, List.length_replicate, digS_len]; omega)) ?_))))))); refine RZ (aggV ((digS s).map byteV)) (by subst hi2; rw [digS_len, Nat.sub_self, List.replicate_zero, List.append_nil, List.take_of_length_le (by rw [digS_len]; exact Nat.le_refl _)]) ?_;refine RN ?_;refine ⟨_, eff_storeA (n := 17) (s := 1000002) (size40.of (by rw [List.length_map, digS_len])) rfl rfl (all_bytes _) hBb2 rfl (by rw [List.length_map, digS_len]; rfl) (LV 2 rfl (LB 1000003 rfl LN)), ?_⟩
  refine TL (RN (A.ret ?_));exact End.cell1 (s := 1000002) rfl U40 rfl (size40.of (by rw [List.length_map, digS_len])) rfl rfl (Le.refl _)
theorem lRecord_z (a b : UInt8) (h : a.toNat % 3 = 0) : Fn Tryz.prog 37 [.v (byteV a), .v (byteV b)] (.v (aggV RecT.zero.v)) := by
 refine FV Tryz.func37 rfl Tryz.ntmps37 rfl fun w₀ => ?_
 refine GS (TN 0 (RN ?_));refine ZN 1000004 zero51 fun b4 ⟨hBb4, hb4⟩ => ?_
 refine TL (RN (QS (GT (RM rfl ?_))));refine RS (ok_rem rfl rfl (by decide)) ?_; refine RZ (nB (a.toNat % 3)) (by rw [tmod_lit _ (by decide)]; rfl) ?_;refine RB rfl rfl rfl ?_;refine RZ (.bool true) (by simp [h]) ?_;refine RN (A.yes rfl ?_);refine GS (TF 1 (RS (ok_lit [] (RecT.v RecT.zero) (fun _ _ => rfl) (by kernel_rfl)) ?_));refine RN ?_;refine ⟨_, eff_storeA (n := 21) (s := 1000004) (size51.of (rfl)) rfl rfl (by first | exact NodT.one _ | exact RecT.one _ | exact EntT.one _ | exact RecT.all1 _ | exact EntT.all1 _ | exact all_byte _ | exact all_bytes _) hBb4 rfl (by first | rfl | (rw [rfl]; rfl)) (LV 4 rfl LN), ?_⟩
 refine TL (RN (A.ret (End.ret_then ?_)));exact End.cell1 (s := 1000004) rfl U51 rfl (size51.of (rfl)) rfl rfl (Le.refl _)
theorem buildRec {x : Nat} {a : UInt8} (s c : Nat) (t : List UInt8) (hx : a.toNat = x) (ht : t.length = 32) : Tryz.prog.built 51 [(0, .int .u8 (x : Int)), (1, aggV [.int .u32 (s : Int), .int .u64 (c : Int)]), (2, aggV (t.map byteV))] = some (RecT.v ⟨a, s, c, t⟩).toArray := by
 subst hx
 match t, ht with
 | [a0, a1, a2, a3, a4, a5, a6, a7, a8, a9, b0, b1, b2, b3, b4, b5, b6, b7, b8, b9, c0, c1, c2, c3, c4, c5, c6, c7, c8, c9, d0, d1], _ => show _ = _; kernel_rfl
theorem lRecord_n (a b : UInt8) (h : ¬ a.toNat % 3 = 0) : Fn Tryz.prog 37 [.v (byteV a), .v (byteV b)] (.v (aggV (RecT.v ⟨UInt8.ofNat (a.toNat % 3), b.toNat % 8, b.toNat * 257, digS b⟩))) := by
 refine FV Tryz.func37 rfl Tryz.ntmps37 rfl fun w₀ => ?_
 refine GS (TN 0 (RN ?_));refine ZN 1000004 zero51 fun b4 ⟨hBb4, hb4⟩ => ?_
 refine TL (RN (QS (GT (RM rfl ?_))));refine RS (ok_rem rfl rfl (by decide)) ?_; refine RZ (nB (a.toNat % 3)) (by rw [tmod_lit _ (by decide)]; rfl) ?_;refine RB rfl rfl rfl ?_;refine RZ (.bool false) (by simp; omega) ?_;refine RN (A.no rfl ?_);refine QK (GS (TF 12 (RM rfl ?_)));refine RS (ok_rem rfl rfl (by decide)) ?_; refine RZ (nB (a.toNat % 3)) (by rw [tmod_lit _ (by decide)]; rfl) ?_;refine RM rfl ?_;refine RS (ok_rem rfl rfl (by decide)) ?_; refine RZ (nB (b.toNat % 8)) (by rw [tmod_lit _ (by decide)]; rfl) ?_;refine RS (ok_conv U5 U46 rfl) ?_; refine RZ (nW (b.toNat % 8)) (congrArg _ (wrap_u32 (by omega) (by omega))) ?_;refine RM rfl ?_;refine RS (ok_conv U5 U47 rfl) ?_; refine RZ (.int .u64 (b.toNat : Int)) (congrArg _ (wrap_u64 (by omega) (by have := b.toNat_lt; omega))) ?_;refine RB rfl rfl rfl ?_;refine RZ (nQ (b.toNat * 257)) (by rw [show ((b.toNat : Int) * 257) = ((b.toNat * 257 : Nat) : Int) from by omega]; exact congrArg _ (wrap_u64 (by omega) (by have := b.toNat_lt; omega))) ?_;refine RS (ok_litS [(0, nW (b.toNat % 8)), (1, nQ (b.toNat * 257))] [nW (b.toNat % 8), nQ (b.toNat * 257)] ⟨rfl, rfl, rfl, rfl, trivial⟩ (buildN _ _)) ?_;refine RM rfl ?_;refine RS (ok_call (lDigest_fn b) (A1 rfl)) ?_;refine RS (ok_litS [(0, nB (a.toNat % 3)), (1, aggV [nW (b.toNat % 8), nQ (b.toNat * 257)]), (2, aggV ((digS b).map byteV))] (RecT.v ⟨UInt8.ofNat (a.toNat % 3), b.toNat % 8, b.toNat * 257, digS b⟩) ⟨rfl, rfl, rfl, rfl, rfl, rfl, trivial⟩ (buildRec _ _ _ (mod3 h) (digS_len b))) ?_;refine RN ?_;refine ⟨_, eff_storeA (n := 21) (s := 1000004) (size51.of (by have h9 := (recOf_fit a b).len; rw [show recOf a b = _ from if_neg h] at h9; exact h9)) rfl rfl (RecT.one _) hBb4 rfl (by have h9 := (recOf_fit a b).len; rw [show recOf a b = _ from if_neg h] at h9; rw [h9]; rfl) (LV 4 rfl LN), ?_⟩
 refine TL (RN (A.ret ?_));exact End.cell1 (s := 1000004) rfl U51 rfl (size51.of (by have h9 := (recOf_fit a b).len; rw [show recOf a b = _ from if_neg h] at h9; exact h9)) rfl rfl (Le.refl _)
theorem lRecord_fn (a b : UInt8) : Fn Tryz.prog 37 [.v (byteV a), .v (byteV b)] (.v (aggV (recOf a b).v)) := by
 by_cases h : a.toNat % 3 = 0
 ·rw [show recOf a b = RecT.zero from if_pos h]; exact lRecord_z a b h
 ·rw [show recOf a b = _ from if_neg h]; exact lRecord_n a b h
end
section
theorem rNumber_fn (n : Nat) (h1 : 1 ≤ n) (h2 : n ≤ 4096) (l j : Nat) (hl : l ≤ hg n) (hj : j < 100000)  : Fn Tryz.prog 51 [.v (nI (n)), .v (nI (l)), .v (nI (j))] (.v (nI (tot n l + j))) := by
 have hh := hg_le n
 refine FV Tryz.func51 rfl Tryz.ntmps51 rfl fun w₀ => ?_
 refine GV rfl (GV rfl (QS (GV rfl (A.block ?_))));refine A.loop (ι := Nat) (fun i => i ≤ l) (fun i => [(0, .v (nI (n))), (1, .v (nI (l))), (7, .v (nI (tot n i + j))), (8, .v (nI (i)))]) (fun i => l - i) 0 ?_ ?_ ?_
 ·exact Nat.zero_le _
 ·exact (KC 0 rfl (KC 1 rfl (KE 7 rfl (by rw [tot_zero, Nat.zero_add]) (KE 8 rfl (by rfl) KN))))
 intro i hi'
 refine QS (GV rfl ?_);refine A.cond rfl (fun hc12 => ?_) (fun hc12 => ?_)
 ·have hi2 : i < l := by simp at hc12; omega
  refine QK (QSB (GTE (RV 3 rfl ?_)));refine RS (ok_call (rCount_fn n h1 h2 i (by omega)) (A2 rfl rfl)) ?_;refine RB rfl rfl rfl ?_;refine RZ (nI (tot n (i + 1) + j)) (by rw [show ((tot n i + j : Nat) : Int) + ((un n (i + 1) : Nat) : Int) = ((tot n (i + 1) + j : Nat) : Int) from by rw [tot_succ]; omega]; exact wrap_eq rfl (by have := tot_small h1 h2 (show i + 1 ≤ 6 by omega); omega)) ?_;refine RVN 1 rfl ?_;refine End.normal_block (EN (GTE (RV 2 rfl ?_)));refine RZ (nI (i + 1)) (wrap_eq (by omega) (by omega)) ?_;refine RVN 1 rfl ?_;refine End.normal_then ?_;refine End.again (i + 1) ?_ ?_ ?_
  ·show _ ≤ _; omega
  ·show _ - _ < _ - _; omega
  ·exact (Sv [0, 1, 7, 8] rfl)
 ·have hi2 : i = l := by simp at hc12; omega
  refine A.exit (End.exit_then (End.exit_then (End.exit_here (EN (GV rfl (A.ret ?_))))));exact End.ret1 rfl rfl (Le.eq (by rw [hi2]))
theorem rTotal_fn (n : Nat) (h1 : 1 ≤ n) (h2 : n ≤ 4096)  : Fn Tryz.prog 36 [.v (nI (n))] (.v (nI (tot n (hg n + 1)))) := by
 have hh := hg_le n
 have htp := un_top h1 h2
 refine FV Tryz.func36 rfl Tryz.ntmps36 rfl fun w₀ => ?_
 refine GV rfl (GT (RV 2 rfl ?_));refine RS (ok_call (rHeight_fn n h1 h2) (A1 rfl)) ?_;refine RS (ok_call (rNumber_fn n h1 h2 (hg n) 0 (Nat.le_refl _) (by decide)) (A3 rfl rfl rfl)) ?_;refine RB rfl rfl rfl ?_;refine RZ (nI (tot n (hg n + 1))) (by rw [← htp]; exact wrap_eq rfl (by have := tot_small h1 h2 (show hg n + 1 ≤ 6 by omega); omega)) ?_;refine RVN 1 rfl ?_;refine A.ret ?_;exact ER rfl rfl
end
section
end
structure VarN where
 a : Nat
 t : Nat
 T : TypeId
 zs : List Value
 s : Nat
 ys : List Value
section
theorem ver_at {n x i : Nat} {d : List UInt8} {T : List NodT} {e : Int} (h1 : 1 ≤ n) (h2 : n ≤ 4096) (hx : x < n) (hl0 : 0 < T.length) (hlh : T.length ≤ hg n + 1) (hz : ∀ k, k < i → verE n d x T k = 0) (hi : i < T.length) (he : verE n d x T i = e) (h0 : e ≠ 0) : ver n d x T = e ∧ verR n d x T = RecT.zero := by
 have hv := ver_ok (d := d) h1 h2 hx (T := T) (by omega)
 have hf := fstN_at hz (by rw [he]; exact h0) hi
 rw [hf, he] at hv
 exact ⟨hv, verR_no (by rw [hv]; exact h0)⟩
end
section
variable {κ : Cx}
theorem Le.blkR {b : Nat} {e : TypeId} {xs ys : List Value} : Le (blk b e (xs ++ ys)) (memR (some ⟨b, 0, none⟩) xs) := fun B w _ h j u hu => by
 obtain ⟨h1, h2⟩ := h
 refine ⟨_, rfl, h1, ?_⟩
 rw [show (⟨b, 0, none⟩ : Addr).add j = ⟨b, j, none⟩ from by unfold Addr.add; split <;> simp_all]
 simp only [World.cell?, h2]
 have : (xs ++ ys)[j]? = some u := by rw [List.getElem?_append_left (List.getElem?_eq_some_iff.1 hu).1]; exact hu
 simpa using this
theorem Le.blkR0 {b : Nat} {e : TypeId} {xs : List Value} : Le (blk b e xs) (memR (some ⟨b, 0, none⟩) xs) := by
 have h := Le.blkR (b := b) (e := e) (xs := xs) (ys := [])
 rwa [List.append_nil] at h
end
section
end
section
theorem Le.memNil {d : D} {A₀ : Option Addr} : Le d (memR A₀ []) := fun _ _ _ _ j u hu => by cases hu
def lvR : List RecT := [recOf 1 7, RecT.zero, RecT.zero, RecT.zero, RecT.zero]
def lvS : List Nat := [1, 0, 0]
def lzR : List RecT := [RecT.zero]
def lzS : List Nat := [0]
theorem lvR_fit : FitR lvR := fun r hr => by
 simp only [lvR, List.mem_cons, List.not_mem_nil, or_false] at hr
 rcases hr with rfl | rfl | rfl | rfl | rfl
 ·exact recOf_fit _ _
 all_goals exact RecT.zero_fit
theorem lvR_ok : OkR lvR := fun r hr => by
 simp only [lvR, List.mem_cons, List.not_mem_nil, or_false] at hr
 rcases hr with rfl | rfl | rfl | rfl | rfl
 ·exact recOf_ok _ _
 all_goals exact RecT.zero_ok
theorem lvS_ok : OkS lvS := fun r hr => by
 simp only [lvS, List.mem_cons, List.not_mem_nil, or_false] at hr
 rcases hr with rfl | rfl | rfl <;> simp
theorem lzR_fit : FitR lzR := fun r hr => by
 simp only [lzR, List.mem_cons, List.not_mem_nil, or_false] at hr
 subst hr; exact RecT.zero_fit
theorem lzR_ok : OkR lzR := fun r hr => by
 simp only [lzR, List.mem_cons, List.not_mem_nil, or_false] at hr
 subst hr; exact RecT.zero_ok
theorem lzS_ok : OkS lzS := fun r hr => by
 simp only [lzS, List.mem_cons, List.not_mem_nil, or_false] at hr
 subst hr; simp
def lvT : List NodT := treR lvR lvS (tot lvR.length (hg lvR.length + 1))
def lzT : List NodT := treR lzR lzS (tot lzR.length (hg lzR.length + 1))
theorem lvT_len : lvT.length = 3 := by unfold lvT; rw [treR_length]; decide
theorem lzT_len : lzT.length = 1 := by unfold lzT; rw [treR_length]; decide
theorem lvT_fit : FitT lvT := treR_fit lvR_fit _ (by decide) (by decide) (Nat.le_refl _)
theorem lzT_fit : FitT lzT := treR_fit lzR_fit _ (by decide) (by decide) (Nat.le_refl _)
theorem lvT_tree : Tree 5 lvT := treR_tree lvR_ok lvS_ok (by decide) (by decide)
theorem lzT_tree : Tree 1 lzT := treR_tree lzR_ok lzS_ok (by decide) (by decide)
theorem lzT_at : ndAt lzT (tot 1 (hg 1)) = NodT.emp 0 0 := by
 have h := treR_at (R := lzR) (S := lzS) (m := tot lzR.length (hg lzR.length + 1)) (l := 0) (j := 0) (by decide) (by decide) (by decide)
 exact h.trans (by rw [nodR_zero]; rfl)
theorem lvT_0 : ndAt lvT 0 = grpR lvR 0 := by
 have h := treR_at (R := lvR) (S := lvS) (m := tot lvR.length (hg lvR.length + 1)) (l := 0) (j := 0) (by decide) (by decide) (by decide)
 rw [nodR_zero] at h; exact h
theorem lvT_1 : ndAt lvT 1 = grpR lvR 1 := by
 have h := treR_at (R := lvR) (S := lvS) (m := tot lvR.length (hg lvR.length + 1)) (l := 0) (j := 1) (by decide) (by decide) (by decide)
 rw [nodR_zero] at h; exact h
theorem lvT_2 : ndAt lvT 2 = nodR lvR lvS 1 0 := treR_at (R := lvR) (S := lvS) (m := tot lvR.length (hg lvR.length + 1)) (l := 1) (j := 0) (by decide) (by decide) (by decide)
def lvE : EntT := ⟨2, sha (grpR lvR 0).bl⟩
theorem lvT_E : (ndAt lvT 2).E = [lvE, EntT.zero, EntT.zero, EntT.zero] := by
 have e0 : emF lvR.length (recAt lvR) 0 (4 * 0 + 0) = false := by decide +kernel
 have e1 : emF lvR.length (recAt lvR) 0 (4 * 0 + 1) = true := by decide +kernel
 rw [lvT_2]
 apply ext4 (by rw [nodR_succ]; exact pg_length _ _ _) rfl EntT.zero
 intro i hi
 show (nodR lvR lvS (0 + 1) 0).e i = _
 rw [nodR_e hi]
 match i, hi with
 | 0, _ => rw [if_pos (by decide), e0]; rfl
 | 1, _ => rw [if_pos (by decide), e1]; rfl
 | 2, _ => rw [if_neg (by decide)]; rfl
 | 3, _ => rw [if_neg (by decide)]; rfl
theorem em_0 : emT 5 lvT 0 0 = false := by
 unfold emT; rw [lvT_0]; decide +kernel
theorem em_1 : emT 5 lvT 0 1 = true := by
 unfold emT; rw [lvT_1]; decide +kernel
theorem mny_0 : mny 5 lvT 0 = 2 := by
 show runTo _ 1 1 = 2
 unfold runTo
 rw [show emT 5 lvT (hg 5 - 1) (pidx 5 0 1) = false from em_0]; rfl
theorem mny_4 : mny 5 lvT 4 = 1 := by
 show runTo _ 1 1 = 1
 unfold runTo
 rw [show emT 5 lvT (hg 5 - 1) (pidx 5 4 1) = true from em_1]; rfl
def pfA : List NodT := pthT 5 lvT 0 2
def pfB : List NodT := pthT 5 lvT 4 1
theorem pfA_len : pfA.length = 2 := pthT_length _ _ _ _
theorem pfB_len : pfB.length = 1 := pthT_length _ _ _ _
theorem pfA_fit : FitT pfA := pthT_fit lvT_fit _ _
theorem pfB_fit : FitT pfB := pthT_fit lvT_fit _ _
def lvD : List UInt8 := sha (ndAt lvT (tot 5 (hg 5))).bl
theorem lvD_len : lvD.length = 32 := sha_length _
theorem lv_rec {n : Nat} {T : List NodT} (h : Tree n T) : ∀ i, i < n → (recT T i).x.toNat = 0 → recT T i = RecT.zero := fun i hi hx => by
 have h1 : i / 4 < un n (0 + 1) := by have := div_lt_un hi 1; simpa using this
 have hf := h.fit (l := 0) (j := i / 4) (Nat.zero_le _) h1
 rw [tot_zero, Nat.zero_add] at hf
 have hb := ((NodT.ck_ok hf.2.2.1).2.1 hf.1).2 (i % 4) (Nat.mod_lt _ (by decide))
 unfold RecT.Bad BadR at hb
 refine RecT.z_iff.1 ⟨hx, Classical.byContradiction fun hh => hb (.inr ⟨hx, hh⟩)⟩
theorem verA : ver 5 lvD 0 pfA = 0 ∧ verR 5 lvD 0 pfA = recOf 1 7 := by
 have h := lvT_tree.prf (x := 0) (by decide)
 have h2 := lvT_tree.prf_rec (x := 0) (by decide) (lv_rec lvT_tree)
 rw [mny_0] at h h2
 refine ⟨h.ver, h2.trans ?_⟩
 unfold recT; rw [show 0 / 4 = 0 from rfl, lvT_0, grpR_r (by decide)]; rfl
theorem verB : ver 5 lvD 4 pfB = 0 ∧ verR 5 lvD 4 pfB = RecT.zero := by
 have h := lvT_tree.prf (x := 4) (by decide)
 have h2 := lvT_tree.prf_rec (x := 4) (by decide) (lv_rec lvT_tree)
 rw [mny_4] at h h2
 refine ⟨h.ver, h2.trans ?_⟩
 unfold recT; rw [show 4 / 4 = 1 from rfl, lvT_1, grpR_r (by decide)]; rfl
theorem verC : ver 5 lvD 0 [] = 1 ∧ verR 5 lvD 0 [] = RecT.zero := by
 have h : ver 5 lvD 0 [] = 1 := ver_len (n := 5) (x := 0) (by decide) (by decide) (by decide) (.inl rfl)
 exact ⟨h, verR_no (by rw [h]; decide)⟩
theorem src5 : srcE 5 [RecT.zero, RecT.zero, RecT.zero, RecT.zero] [0, 0, 0] = 1 := srcE_no fun h => absurd h.2.2.1 (by decide)
theorem lv_buildR : Tryz.prog.built 52 [(0, aggV (recOf 1 7).v)] = some (recsV [recOf 1 7, RecT.zero, RecT.zero, RecT.zero]).toArray := by kernel_rfl
theorem lv_buildX : Tryz.prog.built 57 [(2, aggV (recsV [recOf 1 7, RecT.zero, RecT.zero, RecT.zero]))] = some (grpR lvR 0).v.toArray := by kernel_rfl
theorem lv_buildE (x : UInt8) (t : List UInt8) (ht : t.length = 32) : Tryz.prog.built 55 [(0, aggV (EntT.v ⟨x, t⟩))] = some (entsV [⟨x, t⟩, EntT.zero, EntT.zero, EntT.zero]).toArray := by
 match t, ht with
 | [a0, a1, a2, a3, a4, a5, a6, a7, a8, a9, b0, b1, b2, b3, b4, b5, b6, b7, b8, b9, c0, c1, c2, c3, c4, c5, c6, c7, c8, c9, d0, d1], _ => show _ = _; kernel_rfl
theorem lv_part (ys : List Value) : ((nodsV lvT ++ ys).drop (0 + 2 * 274 + 142)).take 132 = entsV [lvE, EntT.zero, EntT.zero, EntT.zero] := by
 have h1 := nods_at lvT_fit (i := 2) (by rw [lvT_len]; decide)
 have hl := nods_len lvT_fit
 rw [lvT_len] at hl
 rw [List.drop_append_of_le_length (by omega), List.take_append_of_le_length (by rw [List.length_drop]; omega)]
 have h2 : (((nodsV lvT).drop (2 * 274)).take 274).drop 142 = entsV (ndAt lvT 2).E := by
  rw [h1]
  have hf := lvT_fit.at 2
  show List.drop 142 ([byteV _, .int .u32 _] ++ (recsV (ndAt lvT 2).R ++ entsV (ndAt lvT 2).E)) = _
  rw [← List.append_assoc, List.drop_left']
  rw [List.length_append, recs_len hf.fr, hf.lr]; rfl
 rw [lvT_E] at h2
 rw [← h2, List.drop_take, List.drop_drop]
theorem zr4_fit : FitR [RecT.zero, RecT.zero, RecT.zero, RecT.zero] := fun r hr => by
 simp only [List.mem_cons, List.not_mem_nil, or_false, or_self] at hr
 subst hr; exact RecT.zero_fit
theorem lvE_kin : Kin (fun _ _ => True) (List.replicate 4 (.u8 :: List.replicate 32 .u8)).flatten (entsV [lvE, EntT.zero, EntT.zero, EntT.zero]) := by
 have h := EntT.kins (R := [lvE, EntT.zero, EntT.zero, EntT.zero]) (fun e he => by
  simp only [List.mem_cons, List.not_mem_nil, or_false] at he
  rcases he with rfl | rfl | rfl | rfl
  ·exact ⟨sha_length _⟩
  all_goals exact EntT.zero_fit)
 exact h
theorem flat55e : flat Tryz.prog 5 55 = some (List.replicate 4 (.u8 :: List.replicate 32 .u8)).flatten := by kernel_rfl
set_option maxHeartbeats 16000000 in
theorem lives16_fn  : FnM Tryz.prog 19 tabE [] (.v (.bool true)) := by
 refine FnM.of Tryz.func19 rfl (by kernel_rfl) Tryz.ntmps19 (by simp) (by decide) (fun w => [(1900000, tabH 0 ([errT])), (1900001, tab 1 (sizV)), (1900002, tab 2 (H8.list.map u32V)), (1900003, tab 3 (K64.map u32V))]) (fun w => (StartM.m (by simp [tabE]) (by decide) (StartM.m (by simp [tabE]) (by decide) (StartM.m (by simp [tabE]) (by decide) (StartM.m (by simp [tabE]) (by decide) StartM.nil))))) fun w₀ hM => ?_
 have htab := tabE_hi hM
 refine GV rfl (GS (TN 1 (RS (ok_call (lRecord_fn 1 7) (A2 rfl rfl)) ?_)));refine RN ?_;refine ZN 1000001 zero51 fun b1 ⟨hBb1, hb1⟩ => ?_
 refine TF 2 (RN ?_);refine ⟨_, eff_storeA (n := 149) (s := 1000001) (size51.of ((recOf_fit 1 7).len)) rfl rfl (RecT.one _) hBb1 rfl (by rw [(recOf_fit 1 7).len]; rfl) (LV 1 rfl (LeftS.cons (t := 1900000) rfl (Surv.tabH (by omega)) (LQ 1900001 rfl (LQ 1900002 rfl (LQ 1900003 rfl LN))))), ?_⟩
 refine TL (RN (GS (TN 1 (RS (ok_lit [] (RecT.v RecT.zero) (fun _ _ => rfl) (by kernel_rfl)) ?_))));refine RN ?_;refine ZM 1000019 (fun B' => ok_buildG (m := 1) [(0, aggV RecT.zero.v)] (recsV lzR) U26 infoP51 ⟨rfl, rfl, trivial⟩ (by kernel_rfl) (by decide) (by decide)) rfl fun b19 ⟨hBb19, hb19⟩ => ?_
 have hlt_b1_b19 := hb19 1000001 b1 _ _ rfl
 refine TN 2 (RN ?_);refine ZM 1000020 (fun B' => ok_buildG (m := 1) [(0, nI 0)] (slotV lzS) U27 infoPI ⟨rfl, rfl, trivial⟩ (by kernel_rfl) (by decide) (by decide)) rfl fun b20 ⟨hBb20, hb20⟩ => ?_
 have hlt_b1_b20 := hb20 1000001 b1 _ _ rfl
 have hlt_b19_b20 := hb20 1000019 b19 _ _ rfl
 refine RunTK.newG 3 (by decide) rfl (.inl rfl) ?_;refine RN ?_;refine ⟨_, _, _, eff_nameY (n := 149) (d := 21) (k := 1000021) rfl rfl (fun B' => ok_callMBK (Build_okB lzR lzR_fit (by decide) (by decide) lzR_ok lzS lzS_ok (by decide) ⟨b19, 0, none⟩ ⟨b20, 0, none⟩ 1 1 (by decide)) newY_mono (SubK.app (SubK.of (Sub.cons rfl (Sub.cons rfl (Sub.cons rfl KN))) tabN_v) (SubK.cons (k := 1000019) (by decide) rfl Le.blkR0 (SubK.cons (k := 1000020) (by decide) rfl Le.blkR0 SubK.nil))) (A3 rfl rfl rfl)) (by decide) (by decide), fun x21 hx21 => ?_⟩
 obtain ⟨g21, y21⟩ := x21
 have hBg21 : w₀.heap.size ≤ g21 := hx21.1
 refine TN 7 (RV 2 rfl ?_);refine RZ (aggV [nI 1, .slice (some ⟨g21, 0, none⟩) lzT.length lzT.length]) (by rw [lzT_len]; rfl) ?_;refine RVN 1 rfl ?_;refine ZN 1000002 zero32 fun b2 ⟨hBb2, hb2⟩ => ?_
 refine TF 8 (RN ?_); refine ZA 1000002 (size32.of rfl) hBb2 rfl rfl rfl (LT 1000001 rfl (LT 1000019 rfl (LT 1000020 rfl (LT 1000021 rfl (LeftS.cons (t := 1900000) rfl (Surv.tabH (by omega)) (LQ 1900001 rfl (LQ 1900002 rfl (LQ 1900003 rfl (LW [1, 2, 23] rfl))))))))) ?_;refine TL (RVN 1 rfl ?_);refine GS (TN 5 (RL 1000002 U32 rfl rfl (size32.of rfl) ?_));refine RS (ok_callMK (Root_ok 1 ⟨g21, 0, none⟩ lzT lzT_fit lzT.length lzT_tree) (SubK.app (SubK.of (Sub.cons rfl (Sub.cons rfl (Sub.cons rfl (Sub.cons rfl KN)))) tabE_v) (SubK.cons (k := 1000021) (by decide) rfl Le.blkR SubK.nil)) (A1 rfl)) ?_;refine RVN 3 rfl ?_;refine ZN 1000004 zero40 fun b4 ⟨hBb4, hb4⟩ => ?_
 refine TF 6 (RN ?_);refine ⟨_, eff_storeA (n := 149) (s := 1000004) (size40.of (by rw [List.length_map, sha_length])) rfl rfl (all_bytes _) hBb4 rfl (by rw [List.length_map, sha_length]; rfl) (LT 1000001 rfl (LT 1000002 rfl (LT 1000019 rfl (LT 1000020 rfl (LT 1000021 rfl (LeftS.cons (t := 1900000) rfl (Surv.tabH (by omega)) (LQ 1900001 rfl (LQ 1900002 rfl (LQ 1900003 rfl (LW [1, 3, 4, 28] rfl)))))))))), ?_⟩
 refine TL (RVN 1 rfl ?_);refine GS (TN 5 (RL 1000001 U51 rfl rfl (size51.of ((recOf_fit 1 7).len)) ?_));refine RS (ok_lit [] (RecT.v RecT.zero) (fun _ _ => rfl) (by kernel_rfl)) ?_;refine RS (ok_lit [] (RecT.v RecT.zero) (fun _ _ => rfl) (by kernel_rfl)) ?_;refine RS (ok_lit [] (RecT.v RecT.zero) (fun _ _ => rfl) (by kernel_rfl)) ?_;refine RS (ok_lit [] (RecT.v RecT.zero) (fun _ _ => rfl) (by kernel_rfl)) ?_;refine RN ?_;refine ZM 1000035 (fun B' => ok_buildG (m := 5) [(0, aggV (recOf 1 7).v), (1, aggV RecT.zero.v), (2, aggV RecT.zero.v), (3, aggV RecT.zero.v), (4, aggV RecT.zero.v)] (recsV lvR) U26 infoP51 ⟨rfl, rfl, rfl, rfl, rfl, rfl, rfl, rfl, rfl, rfl, trivial⟩ (by kernel_rfl) (by decide) (by decide)) rfl fun b35 ⟨hBb35, hb35⟩ => ?_
 have hlt_b1_b35 := hb35 1000001 b1 _ _ rfl
 have hlt_b2_b35 := hb35 1000002 b2 _ _ rfl
 have hlt_b4_b35 := hb35 1000004 b4 _ _ rfl
 have hlt_b19_b35 := hb35 1000019 b19 _ _ rfl
 have hlt_b20_b35 := hb35 1000020 b20 _ _ rfl
 have hlt_g21_b35 := hb35 1000021 g21 _ _ rfl
 refine TN 6 (RN ?_);refine ZM 1000036 (fun B' => ok_buildG (m := 3) [(0, nI 1), (1, nI 0), (2, nI 0)] (slotV lvS) U27 infoPI ⟨rfl, rfl, rfl, rfl, rfl, rfl, trivial⟩ (by kernel_rfl) (by decide) (by decide)) rfl fun b36 ⟨hBb36, hb36⟩ => ?_
 have hlt_b1_b36 := hb36 1000001 b1 _ _ rfl
 have hlt_b2_b36 := hb36 1000002 b2 _ _ rfl
 have hlt_b4_b36 := hb36 1000004 b4 _ _ rfl
 have hlt_b19_b36 := hb36 1000019 b19 _ _ rfl
 have hlt_b20_b36 := hb36 1000020 b20 _ _ rfl
 have hlt_g21_b36 := hb36 1000021 g21 _ _ rfl
 have hlt_b35_b36 := hb36 1000035 b35 _ _ rfl
 refine RunTK.newG 7 (by decide) rfl (.inl rfl) ?_;refine RN ?_;refine ⟨_, _, _, eff_nameY (n := 149) (d := 37) (k := 1000037) rfl rfl (fun B' => ok_callMBK (Build_okB lvR lvR_fit (by decide) (by decide) lvR_ok lvS lvS_ok (by decide) ⟨b35, 0, none⟩ ⟨b36, 0, none⟩ 5 3 (by decide)) newY_mono (SubK.app (SubK.of (Sub.cons rfl (Sub.cons rfl (Sub.cons rfl KN))) tabN_v) (SubK.cons (k := 1000035) (by decide) rfl Le.blkR0 (SubK.cons (k := 1000036) (by decide) rfl Le.blkR0 SubK.nil))) (A3 rfl rfl rfl)) (by decide) (by decide), fun x37 hx37 => ?_⟩
 obtain ⟨g37, y37⟩ := x37
 have hBg37 : w₀.heap.size ≤ g37 := hx37.1
 refine TN 11 (RV 2 rfl ?_);refine RZ (aggV [nI 5, .slice (some ⟨g37, 0, none⟩) lvT.length lvT.length]) (by rw [lvT_len]; rfl) ?_;refine RVN 1 rfl ?_;refine ZN 1000006 zero32 fun b6 ⟨hBb6, hb6⟩ => ?_
 have hlt_b2_b6 := hb6 1000002 b2 _ _ rfl
 refine TF 12 (RN ?_); refine ZA 1000006 (size32.of rfl) hBb6 rfl rfl rfl (LT 1000001 rfl (LB 1000002 rfl (LT 1000004 rfl (LT 1000019 rfl (LT 1000020 rfl (LT 1000021 rfl (LT 1000035 rfl (LT 1000036 rfl (LT 1000037 rfl (LeftS.cons (t := 1900000) rfl (Surv.tabH (by omega)) (LQ 1900001 rfl (LQ 1900002 rfl (LQ 1900003 rfl (LW [1, 3, 4, 5, 6, 39] rfl)))))))))))))) ?_;refine TL (RVN 1 rfl ?_);refine A.sub (Sv [1, 3, 4, 5, 6, 7, 1000001, 1000002, 1000004, 1000006, 1000019, 1000020, 1000021, 1000035, 1000036, 1000037, 1900000, 1900001, 1900002, 1900003] rfl) ?_;refine GS (RunTK.newG 1 (by decide) rfl (.inl rfl) ?_);refine RL 1000006 U32 rfl rfl (size32.of rfl) ?_;refine RN ?_;refine ⟨_, _, _, eff_nameY (n := 149) (d := 42) (k := 1000042) rfl rfl (fun B' => ok_callMBK (Prove_okB 5 ⟨g37, 0, none⟩ lvT lvT_fit lvT.length lvT_tree 0 (by decide)) newY_mono (SubK.app (SubK.of (Sub.cons rfl (Sub.cons rfl (Sub.cons rfl (Sub.cons rfl KN)))) tabE_v) (SubK.cons (k := 1000037) (by decide) rfl Le.blkR SubK.nil)) (A2 rfl rfl)) (by decide) (by decide), fun x42 hx42 => ?_⟩
 obtain ⟨g42, y42⟩ := x42
 have hBg42 : w₀.heap.size ≤ g42 := hx42.1
 refine TN 5 (RV 2 rfl ?_);refine RZ (aggV [nI 0, .slice (some ⟨g42, 0, none⟩) pfA.length pfA.length]) (by rw [pfA_len, mny_0]) ?_;refine RVN 1 rfl ?_;refine ZN 1000008 zero69 fun b8 ⟨hBb8, hb8⟩ => ?_
 refine TF 6 (RN ?_); refine ZA 1000008 (size69.of rfl) hBb8 rfl rfl rfl (LT 1000001 rfl (LT 1000002 rfl (LT 1000004 rfl (LT 1000006 rfl (LT 1000019 rfl (LT 1000020 rfl (LT 1000021 rfl (LT 1000035 rfl (LT 1000036 rfl (LT 1000037 rfl (LT 1000042 rfl (LeftS.cons (t := 1900000) rfl (Surv.tabH (by omega)) (LQ 1900001 rfl (LQ 1900002 rfl (LQ 1900003 rfl (LW [1, 3, 4, 5, 6, 7, 8, 44] rfl)))))))))))))))) ?_;refine TL (RVN 1 rfl ?_);refine GS (RunTK.newG 1 (by decide) rfl (.inl rfl) ?_);refine RL 1000006 U32 rfl rfl (size32.of rfl) ?_;refine RN ?_;refine ⟨_, _, _, eff_nameY (n := 149) (d := 47) (k := 1000047) rfl rfl (fun B' => ok_callMBK (Prove_okB 5 ⟨g37, 0, none⟩ lvT lvT_fit lvT.length lvT_tree 4 (by decide)) newY_mono (SubK.app (SubK.of (Sub.cons rfl (Sub.cons rfl (Sub.cons rfl (Sub.cons rfl KN)))) tabE_v) (SubK.cons (k := 1000037) (by decide) rfl Le.blkR SubK.nil)) (A2 rfl rfl)) (by decide) (by decide), fun x47 hx47 => ?_⟩
 obtain ⟨g47, y47⟩ := x47
 have hBg47 : w₀.heap.size ≤ g47 := hx47.1
 refine TN 5 (RV 2 rfl ?_);refine RZ (aggV [nI 4, .slice (some ⟨g47, 0, none⟩) pfB.length pfB.length]) (by rw [pfB_len, mny_4]) ?_;refine RVN 1 rfl ?_;refine ZN 1000010 zero69 fun b10 ⟨hBb10, hb10⟩ => ?_
 have hlt_b8_b10 := hb10 1000008 b8 _ _ rfl
 refine TF 6 (RN ?_); refine ZA 1000010 (size69.of rfl) hBb10 rfl rfl rfl (LT 1000001 rfl (LT 1000002 rfl (LT 1000004 rfl (LT 1000006 rfl (LB 1000008 rfl (LT 1000019 rfl (LT 1000020 rfl (LT 1000021 rfl (LT 1000035 rfl (LT 1000036 rfl (LT 1000037 rfl (LT 1000042 rfl (LT 1000047 rfl (LeftS.cons (t := 1900000) rfl (Surv.tabH (by omega)) (LQ 1900001 rfl (LQ 1900002 rfl (LQ 1900003 rfl (LW [1, 3, 4, 5, 6, 7, 8, 9, 10, 49] rfl)))))))))))))))))) ?_;refine TL (RVN 1 rfl ?_);refine GS (TN 5 (RL 1000006 U32 rfl rfl (size32.of rfl) ?_));refine RS (ok_callMK (Root_ok 5 ⟨g37, 0, none⟩ lvT lvT_fit lvT.length lvT_tree) (SubK.app (SubK.of (Sub.cons rfl (Sub.cons rfl (Sub.cons rfl (Sub.cons rfl KN)))) tabE_v) (SubK.cons (k := 1000037) (by decide) rfl Le.blkR SubK.nil)) (A1 rfl)) ?_;refine RV 2 rfl ?_;refine RZ (aggV (lvD.map byteV)) (by rfl) ?_;refine RVN 1 rfl ?_;refine ZN 1000012 zero40 fun b12 ⟨hBb12, hb12⟩ => ?_
 have hlt_b4_b12 := hb12 1000004 b4 _ _ rfl
 refine TF 6 (RN ?_);refine ⟨_, eff_storeA (n := 149) (s := 1000012) (size40.of (by rw [List.length_map, lvD_len])) rfl rfl (all_bytes _) hBb12 rfl (by rw [List.length_map, lvD_len]; rfl) (LT 1000001 rfl (LT 1000002 rfl (LB 1000004 rfl (LT 1000006 rfl (LT 1000008 rfl (LT 1000010 rfl (LT 1000019 rfl (LT 1000020 rfl (LT 1000021 rfl (LT 1000035 rfl (LT 1000036 rfl (LT 1000037 rfl (LT 1000042 rfl (LT 1000047 rfl (LeftS.cons (t := 1900000) rfl (Surv.tabH (by omega)) (LQ 1900001 rfl (LQ 1900002 rfl (LQ 1900003 rfl (LW [1, 3, 4, 5, 6, 7, 8, 9, 10, 11, 12, 54] rfl))))))))))))))))))), ?_⟩
 refine TL (RVN 1 rfl ?_);refine QS (GTD (RV 3 rfl ?_));refine RZ (.int .i64 0) (by rfl) ?_;refine RV 2 rfl ?_;refine RZ (.int .i64 0) (by rfl) ?_;refine RV 2 rfl ?_;refine RZ (.int .i64 0) (by rfl) ?_;refine RV 2 rfl ?_;refine RZ (.int .i64 0) (by rfl) ?_;refine RV 2 rfl ?_;refine RZ (.int .i64 0) (by rfl) ?_;refine RB rfl rfl rfl ?_;refine RF ?_;refine RM rfl ?_;refine RQ (ok_loadA (s := 1000004) (by decide) U40 rfl (size40.of (by rw [List.length_map, sha_length])) rfl rfl) ?_;refine RQ (ok_lit [] (NodT.v (NodT.emp 0 0)) (fun _ _ => rfl) (by kernel_rfl)) ?_;refine RQ (ok_call (rDigest_fn (NodT.emp 0 0) (NodT.emp_fit 0 (j := 0) (by decide)) (by decide)) (A1 rfl)) ?_;refine RQ (ok_neqT (n := 4) true flat40r (by decide) (by kernel_rfl) (by kernel_rfl) rfl rfl (kinB (sha_length _)) (kinB (sha_length _)) (iff_of_true rfl (by rw [lzT_at]))) ?_; refine RF ?_;refine RP rfl rfl ?_;refine RF ?_;refine RM rfl ?_;refine RQ (ok_field field32_1 (by decide) rfl) ?_;refine RQ (ok_loadV (s := 1000006) (by decide) U30 rfl rfl rfl (rfl)) ?_;refine RQ (ok_lenV U30 rfl) ?_;refine RQ (ok_bin rfl rfl rfl) ?_;refine RZ (.bool false) (congrArg Value.bool (by rw [lvT_len]; rfl)) ?_;refine RP rfl rfl ?_;refine RF ?_;refine RM rfl ?_;refine RQ (ok_field field69_1 (by decide) rfl) ?_;refine RQ (ok_loadV (s := 1000008) (by decide) U30 rfl rfl rfl (rfl)) ?_;refine RQ (ok_lenV U30 rfl) ?_;refine RQ (ok_bin rfl rfl rfl) ?_;refine RZ (.bool false) (congrArg Value.bool (by rw [pfA_len]; rfl)) ?_;refine RP rfl rfl ?_;refine RF ?_;refine RM rfl ?_;refine RQ (ok_field field69_1 (by decide) rfl) ?_;refine RQ (ok_loadV (s := 1000010) (by decide) U30 rfl rfl rfl (rfl)) ?_;refine RQ (ok_lenV U30 rfl) ?_;refine RQ (ok_bin rfl rfl rfl) ?_;refine RZ (.bool false) (congrArg Value.bool (by rw [pfB_len]; rfl)) ?_;refine RP rfl rfl ?_;refine RF ?_;refine RN (A.sub (Sv [1, 6, 8, 10, 12, 90, 1000001, 1000002, 1000004, 1000006, 1000008, 1000010, 1000012, 1000019, 1000020, 1000021, 1000035, 1000036, 1000037, 1000042, 1000047, 1900000, 1900001, 1900002, 1900003] rfl) ?_);refine A.no rfl ?_;refine QK (QS (GTD (RS (ok_field field32_1 (by decide) rfl) ?_)));refine RLV 1000006 U30 rfl rfl rfl ?_;refine RS (ok_indexS 2 U30 infoN rfl rfl rfl (by rw [lvT_len]; decide)) ?_;refine RS (ok_field field57_3 (by decide) rfl) ?_;refine RS (ok_loadP (s := 1000037) (by decide) U55 rfl size55 rfl rfl (by have hl := nods_len lvT_fit; rw [lvT_len] at hl; rw [List.length_append]; show _ ≤ (nodsV lvT).length + _; omega) (lv_part _)) ?_;refine RL 1000001 U51 rfl rfl (size51.of ((recOf_fit 1 7).len)) ?_;refine RS (ok_litS [(0, aggV (recOf 1 7).v)] (recsV [recOf 1 7, RecT.zero, RecT.zero, RecT.zero]) ⟨rfl, rfl, trivial⟩ lv_buildR) ?_;refine RS (ok_litS [(2, aggV (recsV [recOf 1 7, RecT.zero, RecT.zero, RecT.zero]))] (grpR lvR 0).v ⟨rfl, rfl, trivial⟩ lv_buildX) ?_;refine RS (ok_call (rDigest_fn (grpR lvR 0) (grpR_fit lvR_fit (by decide)) (by decide)) (A1 rfl)) ?_
 refine RS (ok_litS [(0, byteV 2), (1, aggV ((sha (grpR lvR 0).bl).map byteV))] (EntT.v lvE) ⟨rfl, rfl, rfl, rfl, trivial⟩ (buildEntB _ _ (sha_length _))) ?_;refine RS (ok_litS [(0, aggV lvE.v)] (entsV [lvE, EntT.zero, EntT.zero, EntT.zero]) ⟨rfl, rfl, trivial⟩ (lv_buildE _ _ (sha_length _))) ?_;refine RS (ok_neqT (n := 5) true flat55e (by decide) (by kernel_rfl) (by kernel_rfl) rfl rfl lvE_kin lvE_kin (iff_of_true rfl rfl)) ?_; refine RF ?_;refine RN (A.no rfl ?_);refine QK (GS (TN 6 (RL 1000012 U40 rfl rfl (size40.of (by rw [List.length_map, lvD_len])) ?_)));refine RL 1000008 U69 rfl rfl (size69.of rfl) ?_;refine RS (ok_callMK (Verify_fn 5 0 lvD lvD_len (some ⟨g42, 0, none⟩) pfA pfA_fit pfA.length) (SubK.app (SubK.of (Sub.cons rfl (Sub.cons rfl (Sub.cons rfl (Sub.cons rfl KN)))) tabE_v) (SubK.cons (k := 1000042) (by decide) rfl Le.blkR SubK.nil)) (A3 rfl rfl rfl)) ?_;refine RV 2 rfl ?_;refine RZ (aggV (recOf 1 7).v) (by rw [verA.2]) ?_;refine RS (ok_extractV rfl rfl) ?_;refine RZ (.int .i64 0) (by rw [verA.1]) ?_;refine RN ?_;refine ZN 1000014 zero51 fun b14 ⟨hBb14, hb14⟩ => ?_
 have hlt_b1_b14 := hb14 1000001 b1 _ _ rfl
 have hlt_b19_b14 := hb14 1000019 b19 _ _ rfl
 have hlt_b35_b14 := hb14 1000035 b35 _ _ rfl
 refine TF 7 (RN ?_);refine ⟨_, eff_storeA (n := 149) (s := 1000014) (size51.of ((recOf_fit 1 7).len)) rfl rfl (RecT.one _) hBb14 rfl (by rw [(recOf_fit 1 7).len]; rfl) (LB 1000001 rfl (LT 1000002 rfl (LT 1000004 rfl (LT 1000006 rfl (LT 1000008 rfl (LT 1000010 rfl (LT 1000012 rfl (LB 1000019 rfl (LT 1000020 rfl (LT 1000021 rfl (LB 1000035 rfl (LT 1000036 rfl (LT 1000037 rfl (LT 1000042 rfl (LT 1000047 rfl (LeftS.cons (t := 1900000) rfl (Surv.tabH (by omega)) (LQ 1900001 rfl (LQ 1900002 rfl (LQ 1900003 rfl (LW [1, 10, 12, 14, 108] rfl)))))))))))))))))))), ?_⟩
 refine TL (RVN 1 rfl ?_);refine GS (TN 6 (RL 1000012 U40 rfl rfl (size40.of (by rw [List.length_map, lvD_len])) ?_));refine RL 1000010 U69 rfl rfl (size69.of rfl) ?_;refine RS (ok_callMK (Verify_fn 5 4 lvD lvD_len (some ⟨g47, 0, none⟩) pfB pfB_fit pfB.length) (SubK.app (SubK.of (Sub.cons rfl (Sub.cons rfl (Sub.cons rfl (Sub.cons rfl KN)))) tabE_v) (SubK.cons (k := 1000047) (by decide) rfl Le.blkR SubK.nil)) (A3 rfl rfl rfl)) ?_;refine RV 2 rfl ?_;refine RZ (aggV RecT.zero.v) (by rw [verB.2]) ?_;refine RS (ok_extractV rfl rfl) ?_;refine RZ (.int .i64 0) (by rw [verB.1]) ?_;refine RN ?_;refine ZN 1000015 zero51 fun b15 ⟨hBb15, hb15⟩ => ?_
 have hlt_b1_b15 := hb15 1000001 b1 _ _ rfl
 have hlt_b14_b15 := hb15 1000014 b14 _ _ rfl
 have hlt_b19_b15 := hb15 1000019 b19 _ _ rfl
 have hlt_b35_b15 := hb15 1000035 b35 _ _ rfl
 refine TF 7 (RN ?_);refine ⟨_, eff_storeA (n := 149) (s := 1000015) (size51.of (RecT.zero_fit.len)) rfl rfl (RecT.one _) hBb15 rfl (by rw [RecT.zero_fit.len]; rfl) (LB 1000001 rfl (LT 1000002 rfl (LT 1000004 rfl (LT 1000006 rfl (LT 1000008 rfl (LT 1000010 rfl (LT 1000012 rfl (LB 1000014 rfl (LB 1000019 rfl (LT 1000020 rfl (LT 1000021 rfl (LB 1000035 rfl (LT 1000036 rfl (LT 1000037 rfl (LT 1000042 rfl (LT 1000047 rfl (LeftS.cons (t := 1900000) rfl (Surv.tabH (by omega)) (LQ 1900001 rfl (LQ 1900002 rfl (LQ 1900003 rfl (LW [1, 3, 12, 14, 15, 114] rfl))))))))))))))))))))), ?_⟩
 refine TL (RVN 1 rfl ?_);refine A.sub (Sv [1, 3, 5, 12, 14, 15, 1000001, 1000002, 1000004, 1000006, 1000008, 1000010, 1000012, 1000014, 1000015, 1000019, 1000020, 1000021, 1000035, 1000036, 1000037, 1000042, 1000047, 1900000, 1900001, 1900002, 1900003] rfl) ?_;refine GS (TN 0 (RN ?_));refine ZM 1000116 (fun B' => ok_makeK 4 U26 infoP51 (by decide) rfl rfl (by decide)) rfl fun b116 ⟨hBb116, hb116⟩ => ?_
 have hlt_b1_b116 := hb116 1000001 b1 _ _ rfl
 have hlt_b2_b116 := hb116 1000002 b2 _ _ rfl
 have hlt_b4_b116 := hb116 1000004 b4 _ _ rfl
 have hlt_b6_b116 := hb116 1000006 b6 _ _ rfl
 have hlt_b8_b116 := hb116 1000008 b8 _ _ rfl
 have hlt_b10_b116 := hb116 1000010 b10 _ _ rfl
 have hlt_b12_b116 := hb116 1000012 b12 _ _ rfl
 have hlt_b14_b116 := hb116 1000014 b14 _ _ rfl
 have hlt_b15_b116 := hb116 1000015 b15 _ _ rfl
 have hlt_b19_b116 := hb116 1000019 b19 _ _ rfl
 have hlt_b20_b116 := hb116 1000020 b20 _ _ rfl
 have hlt_g21_b116 := hb116 1000021 g21 _ _ rfl
 have hlt_b35_b116 := hb116 1000035 b35 _ _ rfl
 have hlt_b36_b116 := hb116 1000036 b36 _ _ rfl
 have hlt_g37_b116 := hb116 1000037 g37 _ _ rfl
 have hlt_g42_b116 := hb116 1000042 g42 _ _ rfl
 have hlt_g47_b116 := hb116 1000047 g47 _ _ rfl
 refine TN 1 (RN ?_);refine ZM 1000117 (fun B' => ok_buildG (m := 3) [(0, nI 0), (1, nI 0), (2, nI 0)] (intL [0, 0, 0]) U27 infoPI ⟨rfl, rfl, rfl, rfl, rfl, rfl, trivial⟩ (by kernel_rfl) (by decide) (by decide)) rfl fun b117 ⟨hBb117, hb117⟩ => ?_
 have hlt_b1_b117 := hb117 1000001 b1 _ _ rfl
 have hlt_b2_b117 := hb117 1000002 b2 _ _ rfl
 have hlt_b4_b117 := hb117 1000004 b4 _ _ rfl
 have hlt_b6_b117 := hb117 1000006 b6 _ _ rfl
 have hlt_b8_b117 := hb117 1000008 b8 _ _ rfl
 have hlt_b10_b117 := hb117 1000010 b10 _ _ rfl
 have hlt_b12_b117 := hb117 1000012 b12 _ _ rfl
 have hlt_b14_b117 := hb117 1000014 b14 _ _ rfl
 have hlt_b15_b117 := hb117 1000015 b15 _ _ rfl
 have hlt_b19_b117 := hb117 1000019 b19 _ _ rfl
 have hlt_b20_b117 := hb117 1000020 b20 _ _ rfl
 have hlt_g21_b117 := hb117 1000021 g21 _ _ rfl
 have hlt_b35_b117 := hb117 1000035 b35 _ _ rfl
 have hlt_b36_b117 := hb117 1000036 b36 _ _ rfl
 have hlt_g37_b117 := hb117 1000037 g37 _ _ rfl
 have hlt_g42_b117 := hb117 1000042 g42 _ _ rfl
 have hlt_g47_b117 := hb117 1000047 g47 _ _ rfl
 have hlt_b116_b117 := hb117 1000116 b116 _ _ rfl
 refine TL (RS (ok_callMK (Build_bad 5 [RecT.zero, RecT.zero, RecT.zero, RecT.zero] zr4_fit [0, 0, 0] (some ⟨b116, 0, none⟩) (some ⟨b117, 0, none⟩) 4 3 src5) (SubK.cons (k := 1000116) (by decide) rfl ((Le.eq (congrArg (blk b116 51) (made_rec 4 (fun _ => RecT.zero)))).trans Le.blkR0) (SubK.cons (k := 1000117) (by decide) rfl Le.blkR0 SubK.nil)) (A3 rfl rfl rfl)) ?_);refine RVN 4 rfl ?_;refine GT (RL 1000012 U40 rfl rfl (size40.of (by rw [List.length_map, lvD_len])) ?_);refine RS (ok_lit [] ([.int .i64 0] ++ [.slice none 0 0]) (fun _ _ => rfl) (by kernel_rfl)) ?_;refine RS (ok_callMK (Verify_fn 5 0 lvD lvD_len none [] FitT.nil 0) (SubK.app (SubK.of (Sub.cons rfl (Sub.cons rfl (Sub.cons rfl (Sub.cons rfl KN)))) tabE_v) (SubK.cons (k := 1000037) (by decide) rfl Le.memNil SubK.nil)) (A3 rfl rfl rfl)) ?_;refine RV 2 rfl ?_;refine RZ (aggV RecT.zero.v) (by rw [verC.2]) ?_;refine RS (ok_extractV rfl rfl) ?_;refine RZ (.int .i64 1) (by rw [verC.1]) ?_;refine RVN 1 rfl ?_;refine GT (RV 3 rfl ?_);refine RZ (.int .i64 0) (by rfl) ?_;refine RB rfl rfl rfl ?_;refine RT ?_;refine RM rfl ?_;refine RQ (ok_loadA (s := 1000014) (by decide) U51 rfl (size51.of ((recOf_fit 1 7).len)) rfl rfl) ?_;refine RQ (ok_loadA (s := 1000001) (by decide) U51 rfl (size51.of ((recOf_fit 1 7).len)) rfl rfl) ?_;refine RQ (ok_eqlT (n := 4) true flat51 (by decide) (by kernel_rfl) (by kernel_rfl) rfl rfl (recOf_fit 1 7).kin (recOf_fit 1 7).kin (iff_of_true rfl rfl)) ?_;refine RP rfl rfl ?_;refine RT ?_;refine RM rfl ?_;refine RQ (ok_loadA (s := 1000015) (by decide) U51 rfl (size51.of (RecT.zero_fit.len)) rfl rfl) ?_;refine RQ (ok_lit [] (RecT.v RecT.zero) (fun _ _ => rfl) (by kernel_rfl)) ?_;refine RQ (ok_eqlT (n := 4) true flat51 (by decide) (by kernel_rfl) (by kernel_rfl) rfl rfl RecT.zero_fit.kin RecT.zero_fit.kin (iff_of_true rfl rfl)) ?_;refine RP rfl rfl ?_;refine RT ?_;refine RV 3 rfl ?_;refine RT ?_;refine RP rfl rfl ?_;refine RT ?_;refine RV 3 rfl ?_;refine RT ?_;refine RP rfl rfl ?_;refine RT ?_;refine RVN 1 rfl ?_;refine A.sub (Sv [0, 1000001, 1000002, 1000004, 1000006, 1000008, 1000010, 1000012, 1000014, 1000015, 1000019, 1000020, 1000021, 1000035, 1000036, 1000037, 1000042, 1000047, 1000116, 1000117, 1900000, 1900001, 1900002, 1900003] rfl) ?_;refine A.ret ?_;exact ER rfl rfl
end
section
theorem Build_n (n m : Nat) (h1 : 1 ≤ n) (h2 : n ≤ 4096) (R : List RecT) (hn : R.length = n) (hR : FitR R) (hO : OkR R) (S : List Nat) (hm : S.length = m) (hS : OkS S) (hSl : m = tot n (hg n + 1)) (a₁ a₂ : Addr) (c₁ c₂ : Nat) (hc : n ≤ c₁) : FnMB Tryz.prog 12 (tabN ++ [(1000801, memR (some a₁) (recsV R)), (1000701, memR (some a₂) (slotV S))]) [.v (nI n), .v (.slice (some a₁) n c₁), .v (.slice (some a₂) m c₂)] (fun B => newY B 57 (fun b => .tuple #[aggV [nI n, .slice (some ⟨b, 0, none⟩) (tot n (hg n + 1)) (tot n (hg n + 1))], .int .i64 0]) (nodsV (treR R S (tot n (hg n + 1))))) := by
 subst hn; subst hm; exact Build_okB R hR h1 h2 hO S hS hSl a₁ a₂ c₁ c₂ hc
end
def swT (W : List NodT) (i j : Nat) : List NodT := (W.set i (ndAt W j)).set j (ndAt W i)
theorem swT_len (W : List NodT) (i j : Nat) : (swT W i j).length = W.length := by simp [swT]
theorem swT_fit {W : List NodT} (h : FitT W) (i j : Nat) : FitT (swT W i j) := FitT.set (FitT.set h i (h.at j)) j (h.at i)
theorem nods_set1 {T : List NodT} (hT : FitT T) {i : Nat} (hi : i < T.length) {x : NodT} (hx : x.Fit) (ys : List Value) : (nodsV T ++ ys).take (0 + i * 274) ++ x.v ++ (nodsV T ++ ys).drop (0 + i * 274 + x.v.length) = nodsV (T.set i x) ++ ys := by
 have hl := nods_len hT
 rw [hx.len, Nat.zero_add, List.take_append_of_le_length (by omega), List.drop_append_of_le_length (by omega), ← nods_set hT hi hx]
 simp only [List.append_assoc]
theorem nods_sw {T : List NodT} (hT : FitT T) {i j : Nat} (hi : i < T.length) (hj : j < T.length) (ys zs : List Value) (hz : zs = (nodsV T ++ ys).take (0 + i * 274) ++ (ndAt T j).v ++ (nodsV T ++ ys).drop (0 + i * 274 + (ndAt T j).v.length)) : zs.take (0 + j * 274) ++ (ndAt T i).v ++ zs.drop (0 + j * 274 + (ndAt T i).v.length) = nodsV (swT T i j) ++ ys := by
 subst hz
 rw [nods_set1 hT hi (hT.at j) ys, nods_set1 (FitT.set hT i (hT.at j)) (by rw [List.length_set]; exact hj) (hT.at i) ys]
 rfl
def cp8 (a b : UInt8) : Int := if a.toNat < b.toNat then -1 else if b.toNat < a.toNat then 1 else 0
def ltN (x y : NodT) : Bool := decide (y.l.toNat < x.l.toNat)
theorem cp8_neg {a b : UInt8} : decide (cp8 a b < 0) = decide (a.toNat < b.toNat) := by
 unfold cp8
 by_cases h : a.toNat < b.toNat
 ·simp [h]
 ·rw [if_neg h]
  by_cases h2 : b.toNat < a.toNat <;> simp [h, h2]
def insD (a : Nat) : Nat → List NodT → List NodT
 | 0, W => W
 | d + 1, W => if ltN (ndAt W (a + d + 1)) (ndAt W (a + d)) then insD a d (swT W (a + d + 1) (a + d)) else W
def insO (a : Nat) : Nat → List NodT → List NodT
 | 0, W => W
 | k + 1, W => insD a (k + 1) (insO a k W)
theorem insD_len (a : Nat) : ∀ (d : Nat) (W : List NodT), (insD a d W).length = W.length
 | 0, _ => rfl
 | d + 1, W => by
  unfold insD
  split
  ·rw [insD_len a d, swT_len]
  ·rfl
theorem insD_fit {a : Nat} : ∀ {d : Nat} {W : List NodT}, FitT W → FitT (insD a d W)
 | 0, _, h => h
 | d + 1, W, h => by
  unfold insD
  split
  ·exact insD_fit (swT_fit h _ _)
  ·exact h
theorem insO_len (a : Nat) : ∀ (k : Nat) (W : List NodT), (insO a k W).length = W.length
 | 0, _ => rfl
 | k + 1, W => by unfold insO; rw [insD_len, insO_len a k]
theorem insO_fit {a : Nat} : ∀ {k : Nat} {W : List NodT}, FitT W → FitT (insO a k W)
 | 0, _, h => h
 | k + 1, W, h => by unfold insO; exact insD_fit (insO_fit h)
def swR (a b : Nat) : Nat → List NodT → List NodT
 | 0, W => W
 | n + 1, W => swT (swR a b n W) (a + n) (b + n)
theorem swR_len (a b : Nat) : ∀ (n : Nat) (W : List NodT), (swR a b n W).length = W.length
 | 0, _ => rfl
 | n + 1, W => by unfold swR; rw [swT_len, swR_len a b n]
theorem swR_fit {a b : Nat} : ∀ {n : Nat} {W : List NodT}, FitT W → FitT (swR a b n W)
 | 0, _, h => h
 | n + 1, W, h => by unfold swR; exact swT_fit (swR_fit h) _ _
def rotL (m : Nat) : Nat → Nat → Nat → List NodT → Nat × List NodT
 | 0, i, _, W => (i, W)
 | f + 1, i, j, W => if i = j then (i, W) else if j < i then rotL m f (i - j) j (swR (m - i) m j W) else rotL m f i (j - i) (swR (m - i) (m + j - i) i W)
theorem rotL_eq (m f i : Nat) (W : List NodT) : rotL m f i i W = (i, W) := by
 cases f with
 | zero => rfl
 | succ f => unfold rotL; rw [if_pos rfl]
theorem rotL_gt {m f i j : Nat} {W : List NodT} (hf : 0 < f) (h : j < i) : rotL m f i j W = rotL m (f - 1) (i - j) j (swR (m - i) m j W) := by
 obtain ⟨f, rfl⟩ : ∃ g, f = g + 1 := ⟨f - 1, by omega⟩
 rw [show f + 1 - 1 = f from rfl]
 conv => lhs; unfold rotL
 rw [if_neg (by omega), if_pos h]
theorem rotL_lt {m f i j : Nat} {W : List NodT} (hf : 0 < f) (h : i < j) : rotL m f i j W = rotL m (f - 1) i (j - i) (swR (m - i) (m + j - i) i W) := by
 obtain ⟨f, rfl⟩ : ∃ g, f = g + 1 := ⟨f - 1, by omega⟩
 rw [show f + 1 - 1 = f from rfl]
 conv => lhs; unfold rotL
 rw [if_neg (by omega), if_neg (by omega)]
def rotF (a m b : Nat) (W : List NodT) : List NodT := swR (m - (rotL m (b - a) (m - a) (b - m) W).1) m (rotL m (b - a) (m - a) (b - m) W).1 (rotL m (b - a) (m - a) (b - m) W).2
theorem rotL_fit {m : Nat} : ∀ {f i j : Nat} {W : List NodT}, FitT W → FitT (rotL m f i j W).2
 | 0, _, _, _, h => h
 | f + 1, i, j, W, h => by
  unfold rotL
  split
  ·exact h
  ·split
   ·exact rotL_fit (swR_fit h)
   ·exact rotL_fit (swR_fit h)
theorem rotL_len {m : Nat} : ∀ {f i j : Nat} {W : List NodT}, (rotL m f i j W).2.length = W.length
 | 0, _, _, _ => rfl
 | f + 1, i, j, W => by
  unfold rotL
  split
  ·rfl
  ·split
   ·rw [rotL_len, swR_len]
   ·rw [rotL_len, swR_len]
theorem rotF_fit {a m b : Nat} {W : List NodT} (h : FitT W) : FitT (rotF a m b W) := swR_fit (rotL_fit h)
theorem rotF_len (a m b : Nat) (W : List NodT) : (rotF a m b W).length = W.length := by unfold rotF; rw [swR_len, rotL_len]
def bsr (p : Nat → Bool) : Nat → Nat → Nat → Nat
 | 0, i, _ => i
 | f + 1, i, j => if i < j then (if p ((i + j) / 2) then bsr p f ((i + j) / 2 + 1) j else bsr p f i ((i + j) / 2)) else i
theorem bsr_up {p : Nat → Bool} {f i j : Nat} (hf : 0 < f) (h : i < j) (hp : p ((i + j) / 2) = true) : bsr p f i j = bsr p (f - 1) ((i + j) / 2 + 1) j := by
 obtain ⟨f, rfl⟩ : ∃ g, f = g + 1 := ⟨f - 1, by omega⟩
 rw [show f + 1 - 1 = f from rfl]
 conv => lhs; unfold bsr
 rw [if_pos h, if_pos hp]
theorem bsr_dn {p : Nat → Bool} {f i j : Nat} (hf : 0 < f) (h : i < j) (hp : p ((i + j) / 2) = false) : bsr p f i j = bsr p (f - 1) i ((i + j) / 2) := by
 obtain ⟨f, rfl⟩ : ∃ g, f = g + 1 := ⟨f - 1, by omega⟩
 rw [show f + 1 - 1 = f from rfl]
 conv => lhs; unfold bsr
 rw [if_pos h, if_neg (by simp [hp])]
theorem bsr_end {p : Nat → Bool} {f i j : Nat} (h : ¬ i < j) : bsr p f i j = i := by
 cases f with
 | zero => rfl
 | succ f => unfold bsr; rw [if_neg h]
theorem bsr_le {p : Nat → Bool} : ∀ {f i j : Nat}, i ≤ j → i ≤ bsr p f i j ∧ bsr p f i j ≤ j
 | 0, i, j, h => ⟨Nat.le_refl _, h⟩
 | f + 1, i, j, h => by
  unfold bsr
  split
  ·split
   ·obtain ⟨h1, h2⟩ := bsr_le (p := p) (f := f) (i := (i + j) / 2 + 1) (j := j) (by omega)
    omega
   ·obtain ⟨h1, h2⟩ := bsr_le (p := p) (f := f) (i := i) (j := (i + j) / 2) (by omega)
    omega
  ·exact ⟨Nat.le_refl _, h⟩
def mvU (a : Nat) : Nat → List NodT → List NodT
 | 0, W => W
 | n + 1, W => swT (mvU a n W) (a + n) (a + n + 1)
def mvD (m : Nat) : Nat → List NodT → List NodT
 | 0, W => W
 | n + 1, W => swT (mvD m n W) (m - n) (m - n - 1)
theorem mvU_len (a : Nat) : ∀ (n : Nat) (W : List NodT), (mvU a n W).length = W.length
 | 0, _ => rfl
 | n + 1, W => by unfold mvU; rw [swT_len, mvU_len a n]
theorem mvU_fit {a : Nat} : ∀ {n : Nat} {W : List NodT}, FitT W → FitT (mvU a n W)
 | 0, _, h => h
 | n + 1, W, h => by unfold mvU; exact swT_fit (mvU_fit h) _ _
theorem mvD_len (m : Nat) : ∀ (n : Nat) (W : List NodT), (mvD m n W).length = W.length
 | 0, _ => rfl
 | n + 1, W => by unfold mvD; rw [swT_len, mvD_len m n]
theorem mvD_fit {m : Nat} : ∀ {n : Nat} {W : List NodT}, FitT W → FitT (mvD m n W)
 | 0, _, h => h
 | n + 1, W, h => by unfold mvD; exact swT_fit (mvD_fit h) _ _
def pUp (W : List NodT) (a h : Nat) : Bool := ltN (ndAt W h) (ndAt W a)
def pDn (W : List NodT) (m h : Nat) : Bool := !ltN (ndAt W m) (ndAt W h)
def pMd (W : List NodT) (p c : Nat) : Bool := !ltN (ndAt W (p - c)) (ndAt W c)
def smI (W : List NodT) (a m b : Nat) : Nat := bsr (pUp W a) (b - m) m b
def smJ (W : List NodT) (a m : Nat) : Nat := bsr (pDn W m) (m - a) a m
def smM (a b : Nat) : Nat := (a + b) / 2
def smS0 (a m b : Nat) : Nat := if smM a b < m then smM a b + m - b else a
def smR0 (a m b : Nat) : Nat := if smM a b < m then smM a b else m
def smS (W : List NodT) (a m b : Nat) : Nat := bsr (pMd W (smM a b + m - 1)) (smR0 a m b - smS0 a m b) (smS0 a m b) (smR0 a m b)
def smZ (W : List NodT) (a m b : Nat) : Nat := smM a b + m - smS W a m b
def smW1 (W : List NodT) (a m b : Nat) : List NodT := if smS W a m b < m ∧ m < smZ W a m b then rotF (smS W a m b) m (smZ W a m b) W else W
def smF : Nat → Nat → Nat → Nat → List NodT → List NodT
 | 0, _, _, _, W => W
 | f + 1, a, m, b, W =>
  if m - a = 1 then mvU a (smI W a m b - 1 - a) W
  else if b - m = 1 then mvD m (m - smJ W a m) W
  else
   let V := if a < smS W a m b ∧ smS W a m b < smM a b then smF f a (smS W a m b) (smM a b) (smW1 W a m b) else smW1 W a m b
   if smM a b < smZ W a m b ∧ smZ W a m b < b then smF f (smM a b) (smZ W a m b) b V else V
def smW2 (f : Nat) (W : List NodT) (a m b : Nat) : List NodT := if a < smS W a m b ∧ smS W a m b < smM a b then smF f a (smS W a m b) (smM a b) (smW1 W a m b) else smW1 W a m b
theorem smF_1 {f a m b : Nat} {W : List NodT} (h : m - a = 1) : smF (f + 1) a m b W = mvU a (smI W a m b - 1 - a) W := by
 rw [smF, if_pos h]
theorem smF_2 {f a m b : Nat} {W : List NodT} (h : ¬ m - a = 1) (h2 : b - m = 1) : smF (f + 1) a m b W = mvD m (m - smJ W a m) W := by
 rw [smF, if_neg h, if_pos h2]
theorem smF_3 {f a m b : Nat} {W : List NodT} (h : ¬ m - a = 1) (h2 : ¬ b - m = 1) : smF (f + 1) a m b W = if smM a b < smZ W a m b ∧ smZ W a m b < b then smF f (smM a b) (smZ W a m b) b (smW2 f W a m b) else smW2 f W a m b := by
 rw [smF, if_neg h, if_neg h2]; rfl
theorem smW1_fit {W : List NodT} (h : FitT W) (a m b : Nat) : FitT (smW1 W a m b) := by
 unfold smW1; split
 ·exact rotF_fit h
 ·exact h
theorem smW1_len (W : List NodT) (a m b : Nat) : (smW1 W a m b).length = W.length := by
 unfold smW1; split
 ·exact rotF_len _ _ _ _
 ·rfl
theorem smF_fit : ∀ {f a m b : Nat} {W : List NodT}, FitT W → FitT (smF f a m b W)
 | 0, _, _, _, _, h => h
 | f + 1, a, m, b, W, h => by
  by_cases h1 : m - a = 1
  ·rw [smF_1 h1]; exact mvU_fit h
  ·by_cases h2 : b - m = 1
   ·rw [smF_2 h1 h2]; exact mvD_fit h
   ·have hw : FitT (smW2 f W a m b) := by
     unfold smW2; split
     ·exact smF_fit (smW1_fit h _ _ _)
     ·exact smW1_fit h _ _ _
    rw [smF_3 h1 h2]
    split
    ·exact smF_fit hw
    ·exact hw
theorem smF_len : ∀ {f a m b : Nat} {W : List NodT}, (smF f a m b W).length = W.length
 | 0, _, _, _, _ => rfl
 | f + 1, a, m, b, W => by
  by_cases h1 : m - a = 1
  ·rw [smF_1 h1]; exact mvU_len _ _ _
  ·by_cases h2 : b - m = 1
   ·rw [smF_2 h1 h2]; exact mvD_len _ _ _
   ·have hw : (smW2 f W a m b).length = W.length := by
     unfold smW2; split
     ·rw [smF_len, smW1_len]
     ·rw [smW1_len]
    rw [smF_3 h1 h2]
    split
    ·rw [smF_len, hw]
    ·exact hw
theorem smW2_fit {f : Nat} {W : List NodT} (h : FitT W) (a m b : Nat) : FitT (smW2 f W a m b) := by
 unfold smW2; split
 ·exact smF_fit (smW1_fit h _ _ _)
 ·exact smW1_fit h _ _ _
theorem smW2_len (f : Nat) (W : List NodT) (a m b : Nat) : (smW2 f W a m b).length = W.length := by
 unfold smW2; split
 ·rw [smF_len, smW1_len]
 ·rw [smW1_len]
theorem sm_bd {W : List NodT} {a m b : Nat} (h1 : a < m) (h2 : m < b) : a ≤ smM a b ∧ smM a b < b ∧ smS0 a m b ≤ smR0 a m b ∧ a ≤ smS0 a m b ∧ smR0 a m b ≤ m ∧ smR0 a m b ≤ smM a b + 0 + (m - smM a b) ∧ smS0 a m b ≤ smS W a m b ∧ smS W a m b ≤ smR0 a m b ∧ smZ W a m b ≤ b ∧ smS W a m b + smZ W a m b = smM a b + m := by
 have hm : smM a b = (a + b) / 2 := rfl
 have hs : smS0 a m b ≤ smR0 a m b := by unfold smS0 smR0; split <;> omega
 have hb := bsr_le (p := pMd W (smM a b + m - 1)) (f := smR0 a m b - smS0 a m b) hs
 have ha : a ≤ smS0 a m b := by unfold smS0; split <;> omega
 have hr : smR0 a m b ≤ m := by unfold smR0; split <;> omega
 have hr2 : smR0 a m b ≤ smM a b ∨ smR0 a m b = m := by unfold smR0; split <;> omega
 have he : smM a b + m ≤ b + smS0 a m b := by unfold smS0; split <;> omega
 have hS : smS W a m b = bsr (pMd W (smM a b + m - 1)) (smR0 a m b - smS0 a m b) (smS0 a m b) (smR0 a m b) := rfl
 have hE : smZ W a m b = smM a b + m - smS W a m b := rfl
 rw [← hS] at hb
 refine ⟨by omega, by omega, hs, ha, hr, by omega, hb.1, hb.2, by omega, by omega⟩
theorem sm_ix {a m b c : Nat} (h1 : a < m) (h2 : m < b) (hc : smS0 a m b ≤ c) (hc2 : c < smR0 a m b) : c < b ∧ smM a b + m - 1 - c < b ∧ c ≤ smM a b + m - 1 := by
 have hm : smM a b = (a + b) / 2 := rfl
 unfold smS0 at hc
 unfold smR0 at hc2
 split at hc <;> rename_i h
 ·rw [if_pos h] at hc2; omega
 ·rw [if_neg h] at hc2; omega
def sfI (n : Nat) : Nat → Nat → List NodT → Nat × List NodT
 | 0, a, W => (a, W)
 | f + 1, a, W => if a + 20 ≤ n then sfI n f (a + 20) (insO a (a + 20 - a - 1) W) else (a, W)
def sfM (n c : Nat) : Nat → Nat → List NodT → Nat × List NodT
 | 0, a, W => (a, W)
 | f + 1, a, W => if a + 2 * c ≤ n then sfM n c f (a + 2 * c) (smF (a + 2 * c - a) a (a + c) (a + 2 * c) W) else (a, W)
def sfE (n c : Nat) (p : Nat × List NodT) : List NodT := if p.1 + c < n then smF (n - p.1) p.1 (p.1 + c) n p.2 else p.2
def sfO (n : Nat) : Nat → Nat → List NodT → List NodT
 | 0, _, W => W
 | f + 1, c, W => if c < n then sfO n f (c * 2) (sfE n c (sfM n c n 0 W)) else W
def sfA (n : Nat) (W : List NodT) : List NodT := insO (sfI n n 0 W).1 (n - (sfI n n 0 W).1 - 1) (sfI n n 0 W).2
def sfF (n : Nat) (W : List NodT) : List NodT := sfO n n 20 (sfA n W)
theorem sfI_go {n f a : Nat} {W : List NodT} (hf : n ≤ a + f) (h : a + 20 ≤ n) : sfI n f a W = sfI n (f - 1) (a + 20) (insO a (a + 20 - a - 1) W) := by
 obtain ⟨f, rfl⟩ : ∃ g, f = g + 1 := ⟨f - 1, by omega⟩
 rw [show f + 1 - 1 = f from rfl]
 conv => lhs; unfold sfI
 rw [if_pos h]
theorem sfI_end {n f a : Nat} {W : List NodT} (h : ¬ a + 20 ≤ n) : sfI n f a W = (a, W) := by
 cases f with
 | zero => rfl
 | succ f => unfold sfI; rw [if_neg h]
theorem sfM_go {n c f a : Nat} {W : List NodT} (hc : 0 < c) (hf : n ≤ a + f) (h : a + 2 * c ≤ n) : sfM n c f a W = sfM n c (f - 1) (a + 2 * c) (smF (a + 2 * c - a) a (a + c) (a + 2 * c) W) := by
 obtain ⟨f, rfl⟩ : ∃ g, f = g + 1 := ⟨f - 1, by omega⟩
 rw [show f + 1 - 1 = f from rfl]
 conv => lhs; unfold sfM
 rw [if_pos h]
theorem sfM_end {n c f a : Nat} {W : List NodT} (h : ¬ a + 2 * c ≤ n) : sfM n c f a W = (a, W) := by
 cases f with
 | zero => rfl
 | succ f => unfold sfM; rw [if_neg h]
theorem sfO_go {n f c : Nat} {W : List NodT} (hf : n ≤ c + f) (h : c < n) : sfO n f c W = sfO n (f - 1) (c * 2) (sfE n c (sfM n c n 0 W)) := by
 obtain ⟨f, rfl⟩ : ∃ g, f = g + 1 := ⟨f - 1, by omega⟩
 rw [show f + 1 - 1 = f from rfl]
 conv => lhs; unfold sfO
 rw [if_pos h]
theorem sfO_end {n f c : Nat} {W : List NodT} (h : ¬ c < n) : sfO n f c W = W := by
 cases f with
 | zero => rfl
 | succ f => unfold sfO; rw [if_neg h]
theorem sfI_fit {n : Nat} : ∀ {f a : Nat} {W : List NodT}, FitT W → FitT (sfI n f a W).2
 | 0, _, _, h => h
 | f + 1, a, W, h => by
  unfold sfI; split
  ·exact sfI_fit (insO_fit h)
  ·exact h
theorem sfI_len {n : Nat} : ∀ {f a : Nat} {W : List NodT}, (sfI n f a W).2.length = W.length
 | 0, _, _ => rfl
 | f + 1, a, W => by
  unfold sfI; split
  ·rw [sfI_len, insO_len]
  ·rfl
theorem sfM_fit {n c : Nat} : ∀ {f a : Nat} {W : List NodT}, FitT W → FitT (sfM n c f a W).2
 | 0, _, _, h => h
 | f + 1, a, W, h => by
  unfold sfM; split
  ·exact sfM_fit (smF_fit h)
  ·exact h
theorem sfM_len {n c : Nat} : ∀ {f a : Nat} {W : List NodT}, (sfM n c f a W).2.length = W.length
 | 0, _, _ => rfl
 | f + 1, a, W => by
  unfold sfM; split
  ·rw [sfM_len, smF_len]
  ·rfl
theorem sfE_fit {n c : Nat} {p : Nat × List NodT} (h : FitT p.2) : FitT (sfE n c p) := by
 unfold sfE; split
 ·exact smF_fit h
 ·exact h
theorem sfE_len (n c : Nat) (p : Nat × List NodT) : (sfE n c p).length = p.2.length := by
 unfold sfE; split
 ·exact smF_len
 ·rfl
theorem sfO_fit {n : Nat} : ∀ {f c : Nat} {W : List NodT}, FitT W → FitT (sfO n f c W)
 | 0, _, _, h => h
 | f + 1, c, W, h => by
  unfold sfO; split
  ·exact sfO_fit (sfE_fit (sfM_fit h))
  ·exact h
theorem sfO_len {n : Nat} : ∀ {f c : Nat} {W : List NodT}, (sfO n f c W).length = W.length
 | 0, _, _ => rfl
 | f + 1, c, W => by
  unfold sfO; split
  ·rw [sfO_len, sfE_len, sfM_len]
  ·rfl
theorem sfA_fit {n : Nat} {W : List NodT} (h : FitT W) : FitT (sfA n W) := insO_fit (sfI_fit h)
theorem sfA_len (n : Nat) (W : List NodT) : (sfA n W).length = W.length := by unfold sfA; rw [insO_len, sfI_len]
theorem sfF_fit {n : Nat} {W : List NodT} (h : FitT W) : FitT (sfF n W) := sfO_fit (sfA_fit h)
theorem sfF_len (n : Nat) (W : List NodT) : (sfF n W).length = W.length := by unfold sfF; rw [sfO_len, sfA_len]
theorem End.retRow {P : Program} {n : Nat} {E : Env} {w₀ : World} {fn : Func} {r k g m q : Nat} {e : TypeId} {xs zs : List Value} (hr : fn.results = #[.tmp r]) (h1 : E.look r = some (.v (.slice (some ⟨g, 0, none⟩) m q))) (h2 : E.look k = some (blk g e (xs ++ zs))) : End Cx.top w₀ n E (BP P fn (PostOf w₀ (rowD m xs)) .ret) := fun a w gr hs => by
 obtain ⟨hlt, hh⟩ := hs.of k _ h2
 have hv : a.tmps.getD r undef = .slice (some ⟨g, 0, none⟩) m q := hs.of r _ h1
 refine BP.ret hs.defers ⟨a.tmps.getD r undef, by simp [results, hr], _, rfl, gr, ?_⟩
 refine ⟨some ⟨g, 0, none⟩, q, hv, fun j u hu => ⟨_, rfl, hlt, ?_⟩⟩
 rw [show (⟨g, 0, none⟩ : Addr).add j = ⟨g, j, none⟩ from by unfold Addr.add; split <;> simp_all]
 simp only [World.cell?, hh]
 have : (xs ++ zs)[j]? = some u := by rw [List.getElem?_append_left (List.getElem?_eq_some_iff.1 hu).1]; exact hu
 simpa using this
theorem ok_eqNilS {P : Program} {B : Nat} {E : Env} {dst : Option Tmp} {ty : TypeId} {pos : String} {after : Array Edge} {guard : Option (Nat × Bool)} {t t' e : TypeId} {x : Operand} {A : Addr} {m q : Nat} (ht : P.underlying t = some (.slice e)) (hx : E.at x = some (.v (.slice (some A) m q))) :
  OpOk P B ⟨dst, .binOp .eql t x (.const (.slice none 0 0)) t', ty, pos, after, guard⟩ E (.v (.bool false)) := fun ρ w _ hv hρ => by
 have h1 : ρ x = .slice (some A) m q := hρ x (by simp [Op.operands]) _ hx
 have h0 : ρ (.const (.slice none 0 0)) = .slice none 0 0 := hρ (.const (.slice none 0 0)) (by simp [Op.operands]) _ rfl
 have h2 : (Op.equalIn 10000 t (.slice (some A) m q) (.slice none 0 0)).run P w = .ok false w := by
  rw [show 10000 = 9999 + 1 from rfl, Op.equalIn]
  simp [run_underlying ht]
 have h4 : (binOp .eql t (.slice (some A) m q) (.slice none 0 0)).run P w = .ok (.bool false) w := by
  simp only [binOp, Op.equal, Op.maxDepth, Sem.run_bind, h2, Result.andThen_ok, Sem.run_pure]
 exact out_val (w' := w) (by simp [execOp, h0, h1, h4, eqGuard]) ⟨Grow.refl w, rfl⟩
theorem half_fdiv (n : Nat) : Int.fdiv (n : Int) (2 ^ min (1 : Int).toNat IntKind.u64.bits) = ((n / 2 : Nat) : Int) := by
 show Int.fdiv (n : Int) 2 = _
 rw [Int.fdiv_eq_ediv_of_nonneg _ (by decide)]
 omega
theorem and3 {p q : Prop} : (p ∧ q) ∨ (p ∧ ¬ q) ∨ ¬ p := by
 by_cases hp : p
 ·by_cases hq : q
  ·exact .inl ⟨hp, hq⟩
  ·exact .inr (.inl ⟨hp, hq⟩)
 ·exact .inr (.inr hp)
theorem End.wroteRet {P : Program} {n : Nat} {E : Env} {w₀ w₁ : World} {fn : Func} {T g kb kw : Nat} {xs ys : List Value} (hr : fn.results = #[]) (hb : E.look kb = some (blk g T xs)) (hx : xs = ys) (hw : E.look kw = some (wroteD T g w₁)) :
  End Cx.top w₀ n E (BP P fn (fun e w' => e = .returned (.tuple #[]) ∧ Wrote g T g w₁ w' ∧ w'.heap[g]? = some (.cells ys.toArray T (0, 0))) .ret) := fun a w _ hs => by
 subst hx
 exact BP.ret hs.defers ⟨.tuple #[], by simp [results, hr], rfl, (hs.of kw _ hw).2, (hs.of kb _ hb).2⟩
section
theorem nodsY_len {W : List NodT} (h : FitT W) (ys : List Value) {i : Nat} (hi : i < W.length) : 0 + i * 274 + 274 ≤ (nodsV W ++ ys).length := by
 rw [List.length_append, nods_len h]; omega
theorem nodsY_at {W : List NodT} (h : FitT W) (ys : List Value) {i : Nat} (hi : i < W.length) : ((nodsV W ++ ys).drop (0 + i * 274)).take 274 = (ndAt W i).v := by
 have hl := nods_len h
 rw [Nat.zero_add, List.drop_append_of_le_length (by omega), List.take_append_of_le_length (by rw [List.length_drop]; omega), nods_at h hi]
theorem nf1 {W : List NodT} (h : FitT W) {ys : List Value} {i : Nat} {x : NodT} (hx : x.Fit) (hi : i < W.length) : 0 + i * 274 + x.v.length ≤ (nodsV W ++ ys).length := by rw [List.length_append, nods_len h, hx.len]; omega
theorem nf2 {W : List NodT} (h : FitT W) {ys : List Value} {i j : Nat} {x y : NodT} (hx : x.Fit) (hy : y.Fit) (hi : i < W.length) (hj : j < W.length) : 0 + j * 274 + y.v.length ≤ ((nodsV W ++ ys).take (0 + i * 274) ++ x.v ++ (nodsV W ++ ys).drop (0 + i * 274 + x.v.length)).length := by
 rw [hy.len]; simp only [List.length_append, List.length_take, List.length_drop, nods_len h, hx.len]; omega
theorem insNext {a k : Nat} {W : List NodT} {p : Nat × List NodT} (hz : 0 < p.1) (hG : p.1 ≤ k + 1 ∧ p.2.length = W.length ∧ FitT p.2 ∧ insO a (k + 1) W = insD a p.1 p.2) (hlt : ltN (ndAt p.2 (a + p.1)) (ndAt p.2 (a + (p.1 - 1))) = true) :
  p.1 - 1 ≤ k + 1 ∧ (swT p.2 (a + p.1) (a + (p.1 - 1))).length = W.length ∧ FitT (swT p.2 (a + p.1) (a + (p.1 - 1))) ∧ insO a (k + 1) W = insD a (p.1 - 1) (swT p.2 (a + p.1) (a + (p.1 - 1))) := by
 obtain ⟨d, V⟩ := p
 obtain ⟨d, rfl⟩ : ∃ e, d = e + 1 := ⟨d - 1, by simp at hz; omega⟩
 refine ⟨by simp at hG ⊢; omega, by rw [swT_len]; exact hG.2.1, swT_fit hG.2.2.1 _ _, ?_⟩
 rw [hG.2.2.2]
 show insD a (d + 1) V = insD a d (swT V (a + d + 1) (a + d))
 have hlt' : ltN (ndAt V (a + d + 1)) (ndAt V (a + d)) = true := hlt
 rw [show insD a (d + 1) V = if ltN (ndAt V (a + d + 1)) (ndAt V (a + d)) then insD a d (swT V (a + d + 1) (a + d)) else V from rfl, if_pos hlt']
theorem insStop {a d : Nat} {V : List NodT} (h : d = 0 ∨ ltN (ndAt V (a + d)) (ndAt V (a + (d - 1))) = false) : insD a d V = V := by
 cases d with
 | zero => rfl
 | succ d =>
  rcases h with h | h
  ·cases h
  ·have h' : ltN (ndAt V (a + d + 1)) (ndAt V (a + d)) = false := h
   rw [show insD a (d + 1) V = if ltN (ndAt V (a + d + 1)) (ndAt V (a + d)) then insD a d (swT V (a + d + 1) (a + d)) else V from rfl, if_neg (by rw [h']; decide)]
theorem isNaN_fn (a : UInt8)  : Fn Tryz.prog 140 [.v (byteV a)] (.v (.bool false)) := by
 refine FV Tryz.func140 rfl Tryz.ntmps140 rfl fun w₀ => ?_
 refine GV rfl (GT (RV 3 rfl ?_));refine RZ (.bool false) (congrArg Value.bool (bne_eq_false_iff_eq.2 rfl)) ?_;refine RVN 1 rfl ?_;refine A.ret ?_;exact ER rfl rfl
theorem Cmp8_fn (a b : UInt8)  : Fn Tryz.prog 123 [.v (byteV a), .v (byteV b)] (.v (.int .i64 (cp8 a b))) := by
 refine FV Tryz.func123 rfl Tryz.ntmps123 rfl fun w₀ => ?_
 refine GV rfl (GT (RM rfl ?_));refine RS (ok_call (isNaN_fn a) (A1 rfl)) ?_;refine RVN 1 rfl ?_;refine GT (RM rfl ?_);refine RS (ok_call (isNaN_fn b) (A1 rfl)) ?_;refine RVN 1 rfl ?_;refine QS (GV rfl (A.no rfl ?_));refine QK (QS (GV rfl (A.no rfl ?_)));refine QK (QS (GT (RV 3 rfl ?_)));refine RZ (.bool (decide (a.toNat < b.toNat))) (congrArg Value.bool (decide_eq_decide.2 (by omega))) ?_;refine RN ?_;refine A.cond rfl (fun hc16 => ?_) (fun hc16 => ?_)
 ·have h1 : a.toNat < b.toNat := by simpa using hc16
  have hres : (-1 : Int) = cp8 a b := (if_pos h1).symm
  refine GV rfl (A.ret (End.ret_then ?_));exact End.ret1 rfl rfl (Le.v (congrArg (Value.int .i64) hres))
 ·have h1 : ¬ a.toNat < b.toNat := by simpa using hc16
  refine QK (QS (GT (RV 3 rfl ?_)));refine RZ (.bool (decide (b.toNat < a.toNat))) (congrArg Value.bool (decide_eq_decide.2 (by omega))) ?_;refine RN ?_;refine A.cond rfl (fun hc19 => ?_) (fun hc19 => ?_)
  ·have h2 : b.toNat < a.toNat := by simpa using hc19
   have hres : (1 : Int) = cp8 a b := by unfold cp8; rw [if_neg h1, if_pos h2]
   refine GV rfl (A.ret (End.ret_then ?_));exact End.ret1 rfl rfl (Le.v (congrArg (Value.int .i64) hres))
  ·have h2 : ¬ b.toNat < a.toNat := by simpa using hc19
   have hres : (0 : Int) = cp8 a b := by unfold cp8; rw [if_neg h1, if_neg h2]
   refine QK (GV rfl (A.ret ?_));exact End.ret1 rfl rfl (Le.v (congrArg (Value.int .i64) hres))
theorem dcmp_fn (x y : NodT) (hx : x.Fit) (hy : y.Fit)  : Fn Tryz.prog 122 [.v (aggV x.v), .v (aggV y.v)] (.v (.int .i64 (cp8 y.l x.l))) := by
 refine FV Tryz.func122 rfl Tryz.ntmps122 rfl fun w₀ => ?_
 refine GS (TN 0 (RN ?_));refine ZB 1000002 rfl fun b2 ⟨hBb2, hb2⟩ => ?_
 refine TN 1 (RN ?_);refine ZB 1000003 rfl fun b3 ⟨hBb3, hb3⟩ => ?_
 have hlt_b2_b3 := hb3 1000002 b2 _ _ rfl
 refine TL (RVN 1 rfl ?_);refine GT (RS (ok_field field57_0 (by decide) rfl) ?_);refine RLV 1000003 U5 rfl rfl rfl ?_;refine RS (ok_field field57_0 (by decide) rfl) ?_;refine RLV 1000002 U5 rfl rfl rfl ?_;refine RS (ok_call (Cmp8_fn y.l x.l) (A2 rfl rfl)) ?_;refine RVN 1 rfl ?_;refine A.ret ?_;exact ER rfl rfl
set_option maxHeartbeats 8000000 in
theorem Ins_fnW (g q : Nat) (ys : List Value) (a b : Nat) (W : List NodT) (hW : FitT W) (hab : a ≤ b) (hb : b ≤ W.length) (hsm : W.length ≤ 1000000)  : FnW Tryz.prog 152 [] 57 g (nodsV W ++ ys) (nodsV (insO a (b - a - 1) W) ++ ys) ([.slice (some ⟨g, 0, none⟩) W.length q, nI a, nI b, .func (.func 122) #[] #[]].map D.v) := by
 refine FnW.of (n := 53) (kb := 1000801) (kw := 1000802) Tryz.func152 rfl (by kernel_rfl) Tryz.ntmps152 (by simp) (by decide) (fun p hp => by cases hp) (by decide) (by decide) [(0, .v (.slice (some ⟨g, 0, none⟩) W.length q)), (1, .v (nI a)), (2, .v (nI b)), (3, .v (.func (.func 122) #[] #[]))]
  (fun p hp => by simp only [List.mem_cons, List.not_mem_nil, or_false] at hp; rcases hp with rfl | rfl | rfl | rfl <;> exact ⟨_, rfl, rfl⟩) fun w₀ w₁ hw hM => ?_
 have hBg : w₀.heap.size ≤ g := Nat.le_of_eq hw
 refine GT (RV 2 rfl ?_);refine RZ (nI (a + 1 + 0)) (wrap_eq (by omega) (by omega)) ?_;refine RVN 1 rfl ?_;refine A.block ?_;refine A.loop (ι := Nat) (fun k => k ≤ b - a - 1) (fun k => [(0, .v (.slice (some ⟨g, 0, none⟩) W.length q)), (1, .v (nI (a))), (2, .v (nI (b))), (3, .v (.func (.func 122) #[] #[])), (8, .v (nI (a + 1 + k))), (1000801, blk g 57 (nodsV (insO a k W) ++ ys)), (1000802, wroteD 57 g w₁)]) (fun k => b - a - 1 - k) 0 ?_ ?_ ?_
 ·exact Nat.zero_le _
 ·exact (KC 0 rfl (KC 1 rfl (KC 2 rfl (KC 3 rfl (KC 8 rfl (KE 1000801 rfl (by rfl) (KC 1000802 rfl KN)))))))
 intro k hk'
 refine QS (GV rfl ?_);refine A.cond rfl (fun hc14 => ?_) (fun hc14 => ?_)
 ·have hk : a + 1 + k < b := by simp at hc14; omega
  refine QK (QSB (GV rfl (A.block ?_)));refine A.loop (ι := Nat × List NodT) (fun p => p.1 ≤ k + 1 ∧ p.2.length = W.length ∧ FitT p.2 ∧ insO a (k + 1) W = insD a p.1 p.2) (fun p => [(0, .v (.slice (some ⟨g, 0, none⟩) W.length q)), (1, .v (nI (a))), (2, .v (nI (b))), (3, .v (.func (.func 122) #[] #[])), (8, .v (nI (a + 1 + k))), (9, .v (nI ((a + p.1)))), (1000801, blk g 57 (nodsV p.2 ++ ys)), (1000802, wroteD 57 g w₁)]) (fun p => p.1) (k + 1, insO a k W) ?_ ?_ ?_
  ·exact ⟨Nat.le_refl _, insO_len _ _ _, insO_fit hW, rfl⟩
  ·exact (KC 0 rfl (KC 1 rfl (KC 2 rfl (KC 3 rfl (KC 8 rfl (KE 9 rfl (congrArg (fun n : Nat => D.v (nI n)) (by omega)) (KC 1000801 rfl (KC 1000802 rfl KN))))))))
  intro p hG
  have hj : a + p.1 < W.length := by omega
  have hjl : a + p.1 < p.2.length := by omega
  have hj1 : a + (p.1 - 1) < W.length := by omega
  have hj1l : a + (p.1 - 1) < p.2.length := by omega
  refine QS ?_
  rcases Nat.eq_zero_or_pos p.1 with hz | hz
  ·refine GTD (RV 3 rfl ?_);refine RZ (.bool false) (congrArg Value.bool (decide_eq_false (by omega))) ?_;refine RV 14 rfl ?_;refine RF ?_;refine RN (A.no rfl ?_);refine A.exit (End.exit_then (End.exit_then (End.exit_here (End.normal_block (EN (GTE (RV 2 rfl ?_)))))));refine RZ (nI (a + 1 + (k + 1))) (wrap_eq (by omega) (by omega)) ?_;refine RVN 1 rfl ?_;refine End.normal_then ?_;refine End.again (k + 1) ?_ ?_ ?_
   ·show _ ≤ _; omega
   ·show _ - _ < _ - _; omega
   ·exact (KC 0 rfl (KC 1 rfl (KC 2 rfl (KC 3 rfl (KC 8 rfl (KE 1000801 rfl (by first | (rw [hG.2.2.2, insStop (.inr hlt)]; done) | (rw [hG.2.2.2, insStop (.inl hz)]; done)) (KC 1000802 rfl KN)))))))
  ·refine GTD (RV 3 rfl ?_);refine RZ (.bool true) (congrArg Value.bool (decide_eq_true (by omega))) ?_;refine RV 4 rfl ?_;refine RQ (ok_indexS ((a + p.1)) U30 infoN rfl rfl rfl hj) ?_;refine RQ (ok_loadP (s := 1000801) (by decide) U57 rfl size57 rfl rfl (nodsY_len hG.2.2.1 ys hjl) (nodsY_at hG.2.2.1 ys hjl)) ?_;refine RV 3 rfl ?_;refine RZ (nI ((a + (p.1 - 1)))) (wrap_eq (by omega) (by omega)) ?_;refine RQ (ok_indexS ((a + (p.1 - 1))) U30 infoN rfl rfl rfl hj1) ?_;refine RQ (ok_loadP (s := 1000801) (by decide) U57 rfl size57 rfl rfl (nodsY_len hG.2.2.1 ys hj1l) (nodsY_at hG.2.2.1 ys hj1l)) ?_;refine RQ (ok_callV0 (dcmp_fn (ndAt p.2 (a + p.1)) (ndAt p.2 (a + (p.1 - 1))) (hG.2.2.1.at _) (hG.2.2.1.at _)) rfl (A2 rfl rfl)) ?_;refine RQ (ok_bin rfl rfl rfl) ?_;refine RZ (.bool (ltN (ndAt p.2 (a + p.1)) (ndAt p.2 (a + (p.1 - 1))))) (congrArg Value.bool cp8_neg) ?_;refine RVN 1 rfl ?_;refine A.cond rfl (fun hc34 => ?_) (fun hc34 => ?_)
   ·have hlt : ltN (ndAt p.2 (a + p.1)) (ndAt p.2 (a + (p.1 - 1))) = true := by simpa using hc34
    refine QK (QSB ?_);refine A.regL0 15 [2, 3, 4] (by kernel_rfl) (by kernel_rfl) (by kernel_rfl) (by kernel_rfl) [(0, .v (.slice (some ⟨g, 0, none⟩) W.length q)), (1, .v (nI (a))), (2, .v (nI (b))), (3, .v (.func (.func 122) #[] #[])), (8, .v (nI (a + 1 + k))), (9, .v (nI ((a + p.1)))), (1000801, blk g 57 (nodsV (swT p.2 (a + p.1) (a + (p.1 - 1))) ++ ys)), (1000802, wroteD 57 g w₁)] ?_ ?_
    ·refine RV 5 rfl ?_;refine RZ (nI ((a + (p.1 - 1)))) (wrap_eq (by omega) (by omega)) ?_;refine RV 3 rfl ?_;refine RZ (nI ((a + (p.1 - 1)))) (wrap_eq (by omega) (by omega)) ?_;refine RS (ok_indexS ((a + (p.1 - 1))) U30 infoN rfl rfl rfl hj1) ?_;refine RS (ok_loadP (s := 1000801) (by decide) U57 rfl size57 rfl rfl (nodsY_len hG.2.2.1 ys hj1l) (nodsY_at hG.2.2.1 ys hj1l)) ?_;refine RV 2 rfl ?_;refine RS (ok_indexS ((a + p.1)) U30 infoN rfl rfl rfl hj) ?_;refine RS (ok_loadP (s := 1000801) (by decide) U57 rfl size57 rfl rfl (nodsY_len hG.2.2.1 ys hjl) (nodsY_at hG.2.2.1 ys hjl)) ?_;refine RS (ok_indexS ((a + p.1)) U30 infoN rfl rfl rfl hj) ?_;refine RN ?_
     intro S hS
     simp only [subs, List.map_cons, List.map_nil, List.cons_append, List.nil_append, List.mem_cons, List.not_mem_nil, or_false] at hS
     rcases hS with rfl | rfl | rfl | rfl | rfl | rfl | rfl | rfl
     ·refine ⟨2, Nat.le_of_ble_eq_true (by kernel_rfl), _, (Sv [0, 1, 2, 3, 8, 9, 34, 37, 38, 39, 40, 41, 42, 43, 44, 45, 46, 47, 48, 49, 50, 51, 1000801, 1000802] rfl), by kernel_rfl, _, rfl, _, eff_storeP (n := 53) (s := 1000801) (size57.of ((hG.2.2.1.at _).len)) rfl rfl (NodT.one _) hBg rfl (by first | exact nf1 hG.2.2.1 (hG.2.2.1.at _) (by omega) | exact nf2 hG.2.2.1 (hG.2.2.1.at _) (hG.2.2.1.at _) (by omega) (by omega)) (LV 0 rfl (LV 1 rfl (LV 2 rfl (LV 3 rfl (LV 8 rfl (LV 9 rfl (LV 34 rfl (LV 37 rfl (LV 38 rfl (LV 39 rfl (LV 40 rfl (LV 41 rfl (LV 42 rfl (LV 43 rfl (LV 44 rfl (LV 45 rfl (LV 46 rfl (LV 47 rfl (LV 48 rfl (LV 49 rfl (LV 50 rfl (LV 51 rfl (LeftS.cons (t := 1000802) rfl (Surv.wrote) LN))))))))))))))))))))))), ?_⟩
      refine AnyT.step 16 [] (by kernel_rfl) ?_;refine NextT.pure (by kernel_rfl) rfl rfl rfl (ok_indexS ((a + (p.1 - 1))) U30 infoN rfl rfl rfl hj1) ?_ ?_
      ·refine AnyT.step 17 [] (by kernel_rfl) ?_;refine NextT.eff rfl (eff_storeP (n := 53) (s := 1000801) (size57.of ((hG.2.2.1.at _).len)) rfl rfl (NodT.one _) hBg rfl (by first | exact nf1 hG.2.2.1 (hG.2.2.1.at _) (by omega) | exact nf2 hG.2.2.1 (hG.2.2.1.at _) (hG.2.2.1.at _) (by omega) (by omega)) (LV 0 rfl (LV 1 rfl (LV 2 rfl (LV 3 rfl (LV 8 rfl (LV 9 rfl (LV 34 rfl (LV 37 rfl (LV 38 rfl (LV 39 rfl (LV 40 rfl (LV 41 rfl (LV 42 rfl (LV 43 rfl (LV 44 rfl (LV 45 rfl (LV 46 rfl (LV 47 rfl (LV 48 rfl (LV 49 rfl (LV 50 rfl (LV 51 rfl (LV 52 rfl (LeftS.cons (t := 1000802) rfl (Surv.wrote) LN))))))))))))))))))))))))) ?_ ?_
       ·refine AnyT.last (by kernel_rfl) ?_;exact (QC 0 rfl (QC 1 rfl (QC 2 rfl (QC 3 rfl (QC 8 rfl (QC 9 rfl (QX 1000801 rfl (Le.eq (congrArg (blk g 57) (nods_sw hG.2.2.1 hjl hj1l ys _ rfl))) (QC 1000802 rfl SubL.nil))))))))
       exact trivial
      exact trivial
     ·refine ⟨3, Nat.le_of_ble_eq_true (by kernel_rfl), _, (Sv [0, 1, 2, 3, 8, 9, 34, 37, 38, 39, 40, 42, 43, 44, 45, 46, 47, 48, 49, 50, 51, 1000801, 1000802] rfl), by kernel_rfl, _, rfl, _, eff_storeP (n := 53) (s := 1000801) (size57.of ((hG.2.2.1.at _).len)) rfl rfl (NodT.one _) hBg rfl (by first | exact nf1 hG.2.2.1 (hG.2.2.1.at _) (by omega) | exact nf2 hG.2.2.1 (hG.2.2.1.at _) (hG.2.2.1.at _) (by omega) (by omega)) (LV 0 rfl (LV 1 rfl (LV 2 rfl (LV 3 rfl (LV 8 rfl (LV 9 rfl (LV 34 rfl (LV 37 rfl (LV 38 rfl (LV 39 rfl (LV 40 rfl (LV 42 rfl (LV 43 rfl (LV 44 rfl (LV 45 rfl (LV 46 rfl (LV 47 rfl (LV 48 rfl (LV 49 rfl (LV 50 rfl (LV 51 rfl (LeftS.cons (t := 1000802) rfl (Surv.wrote) LN)))))))))))))))))))))), ?_⟩
      refine AnyT.step 4 [] (by kernel_rfl) ?_;refine NextT.pure (by kernel_rfl) rfl rfl rfl (OpOk.asV (nI ((a + (p.1 - 1)))) (wrap_eq (by omega) (by omega)) (ok_bin rfl rfl rfl)) ?_ ?_
      ·refine AnyT.step 16 [] (by kernel_rfl) ?_;refine NextT.pure (by kernel_rfl) rfl rfl rfl (ok_indexS ((a + (p.1 - 1))) U30 infoN rfl rfl rfl hj1) ?_ ?_
       ·refine AnyT.step 17 [] (by kernel_rfl) ?_;refine NextT.eff rfl (eff_storeP (n := 53) (s := 1000801) (size57.of ((hG.2.2.1.at _).len)) rfl rfl (NodT.one _) hBg rfl (by first | exact nf1 hG.2.2.1 (hG.2.2.1.at _) (by omega) | exact nf2 hG.2.2.1 (hG.2.2.1.at _) (hG.2.2.1.at _) (by omega) (by omega)) (LV 0 rfl (LV 1 rfl (LV 2 rfl (LV 3 rfl (LV 8 rfl (LV 9 rfl (LV 34 rfl (LV 37 rfl (LV 38 rfl (LV 39 rfl (LV 40 rfl (LV 41 rfl (LV 42 rfl (LV 43 rfl (LV 44 rfl (LV 45 rfl (LV 46 rfl (LV 47 rfl (LV 48 rfl (LV 49 rfl (LV 50 rfl (LV 51 rfl (LV 52 rfl (LeftS.cons (t := 1000802) rfl (Surv.wrote) LN))))))))))))))))))))))))) ?_ ?_
        ·refine AnyT.last (by kernel_rfl) ?_;exact (QC 0 rfl (QC 1 rfl (QC 2 rfl (QC 3 rfl (QC 8 rfl (QC 9 rfl (QX 1000801 rfl (Le.eq (congrArg (blk g 57) (nods_sw hG.2.2.1 hjl hj1l ys _ rfl))) (QC 1000802 rfl SubL.nil))))))))
        exact trivial
       exact trivial
      exact trivial
     ·refine ⟨3, Nat.le_of_ble_eq_true (by kernel_rfl), _, (Sv [0, 1, 2, 3, 8, 9, 34, 37, 38, 39, 41, 42, 43, 44, 45, 46, 47, 48, 49, 50, 51, 1000801, 1000802] rfl), by kernel_rfl, _, rfl, _, eff_storeP (n := 53) (s := 1000801) (size57.of ((hG.2.2.1.at _).len)) rfl rfl (NodT.one _) hBg rfl (by first | exact nf1 hG.2.2.1 (hG.2.2.1.at _) (by omega) | exact nf2 hG.2.2.1 (hG.2.2.1.at _) (hG.2.2.1.at _) (by omega) (by omega)) (LV 0 rfl (LV 1 rfl (LV 2 rfl (LV 3 rfl (LV 8 rfl (LV 9 rfl (LV 34 rfl (LV 37 rfl (LV 38 rfl (LV 39 rfl (LV 41 rfl (LV 42 rfl (LV 43 rfl (LV 44 rfl (LV 45 rfl (LV 46 rfl (LV 47 rfl (LV 48 rfl (LV 49 rfl (LV 50 rfl (LV 51 rfl (LeftS.cons (t := 1000802) rfl (Surv.wrote) LN)))))))))))))))))))))), ?_⟩
      refine AnyT.step 3 [] (by kernel_rfl) ?_;refine NextT.pure (by kernel_rfl) rfl rfl rfl (ok_move rfl) ?_ ?_
      ·refine AnyT.step 16 [] (by kernel_rfl) ?_;refine NextT.pure (by kernel_rfl) rfl rfl rfl (ok_indexS ((a + (p.1 - 1))) U30 infoN rfl rfl rfl hj1) ?_ ?_
       ·refine AnyT.step 17 [] (by kernel_rfl) ?_;refine NextT.eff rfl (eff_storeP (n := 53) (s := 1000801) (size57.of ((hG.2.2.1.at _).len)) rfl rfl (NodT.one _) hBg rfl (by first | exact nf1 hG.2.2.1 (hG.2.2.1.at _) (by omega) | exact nf2 hG.2.2.1 (hG.2.2.1.at _) (hG.2.2.1.at _) (by omega) (by omega)) (LV 0 rfl (LV 1 rfl (LV 2 rfl (LV 3 rfl (LV 8 rfl (LV 9 rfl (LV 34 rfl (LV 37 rfl (LV 38 rfl (LV 39 rfl (LV 40 rfl (LV 41 rfl (LV 42 rfl (LV 43 rfl (LV 44 rfl (LV 45 rfl (LV 46 rfl (LV 47 rfl (LV 48 rfl (LV 49 rfl (LV 50 rfl (LV 51 rfl (LV 52 rfl (LeftS.cons (t := 1000802) rfl (Surv.wrote) LN))))))))))))))))))))))))) ?_ ?_
        ·refine AnyT.last (by kernel_rfl) ?_;exact (QC 0 rfl (QC 1 rfl (QC 2 rfl (QC 3 rfl (QC 8 rfl (QC 9 rfl (QX 1000801 rfl (Le.eq (congrArg (blk g 57) (nods_sw hG.2.2.1 hjl hj1l ys _ rfl))) (QC 1000802 rfl SubL.nil))))))))
        exact trivial
       exact trivial
      exact trivial
     ·refine ⟨4, Nat.le_of_ble_eq_true (by kernel_rfl), _, (Sv [0, 1, 2, 3, 8, 9, 34, 37, 38, 39, 42, 43, 44, 45, 46, 47, 48, 49, 50, 51, 1000801, 1000802] rfl), by kernel_rfl, _, rfl, _, eff_storeP (n := 53) (s := 1000801) (size57.of ((hG.2.2.1.at _).len)) rfl rfl (NodT.one _) hBg rfl (by first | exact nf1 hG.2.2.1 (hG.2.2.1.at _) (by omega) | exact nf2 hG.2.2.1 (hG.2.2.1.at _) (hG.2.2.1.at _) (by omega) (by omega)) (LV 0 rfl (LV 1 rfl (LV 2 rfl (LV 3 rfl (LV 8 rfl (LV 9 rfl (LV 34 rfl (LV 37 rfl (LV 38 rfl (LV 39 rfl (LV 42 rfl (LV 43 rfl (LV 44 rfl (LV 45 rfl (LV 46 rfl (LV 47 rfl (LV 48 rfl (LV 49 rfl (LV 50 rfl (LV 51 rfl (LeftS.cons (t := 1000802) rfl (Surv.wrote) LN))))))))))))))))))))), ?_⟩
      refine AnyT.step 3 [] (by kernel_rfl) ?_;refine NextT.pure (by kernel_rfl) rfl rfl rfl (ok_move rfl) ?_ ?_
      ·refine AnyT.step 4 [] (by kernel_rfl) ?_;refine NextT.pure (by kernel_rfl) rfl rfl rfl (OpOk.asV (nI ((a + (p.1 - 1)))) (wrap_eq (by omega) (by omega)) (ok_bin rfl rfl rfl)) ?_ ?_
       ·refine AnyT.step 16 [] (by kernel_rfl) ?_;refine NextT.pure (by kernel_rfl) rfl rfl rfl (ok_indexS ((a + (p.1 - 1))) U30 infoN rfl rfl rfl hj1) ?_ ?_
        ·refine AnyT.step 17 [] (by kernel_rfl) ?_;refine NextT.eff rfl (eff_storeP (n := 53) (s := 1000801) (size57.of ((hG.2.2.1.at _).len)) rfl rfl (NodT.one _) hBg rfl (by first | exact nf1 hG.2.2.1 (hG.2.2.1.at _) (by omega) | exact nf2 hG.2.2.1 (hG.2.2.1.at _) (hG.2.2.1.at _) (by omega) (by omega)) (LV 0 rfl (LV 1 rfl (LV 2 rfl (LV 3 rfl (LV 8 rfl (LV 9 rfl (LV 34 rfl (LV 37 rfl (LV 38 rfl (LV 39 rfl (LV 40 rfl (LV 41 rfl (LV 42 rfl (LV 43 rfl (LV 44 rfl (LV 45 rfl (LV 46 rfl (LV 47 rfl (LV 48 rfl (LV 49 rfl (LV 50 rfl (LV 51 rfl (LV 52 rfl (LeftS.cons (t := 1000802) rfl (Surv.wrote) LN))))))))))))))))))))))))) ?_ ?_
         ·refine AnyT.last (by kernel_rfl) ?_;exact (QC 0 rfl (QC 1 rfl (QC 2 rfl (QC 3 rfl (QC 8 rfl (QC 9 rfl (QX 1000801 rfl (Le.eq (congrArg (blk g 57) (nods_sw hG.2.2.1 hjl hj1l ys _ rfl))) (QC 1000802 rfl SubL.nil))))))))
         exact trivial
        exact trivial
       exact trivial
      exact trivial
     ·refine ⟨3, Nat.le_of_ble_eq_true (by kernel_rfl), _, (Sv [0, 1, 2, 3, 8, 9, 34, 37, 38, 40, 41, 42, 43, 44, 45, 46, 47, 48, 49, 50, 51, 1000801, 1000802] rfl), by kernel_rfl, _, rfl, _, eff_storeP (n := 53) (s := 1000801) (size57.of ((hG.2.2.1.at _).len)) rfl rfl (NodT.one _) hBg rfl (by first | exact nf1 hG.2.2.1 (hG.2.2.1.at _) (by omega) | exact nf2 hG.2.2.1 (hG.2.2.1.at _) (hG.2.2.1.at _) (by omega) (by omega)) (LV 0 rfl (LV 1 rfl (LV 2 rfl (LV 3 rfl (LV 8 rfl (LV 9 rfl (LV 34 rfl (LV 37 rfl (LV 38 rfl (LV 40 rfl (LV 41 rfl (LV 42 rfl (LV 43 rfl (LV 44 rfl (LV 45 rfl (LV 46 rfl (LV 47 rfl (LV 48 rfl (LV 49 rfl (LV 50 rfl (LV 51 rfl (LeftS.cons (t := 1000802) rfl (Surv.wrote) LN)))))))))))))))))))))), ?_⟩
      refine AnyT.step 2 [] (by kernel_rfl) ?_;refine NextT.pure (by kernel_rfl) rfl rfl rfl (ok_move rfl) ?_ ?_
      ·refine AnyT.step 16 [] (by kernel_rfl) ?_;refine NextT.pure (by kernel_rfl) rfl rfl rfl (ok_indexS ((a + (p.1 - 1))) U30 infoN rfl rfl rfl hj1) ?_ ?_
       ·refine AnyT.step 17 [] (by kernel_rfl) ?_;refine NextT.eff rfl (eff_storeP (n := 53) (s := 1000801) (size57.of ((hG.2.2.1.at _).len)) rfl rfl (NodT.one _) hBg rfl (by first | exact nf1 hG.2.2.1 (hG.2.2.1.at _) (by omega) | exact nf2 hG.2.2.1 (hG.2.2.1.at _) (hG.2.2.1.at _) (by omega) (by omega)) (LV 0 rfl (LV 1 rfl (LV 2 rfl (LV 3 rfl (LV 8 rfl (LV 9 rfl (LV 34 rfl (LV 37 rfl (LV 38 rfl (LV 39 rfl (LV 40 rfl (LV 41 rfl (LV 42 rfl (LV 43 rfl (LV 44 rfl (LV 45 rfl (LV 46 rfl (LV 47 rfl (LV 48 rfl (LV 49 rfl (LV 50 rfl (LV 51 rfl (LV 52 rfl (LeftS.cons (t := 1000802) rfl (Surv.wrote) LN))))))))))))))))))))))))) ?_ ?_
        ·refine AnyT.last (by kernel_rfl) ?_;exact (QC 0 rfl (QC 1 rfl (QC 2 rfl (QC 3 rfl (QC 8 rfl (QC 9 rfl (QX 1000801 rfl (Le.eq (congrArg (blk g 57) (nods_sw hG.2.2.1 hjl hj1l ys _ rfl))) (QC 1000802 rfl SubL.nil))))))))
        exact trivial
       exact trivial
      exact trivial
     ·refine ⟨4, Nat.le_of_ble_eq_true (by kernel_rfl), _, (Sv [0, 1, 2, 3, 8, 9, 34, 37, 38, 40, 42, 43, 44, 45, 46, 47, 48, 49, 50, 51, 1000801, 1000802] rfl), by kernel_rfl, _, rfl, _, eff_storeP (n := 53) (s := 1000801) (size57.of ((hG.2.2.1.at _).len)) rfl rfl (NodT.one _) hBg rfl (by first | exact nf1 hG.2.2.1 (hG.2.2.1.at _) (by omega) | exact nf2 hG.2.2.1 (hG.2.2.1.at _) (hG.2.2.1.at _) (by omega) (by omega)) (LV 0 rfl (LV 1 rfl (LV 2 rfl (LV 3 rfl (LV 8 rfl (LV 9 rfl (LV 34 rfl (LV 37 rfl (LV 38 rfl (LV 40 rfl (LV 42 rfl (LV 43 rfl (LV 44 rfl (LV 45 rfl (LV 46 rfl (LV 47 rfl (LV 48 rfl (LV 49 rfl (LV 50 rfl (LV 51 rfl (LeftS.cons (t := 1000802) rfl (Surv.wrote) LN))))))))))))))))))))), ?_⟩
      refine AnyT.step 2 [4] (by kernel_rfl) ?_;refine NextT.pure (by kernel_rfl) rfl rfl rfl (ok_move rfl) ?_ ?_
      ·refine AnyT.step 4 [] (by kernel_rfl) ?_;refine NextT.pure (by kernel_rfl) rfl rfl rfl (OpOk.asV (nI ((a + (p.1 - 1)))) (wrap_eq (by omega) (by omega)) (ok_bin rfl rfl rfl)) ?_ ?_
       ·refine AnyT.step 16 [] (by kernel_rfl) ?_;refine NextT.pure (by kernel_rfl) rfl rfl rfl (ok_indexS ((a + (p.1 - 1))) U30 infoN rfl rfl rfl hj1) ?_ ?_
        ·refine AnyT.step 17 [] (by kernel_rfl) ?_;refine NextT.eff rfl (eff_storeP (n := 53) (s := 1000801) (size57.of ((hG.2.2.1.at _).len)) rfl rfl (NodT.one _) hBg rfl (by first | exact nf1 hG.2.2.1 (hG.2.2.1.at _) (by omega) | exact nf2 hG.2.2.1 (hG.2.2.1.at _) (hG.2.2.1.at _) (by omega) (by omega)) (LV 0 rfl (LV 1 rfl (LV 2 rfl (LV 3 rfl (LV 8 rfl (LV 9 rfl (LV 34 rfl (LV 37 rfl (LV 38 rfl (LV 39 rfl (LV 40 rfl (LV 41 rfl (LV 42 rfl (LV 43 rfl (LV 44 rfl (LV 45 rfl (LV 46 rfl (LV 47 rfl (LV 48 rfl (LV 49 rfl (LV 50 rfl (LV 51 rfl (LV 52 rfl (LeftS.cons (t := 1000802) rfl (Surv.wrote) LN))))))))))))))))))))))))) ?_ ?_
         ·refine AnyT.last (by kernel_rfl) ?_;exact (QC 0 rfl (QC 1 rfl (QC 2 rfl (QC 3 rfl (QC 8 rfl (QC 9 rfl (QX 1000801 rfl (Le.eq (congrArg (blk g 57) (nods_sw hG.2.2.1 hjl hj1l ys _ rfl))) (QC 1000802 rfl SubL.nil))))))))
         exact trivial
        exact trivial
       exact trivial
      refine NextT.pure (by kernel_rfl) rfl rfl rfl (OpOk.asV (nI ((a + (p.1 - 1)))) (wrap_eq (by omega) (by omega)) (ok_bin rfl rfl rfl)) ?_ ?_
      ·refine AnyT.step 2 [] (by kernel_rfl) ?_;refine NextT.pure (by kernel_rfl) rfl rfl rfl (ok_move rfl) ?_ ?_
       ·refine AnyT.step 16 [] (by kernel_rfl) ?_;refine NextT.pure (by kernel_rfl) rfl rfl rfl (ok_indexS ((a + (p.1 - 1))) U30 infoN rfl rfl rfl hj1) ?_ ?_
        ·refine AnyT.step 17 [] (by kernel_rfl) ?_;refine NextT.eff rfl (eff_storeP (n := 53) (s := 1000801) (size57.of ((hG.2.2.1.at _).len)) rfl rfl (NodT.one _) hBg rfl (by first | exact nf1 hG.2.2.1 (hG.2.2.1.at _) (by omega) | exact nf2 hG.2.2.1 (hG.2.2.1.at _) (hG.2.2.1.at _) (by omega) (by omega)) (LV 0 rfl (LV 1 rfl (LV 2 rfl (LV 3 rfl (LV 8 rfl (LV 9 rfl (LV 34 rfl (LV 37 rfl (LV 38 rfl (LV 39 rfl (LV 40 rfl (LV 41 rfl (LV 42 rfl (LV 43 rfl (LV 44 rfl (LV 45 rfl (LV 46 rfl (LV 47 rfl (LV 48 rfl (LV 49 rfl (LV 50 rfl (LV 51 rfl (LV 52 rfl (LeftS.cons (t := 1000802) rfl (Surv.wrote) LN))))))))))))))))))))))))) ?_ ?_
         ·refine AnyT.last (by kernel_rfl) ?_;exact (QC 0 rfl (QC 1 rfl (QC 2 rfl (QC 3 rfl (QC 8 rfl (QC 9 rfl (QX 1000801 rfl (Le.eq (congrArg (blk g 57) (nods_sw hG.2.2.1 hjl hj1l ys _ rfl))) (QC 1000802 rfl SubL.nil))))))))
         exact trivial
        exact trivial
       exact trivial
      exact trivial
     ·refine ⟨4, Nat.le_of_ble_eq_true (by kernel_rfl), _, (Sv [0, 1, 2, 3, 8, 9, 34, 37, 38, 41, 42, 43, 44, 45, 46, 47, 48, 49, 50, 51, 1000801, 1000802] rfl), by kernel_rfl, _, rfl, _, eff_storeP (n := 53) (s := 1000801) (size57.of ((hG.2.2.1.at _).len)) rfl rfl (NodT.one _) hBg rfl (by first | exact nf1 hG.2.2.1 (hG.2.2.1.at _) (by omega) | exact nf2 hG.2.2.1 (hG.2.2.1.at _) (hG.2.2.1.at _) (by omega) (by omega)) (LV 0 rfl (LV 1 rfl (LV 2 rfl (LV 3 rfl (LV 8 rfl (LV 9 rfl (LV 34 rfl (LV 37 rfl (LV 38 rfl (LV 41 rfl (LV 42 rfl (LV 43 rfl (LV 44 rfl (LV 45 rfl (LV 46 rfl (LV 47 rfl (LV 48 rfl (LV 49 rfl (LV 50 rfl (LV 51 rfl (LeftS.cons (t := 1000802) rfl (Surv.wrote) LN))))))))))))))))))))), ?_⟩
      refine AnyT.step 2 [3] (by kernel_rfl) ?_;refine NextT.pure (by kernel_rfl) rfl rfl rfl (ok_move rfl) ?_ ?_
      ·refine AnyT.step 3 [] (by kernel_rfl) ?_;refine NextT.pure (by kernel_rfl) rfl rfl rfl (ok_move rfl) ?_ ?_
       ·refine AnyT.step 16 [] (by kernel_rfl) ?_;refine NextT.pure (by kernel_rfl) rfl rfl rfl (ok_indexS ((a + (p.1 - 1))) U30 infoN rfl rfl rfl hj1) ?_ ?_
        ·refine AnyT.step 17 [] (by kernel_rfl) ?_;refine NextT.eff rfl (eff_storeP (n := 53) (s := 1000801) (size57.of ((hG.2.2.1.at _).len)) rfl rfl (NodT.one _) hBg rfl (by first | exact nf1 hG.2.2.1 (hG.2.2.1.at _) (by omega) | exact nf2 hG.2.2.1 (hG.2.2.1.at _) (hG.2.2.1.at _) (by omega) (by omega)) (LV 0 rfl (LV 1 rfl (LV 2 rfl (LV 3 rfl (LV 8 rfl (LV 9 rfl (LV 34 rfl (LV 37 rfl (LV 38 rfl (LV 39 rfl (LV 40 rfl (LV 41 rfl (LV 42 rfl (LV 43 rfl (LV 44 rfl (LV 45 rfl (LV 46 rfl (LV 47 rfl (LV 48 rfl (LV 49 rfl (LV 50 rfl (LV 51 rfl (LV 52 rfl (LeftS.cons (t := 1000802) rfl (Surv.wrote) LN))))))))))))))))))))))))) ?_ ?_
         ·refine AnyT.last (by kernel_rfl) ?_;exact (QC 0 rfl (QC 1 rfl (QC 2 rfl (QC 3 rfl (QC 8 rfl (QC 9 rfl (QX 1000801 rfl (Le.eq (congrArg (blk g 57) (nods_sw hG.2.2.1 hjl hj1l ys _ rfl))) (QC 1000802 rfl SubL.nil))))))))
         exact trivial
        exact trivial
       exact trivial
      refine NextT.pure (by kernel_rfl) rfl rfl rfl (ok_move rfl) ?_ ?_
      ·refine AnyT.step 2 [] (by kernel_rfl) ?_;refine NextT.pure (by kernel_rfl) rfl rfl rfl (ok_move rfl) ?_ ?_
       ·refine AnyT.step 16 [] (by kernel_rfl) ?_;refine NextT.pure (by kernel_rfl) rfl rfl rfl (ok_indexS ((a + (p.1 - 1))) U30 infoN rfl rfl rfl hj1) ?_ ?_
        ·refine AnyT.step 17 [] (by kernel_rfl) ?_;refine NextT.eff rfl (eff_storeP (n := 53) (s := 1000801) (size57.of ((hG.2.2.1.at _).len)) rfl rfl (NodT.one _) hBg rfl (by first | exact nf1 hG.2.2.1 (hG.2.2.1.at _) (by omega) | exact nf2 hG.2.2.1 (hG.2.2.1.at _) (hG.2.2.1.at _) (by omega) (by omega)) (LV 0 rfl (LV 1 rfl (LV 2 rfl (LV 3 rfl (LV 8 rfl (LV 9 rfl (LV 34 rfl (LV 37 rfl (LV 38 rfl (LV 39 rfl (LV 40 rfl (LV 41 rfl (LV 42 rfl (LV 43 rfl (LV 44 rfl (LV 45 rfl (LV 46 rfl (LV 47 rfl (LV 48 rfl (LV 49 rfl (LV 50 rfl (LV 51 rfl (LV 52 rfl (LeftS.cons (t := 1000802) rfl (Surv.wrote) LN))))))))))))))))))))))))) ?_ ?_
         ·refine AnyT.last (by kernel_rfl) ?_;exact (QC 0 rfl (QC 1 rfl (QC 2 rfl (QC 3 rfl (QC 8 rfl (QC 9 rfl (QX 1000801 rfl (Le.eq (congrArg (blk g 57) (nods_sw hG.2.2.1 hjl hj1l ys _ rfl))) (QC 1000802 rfl SubL.nil))))))))
         exact trivial
        exact trivial
       exact trivial
      exact trivial
     ·refine ⟨5, Nat.le_of_ble_eq_true (by kernel_rfl), _, (Sv [0, 1, 2, 3, 8, 9, 34, 37, 38, 42, 43, 44, 45, 46, 47, 48, 49, 50, 51, 1000801, 1000802] rfl), by kernel_rfl, _, rfl, _, eff_storeP (n := 53) (s := 1000801) (size57.of ((hG.2.2.1.at _).len)) rfl rfl (NodT.one _) hBg rfl (by first | exact nf1 hG.2.2.1 (hG.2.2.1.at _) (by omega) | exact nf2 hG.2.2.1 (hG.2.2.1.at _) (hG.2.2.1.at _) (by omega) (by omega)) (LV 0 rfl (LV 1 rfl (LV 2 rfl (LV 3 rfl (LV 8 rfl (LV 9 rfl (LV 34 rfl (LV 37 rfl (LV 38 rfl (LV 42 rfl (LV 43 rfl (LV 44 rfl (LV 45 rfl (LV 46 rfl (LV 47 rfl (LV 48 rfl (LV 49 rfl (LV 50 rfl (LV 51 rfl (LeftS.cons (t := 1000802) rfl (Surv.wrote) LN)))))))))))))))))))), ?_⟩
      refine AnyT.step 2 [3] (by kernel_rfl) ?_;refine NextT.pure (by kernel_rfl) rfl rfl rfl (ok_move rfl) ?_ ?_
      ·refine AnyT.step 3 [] (by kernel_rfl) ?_;refine NextT.pure (by kernel_rfl) rfl rfl rfl (ok_move rfl) ?_ ?_
       ·refine AnyT.step 4 [] (by kernel_rfl) ?_;refine NextT.pure (by kernel_rfl) rfl rfl rfl (OpOk.asV (nI ((a + (p.1 - 1)))) (wrap_eq (by omega) (by omega)) (ok_bin rfl rfl rfl)) ?_ ?_
        ·refine AnyT.step 16 [] (by kernel_rfl) ?_;refine NextT.pure (by kernel_rfl) rfl rfl rfl (ok_indexS ((a + (p.1 - 1))) U30 infoN rfl rfl rfl hj1) ?_ ?_
         ·refine AnyT.step 17 [] (by kernel_rfl) ?_;refine NextT.eff rfl (eff_storeP (n := 53) (s := 1000801) (size57.of ((hG.2.2.1.at _).len)) rfl rfl (NodT.one _) hBg rfl (by first | exact nf1 hG.2.2.1 (hG.2.2.1.at _) (by omega) | exact nf2 hG.2.2.1 (hG.2.2.1.at _) (hG.2.2.1.at _) (by omega) (by omega)) (LV 0 rfl (LV 1 rfl (LV 2 rfl (LV 3 rfl (LV 8 rfl (LV 9 rfl (LV 34 rfl (LV 37 rfl (LV 38 rfl (LV 39 rfl (LV 40 rfl (LV 41 rfl (LV 42 rfl (LV 43 rfl (LV 44 rfl (LV 45 rfl (LV 46 rfl (LV 47 rfl (LV 48 rfl (LV 49 rfl (LV 50 rfl (LV 51 rfl (LV 52 rfl (LeftS.cons (t := 1000802) rfl (Surv.wrote) LN))))))))))))))))))))))))) ?_ ?_
          ·refine AnyT.last (by kernel_rfl) ?_;exact (QC 0 rfl (QC 1 rfl (QC 2 rfl (QC 3 rfl (QC 8 rfl (QC 9 rfl (QX 1000801 rfl (Le.eq (congrArg (blk g 57) (nods_sw hG.2.2.1 hjl hj1l ys _ rfl))) (QC 1000802 rfl SubL.nil))))))))
          exact trivial
         exact trivial
        exact trivial
       exact trivial
      refine NextT.pure (by kernel_rfl) rfl rfl rfl (ok_move rfl) ?_ ?_
      ·refine AnyT.step 2 [4] (by kernel_rfl) ?_;refine NextT.pure (by kernel_rfl) rfl rfl rfl (ok_move rfl) ?_ ?_
       ·refine AnyT.step 4 [] (by kernel_rfl) ?_;refine NextT.pure (by kernel_rfl) rfl rfl rfl (OpOk.asV (nI ((a + (p.1 - 1)))) (wrap_eq (by omega) (by omega)) (ok_bin rfl rfl rfl)) ?_ ?_
        ·refine AnyT.step 16 [] (by kernel_rfl) ?_;refine NextT.pure (by kernel_rfl) rfl rfl rfl (ok_indexS ((a + (p.1 - 1))) U30 infoN rfl rfl rfl hj1) ?_ ?_
         ·refine AnyT.step 17 [] (by kernel_rfl) ?_;refine NextT.eff rfl (eff_storeP (n := 53) (s := 1000801) (size57.of ((hG.2.2.1.at _).len)) rfl rfl (NodT.one _) hBg rfl (by first | exact nf1 hG.2.2.1 (hG.2.2.1.at _) (by omega) | exact nf2 hG.2.2.1 (hG.2.2.1.at _) (hG.2.2.1.at _) (by omega) (by omega)) (LV 0 rfl (LV 1 rfl (LV 2 rfl (LV 3 rfl (LV 8 rfl (LV 9 rfl (LV 34 rfl (LV 37 rfl (LV 38 rfl (LV 39 rfl (LV 40 rfl (LV 41 rfl (LV 42 rfl (LV 43 rfl (LV 44 rfl (LV 45 rfl (LV 46 rfl (LV 47 rfl (LV 48 rfl (LV 49 rfl (LV 50 rfl (LV 51 rfl (LV 52 rfl (LeftS.cons (t := 1000802) rfl (Surv.wrote) LN))))))))))))))))))))))))) ?_ ?_
          ·refine AnyT.last (by kernel_rfl) ?_;exact (QC 0 rfl (QC 1 rfl (QC 2 rfl (QC 3 rfl (QC 8 rfl (QC 9 rfl (QX 1000801 rfl (Le.eq (congrArg (blk g 57) (nods_sw hG.2.2.1 hjl hj1l ys _ rfl))) (QC 1000802 rfl SubL.nil))))))))
          exact trivial
         exact trivial
        exact trivial
       refine NextT.pure (by kernel_rfl) rfl rfl rfl (OpOk.asV (nI ((a + (p.1 - 1)))) (wrap_eq (by omega) (by omega)) (ok_bin rfl rfl rfl)) ?_ ?_
       ·refine AnyT.step 2 [] (by kernel_rfl) ?_;refine NextT.pure (by kernel_rfl) rfl rfl rfl (ok_move rfl) ?_ ?_
        ·refine AnyT.step 16 [] (by kernel_rfl) ?_;refine NextT.pure (by kernel_rfl) rfl rfl rfl (ok_indexS ((a + (p.1 - 1))) U30 infoN rfl rfl rfl hj1) ?_ ?_
         ·refine AnyT.step 17 [] (by kernel_rfl) ?_;refine NextT.eff rfl (eff_storeP (n := 53) (s := 1000801) (size57.of ((hG.2.2.1.at _).len)) rfl rfl (NodT.one _) hBg rfl (by first | exact nf1 hG.2.2.1 (hG.2.2.1.at _) (by omega) | exact nf2 hG.2.2.1 (hG.2.2.1.at _) (hG.2.2.1.at _) (by omega) (by omega)) (LV 0 rfl (LV 1 rfl (LV 2 rfl (LV 3 rfl (LV 8 rfl (LV 9 rfl (LV 34 rfl (LV 37 rfl (LV 38 rfl (LV 39 rfl (LV 40 rfl (LV 41 rfl (LV 42 rfl (LV 43 rfl (LV 44 rfl (LV 45 rfl (LV 46 rfl (LV 47 rfl (LV 48 rfl (LV 49 rfl (LV 50 rfl (LV 51 rfl (LV 52 rfl (LeftS.cons (t := 1000802) rfl (Surv.wrote) LN))))))))))))))))))))))))) ?_ ?_
          ·refine AnyT.last (by kernel_rfl) ?_;exact (QC 0 rfl (QC 1 rfl (QC 2 rfl (QC 3 rfl (QC 8 rfl (QC 9 rfl (QX 1000801 rfl (Le.eq (congrArg (blk g 57) (nods_sw hG.2.2.1 hjl hj1l ys _ rfl))) (QC 1000802 rfl SubL.nil))))))))
          exact trivial
         exact trivial
        exact trivial
       exact trivial
      exact trivial
    ·refine End.normal_block (EN (GTE (RV 2 rfl ?_)));refine RZ (nI (a + (p.1 - 1))) (wrap_eq (by omega) (by omega)) ?_;refine RVN 1 rfl ?_;refine End.normal_then ?_;refine End.again (p.1 - 1, swT p.2 (a + p.1) (a + (p.1 - 1))) ?_ ?_ ?_
     ·exact insNext hz hG hlt
     ·show p.1 - 1 < p.1; omega
     ·exact (Sv [0, 1, 2, 3, 8, 9, 1000801, 1000802] rfl)
   ·have hlt : ltN (ndAt p.2 (a + p.1)) (ndAt p.2 (a + (p.1 - 1))) = false := by simpa using hc34
    refine A.exit (End.exit_then (End.exit_then (End.exit_here (End.normal_block (EN (GTE (RV 2 rfl ?_)))))));refine RZ (nI (a + 1 + (k + 1))) (wrap_eq (by omega) (by omega)) ?_;refine RVN 1 rfl ?_;refine End.normal_then ?_;refine End.again (k + 1) ?_ ?_ ?_
    ·show _ ≤ _; omega
    ·show _ - _ < _ - _; omega
    ·exact (KC 0 rfl (KC 1 rfl (KC 2 rfl (KC 3 rfl (KC 8 rfl (KE 1000801 rfl (by first | (rw [hG.2.2.2, insStop (.inr hlt)]; done) | (rw [hG.2.2.2, insStop (.inl hz)]; done)) (KC 1000802 rfl KN)))))))
 ·have hk2 : k = b - a - 1 := by simp at hc14; omega
  refine A.exit (End.exit_then (End.exit_then (End.exit_here ?_)));exact End.wrote (kb := 1000801) (kw := 1000802) rfl rfl (by rw [hk2]) rfl
end
end Go.Proofs.YtmkpekmhhbcifaaGreatDoor
