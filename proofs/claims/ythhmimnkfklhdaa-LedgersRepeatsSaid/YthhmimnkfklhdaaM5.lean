/-
  OWN TEXTS of this seat, put together, part 5: C11g, C11h, Late, C11i, Law8, LedM.
-/
import Derived.Test.YthhmimnkfklhdaaM1
import Derived.Test.YthhmimnkfklhdaaM4
import Derived.Test.YthhmimnkfklhdaaM3
import Derived.Test.YthhmimnkfklhdaaM2
namespace Go.Proofs.Ythhmimnkfklhdaa
open Go Go.RowKit
set_option linter.unusedVariables false
set_option maxRecDepth 20000
set_option linter.unusedSimpArgs false
theorem flatU : flat Try.prog 20 31 = some (List.replicate 16 .u8 ++ [.u32, .u64, .u32, .u32]) := by kernel_rfl
theorem kinU {u : Us} (hu : u.Fit) : Kin (fun _ _ => True) (List.replicate 16 .u8 ++ [.u32, .u64, .u32, .u32]) (usV u) := Kin.join (kinY hu.1) (kin_cons (kin_cons (kin_cons (kin_cons kin_nil))))
theorem of11_fn (m : Nat) (xs : List Value) : Fn Try.prog 12 [rowD m xs] (hdD (rowD m xs) []) := by
 refine Fn.of Try.func12 rfl (by kernel_rfl) Try.ntmps12 (by simp) (fun w => [(0, old w.heap.size (rowD m xs))]) (fun w => (Start.old rfl Start.nil)) fun w₀ => ?_
 refine A.nameR (t := 0) (k := 1000200) rfl fun A₀ q₀ => ?_
 refine GS ?_
 refine TN 0 ?_
 refine RN ?_
 refine ⟨_, _, eff_alloc (n := 5) (d := 2) (k := 1000002) zero35 (by decide), fun b2 hb2 => ?_⟩
 have hBb2 := hb2.1
 refine TL ?_
 refine RN ?_
 refine GS ?_
 refine TF 2 ?_
 refine RM rfl ?_
 refine RS (ok_litS [(0, .slice A₀ m q₀)] [.slice A₀ m q₀] ⟨rfl, rfl, trivial⟩ (buildL _ _ _)) ?_
 refine RN ?_
 refine ⟨_, eff_storeA (n := 5) (s := 1000002) (size35.of (rfl)) rfl rfl (rfl) hBb2 rfl (rfl) (LV 2 rfl (LO 1000200 rfl LN)), ?_⟩
 refine TL ?_
 refine RN ?_
 refine A.ret ?_
 exact End.hdRow (s := 1000002) (k := 1000200) rfl Try.underlying35 rfl (size35.of rfl) rfl rfl rfl
theorem same11_fn (us : List Us) (hf : Fits us) (hn : us.length ≤ 1099511627776) : Fn Try.prog 17 [hdD (rowN us.length (usR us)) [], rowD us.length (usR us)] (.v (.bool true)) := by
 refine Fn.of Try.func17 rfl (by kernel_rfl) Try.ntmps17 (by simp) (fun w => [(0, old w.heap.size (hdD (rowN us.length (usR us)) [])), (1, old w.heap.size (rowD us.length (usR us)))]) (fun w => (Start.old rfl (Start.old rfl Start.nil))) fun w₀ => ?_
 refine A.nameHdN (t := 0) (k := 1000200) rfl fun A₀ => ?_
 refine A.nameR (t := 1) (k := 1000201) rfl fun A₁ q₁ => ?_
 refine GS ?_
 refine TN 0 ?_
 refine RN ?_
 refine ⟨_, _, eff_box (n := 36) (d := 2) (k := 1000002) rfl (by decide), fun b2 hb2 => ?_⟩
 have hBb2 := hb2.1
 refine TL ?_
 refine RA rfl ?_
 refine RN ?_
 refine A.seq ?_
 refine GS ?_
 refine TL ?_
 refine RS (ok_field field35_0 (by decide) rfl) ?_
 refine RS (ok_loadV (s := 1000002) (by decide) Try.underlying22 rfl rfl rfl (rfl)) ?_
 refine RS (ok_lenV Try.underlying22 rfl) ?_
 refine RM rfl ?_
 refine RS (ok_lenV Try.underlying22 rfl) ?_
 refine RBS rfl rfl rfl (.bool false) (by simp) ?_
 refine RM rfl ?_
 refine RQ (ok_field field35_0 (by decide) rfl) ?_
 refine RQ (ok_loadV (s := 1000002) (by decide) Try.underlying22 rfl rfl rfl (rfl)) ?_
 refine RQ (ok_capV Try.underlying22 rfl) ?_
 refine RQ (ok_move rfl) ?_
 refine RQ (ok_lenV Try.underlying22 rfl) ?_
 refine RQ (ok_bin rfl rfl rfl) ?_; refine RZ (.bool false) (by simp) ?_
 refine RP rfl rfl ?_
 refine RN ?_
 refine A.no rfl ?_
 refine A.skip ?_
 refine EN ?_
 refine A.seq ?_
 refine GS ?_
 refine TL ?_
 refine RA rfl ?_
 refine RN ?_
 refine A.block ?_
 refine A.loop (ι := Nat) (fun i => i ≤ us.length) (fun i => [(1000200, old w₀.heap.size (memR A₀ (usR us))), (1000201, old w₀.heap.size (memR A₁ (usR us))), (1, .v (.slice A₁ us.length q₁)), (2, .v (.pointer (some ⟨b2, 0, none⟩))), (1000002, blk b2 35 [.slice A₀ us.length us.length]), (5, .v (nI i))]) (fun i => us.length - i) 0 ?_ ?_ ?_
 ·exact Nat.zero_le _
 ·exact (KC 1000200 rfl (KC 1000201 rfl (KC 1 rfl (KC 2 rfl (KC 1000002 rfl (KE 5 rfl (by rfl) KN))))))
 intro i hi'
 refine A.seq ?_
 refine GS ?_
 refine TL ?_
 refine RM rfl ?_
 refine RM rfl ?_
 refine RS (ok_lenV Try.underlying22 rfl) ?_
 refine RB rfl rfl rfl ?_
 refine RN ?_
 refine A.cond rfl (fun hc23 => ?_) (fun hc23 => ?_)
 ·have hi : i < us.length := by simpa using hc23
  refine A.skip ?_
  refine EN ?_
  refine A.seq ?_
  refine A.block ?_
  refine GD ?_
  refine TL ?_
  refine RS (ok_field field35_0 (by decide) rfl) ?_
  refine RS (ok_loadV (s := 1000002) (by decide) Try.underlying22 rfl rfl rfl (rfl)) ?_
  refine RM rfl ?_
  refine RS (ok_indexR (s := 1000200) i Try.underlying22 infoU rfl rfl (by decide) rfl hi (usR_lt hf hi)) ?_
  refine RS (ok_loadElemP Try.underlying31 rfl (size31.of (by rw [usR_at hf hi, usV_length (hf.get hi)])) rfl) ?_; refine RZ (aggV (usV us[i])) (congrArg aggV (usR_at hf hi)) ?_
  refine RM rfl ?_
  refine RM rfl ?_
  refine RS (ok_indexR (s := 1000201) i Try.underlying22 infoU rfl rfl (by decide) rfl hi (usR_lt hf hi)) ?_
  refine RS (ok_loadElemP Try.underlying31 rfl (size31.of (by rw [usR_at hf hi, usV_length (hf.get hi)])) rfl) ?_; refine RZ (aggV (usV us[i])) (congrArg aggV (usR_at hf hi)) ?_
  refine RS (ok_neqT (n := 20) true flatU (by decide) (by kernel_rfl) (by kernel_rfl) rfl rfl (kinU (hf.get hi)) (kinU (hf.get hi)) ⟨fun _ => rfl, fun _ => rfl⟩) ?_; refine RZ (.bool false) (by rfl) ?_
  refine RN ?_
  refine A.no rfl ?_
  refine A.skip ?_
  refine End.normal_block ?_
  refine EN ?_
  refine GE ?_
  refine TL ?_
  refine RM rfl ?_
  refine RBS rfl rfl rfl (nI (i + 1)) (by rw [wrap_i64 (by omega) (by omega)]; rfl) ?_
  refine RA rfl ?_
  refine RN ?_
  refine End.normal_then ?_
  refine End.again (i + 1) ?_ ?_ ?_
  ·show _ ≤ _; omega
  ·show _ - _ < _ - _; omega
  ·exact (KC 1000200 rfl (KC 1000201 rfl (KC 1 rfl (KC 2 rfl (KC 1000002 rfl (KC 5 rfl KN))))))
 ·refine A.exit ?_
  refine End.exit_then ?_
  refine End.exit_then ?_
  refine End.exit_here ?_
  refine EN ?_
  refine GS ?_
  refine TL ?_
  refine RA rfl ?_
  refine RN ?_
  refine A.ret ?_
  exact End.ret1 rfl rfl (by first | exact Le.refl _ | exact Le.old _ _)
theorem dig_cases (c : UInt8) : (c.toNat < 48 ∧ isDig c = false) ∨ (48 ≤ c.toNat ∧ c.toNat ≤ 57 ∧ isDig c = true) ∨ (57 < c.toNat ∧ c.toNat < 97 ∧ isDig c = false) ∨ (97 ≤ c.toNat ∧ c.toNat ≤ 102 ∧ isDig c = true) ∨ (102 < c.toNat ∧ isDig c = false) := by
 have h : ∀ n : Fin 256, isDig (UInt8.ofNat n.val) = decide ((48 ≤ n.val ∧ n.val ≤ 57) ∨ (97 ≤ n.val ∧ n.val ≤ 102)) := by decide +kernel
 have h1 := h ⟨c.toNat, c.toNat_lt⟩
 simp only [UInt8.ofNat_toNat] at h1
 have h2 : c.toNat < 48 ∨ (48 ≤ c.toNat ∧ c.toNat ≤ 57) ∨ (57 < c.toNat ∧ c.toNat < 97) ∨ (97 ≤ c.toNat ∧ c.toNat ≤ 102) ∨ 102 < c.toNat := by omega
 rcases h2 with h2 | h2 | h2 | h2 | h2
 ·exact .inl ⟨h2, by rw [h1]; exact decide_eq_false (by omega)⟩
 ·exact .inr (.inl ⟨h2.1, h2.2, by rw [h1]; exact decide_eq_true (by omega)⟩)
 ·exact .inr (.inr (.inl ⟨h2.1, h2.2, by rw [h1]; exact decide_eq_false (by omega)⟩))
 ·exact .inr (.inr (.inr (.inl ⟨h2.1, h2.2, by rw [h1]; exact decide_eq_true (by omega)⟩)))
 ·exact .inr (.inr (.inr (.inr ⟨h2, by rw [h1]; exact decide_eq_false (by omega)⟩)))
theorem rbG_end {l : List UInt8} (h : RbG l l.length) : l.all isDig = true := List.all_eq_true.2 fun c hc => by
 obtain ⟨j, hj, rfl⟩ := List.getElem_of_mem hc
 have := h.all j hj; rwa [getElem!_pos l j hj] at this
theorem rbG_not {l : List UInt8} {i : Nat} (hi : i < l.length) (h : isDig l[i] = false) : l.all isDig = false := by
 rw [List.all_eq_false]; exact ⟨_, List.getElem_mem hi, by rw [h]; exact Bool.false_ne_true⟩
theorem digits_fn (l : List UInt8) (hl : l.length ≤ 1048576) : Fn Try.prog 24 [.v (strV l)] (.v (.bool (l.all isDig))) := by
 refine Fn.of Try.func24 rfl (by kernel_rfl) Try.ntmps24 (by simp) (fun w => [(0, .v (strV l))]) (fun w => (Start.v rfl Start.nil)) fun w₀ => ?_
 refine GS ?_
 refine TL ?_
 refine RA rfl ?_
 refine RN ?_
 refine A.seq ?_
 refine GS ?_
 refine TL ?_
 refine RA rfl ?_
 refine RN ?_
 refine A.block ?_
 refine A.loop (ι := Nat) (fun i => RbG l i) (fun i => [(0, .v (strV l)), (3, .v (nI i))]) (fun i => l.length - i) 0 ?_ ?_ ?_
 ·exact ⟨Nat.zero_le _, fun j hj => absurd hj (Nat.not_lt_zero _)⟩
 ·exact (KC 0 rfl (KE 3 rfl (by rfl) KN))
 intro i hi'
 refine A.seq ?_
 refine GS ?_
 refine TL ?_
 refine RM rfl ?_
 refine RM rfl ?_
 refine RS (ok_lenT Try.underlying9 rfl) ?_
 refine RB rfl rfl rfl ?_
 refine RN ?_
 refine A.cond rfl (fun hc7 => ?_) (fun hc7 => ?_)
 ·have hi : i < l.length := by simpa using hc7
  refine A.skip ?_
  refine EN ?_
  refine A.seq ?_
  refine A.block ?_
  rcases dig_cases l[i] with ⟨hD1, hD⟩ | ⟨hD1, hD2, hD⟩ | ⟨hD1, hD2, hD⟩ | ⟨hD1, hD2, hD⟩ | ⟨hD1, hD⟩
  ·refine GS ?_
   refine TL ?_
   refine RM rfl ?_
   refine RM rfl ?_
   refine RS (ok_strIndex i Try.underlying9 rfl rfl rfl (List.getElem?_eq_getElem hi)) ?_
   refine RBS rfl rfl rfl (.bool true) (by simp; omega) ?_
   refine RM rfl ?_
   refine RK ?_
   refine RK ?_
   refine RK ?_
   refine RK ?_
   refine RP rfl rfl ?_
   refine RM rfl ?_
   refine RQ (ok_move rfl) ?_
   refine RQ (ok_move rfl) ?_
   refine RQ (ok_strIndex i Try.underlying9 rfl rfl rfl (List.getElem?_eq_getElem hi)) ?_
   refine RQ (ok_bin rfl rfl rfl) ?_; refine RZ (.bool true) (by simp; omega) ?_
   refine RQ (ok_move rfl) ?_
   refine RK ?_
   refine RK ?_
   refine RK ?_
   refine RK ?_
   refine RQ (ok_pick rfl rfl) ?_
   refine RP rfl rfl ?_; refine RZ (.bool (!isDig l[i])) (by rw [hD]; rfl) ?_
   refine RN ?_
   refine A.sub (KC 0 rfl (KC 3 rfl (KC 31 rfl KN))) ?_
   refine A.cond rfl (fun hc31 => ?_) (fun hc31 => ?_)
   ·refine GS ?_
    refine TL ?_
    refine RA rfl ?_
    refine RN ?_
    refine A.ret ?_
    refine End.ret_block ?_
    refine End.ret_then ?_
    refine End.ret_then ?_
    refine End.ret_block ?_
    refine End.ret_then ?_
    first | exact End.ret1 rfl rfl (Le.v (congrArg Value.bool (rbG_not hi (by simpa using hc31)).symm)) | (subst hi2; exact End.ret1 rfl rfl (Le.v (congrArg Value.bool (rbG_end hi').symm)))
   ·refine A.skip ?_
    refine End.normal_block ?_
    refine EN ?_
    refine GE ?_
    refine TL ?_
    refine RM rfl ?_
    refine RBS rfl rfl rfl (nI (i + 1)) (by rw [wrap_i64 (by omega) (by omega)]; rfl) ?_
    refine RA rfl ?_
    refine RN ?_
    refine End.normal_then ?_
    refine End.again (i + 1) ?_ ?_ ?_
    ·exact hi'.next hi (by simpa using hc31)
    ·show _ - _ < _ - _; omega
    ·exact (KC 0 rfl (KC 3 rfl KN))
  ·refine GS ?_
   refine TL ?_
   refine RM rfl ?_
   refine RM rfl ?_
   refine RS (ok_strIndex i Try.underlying9 rfl rfl rfl (List.getElem?_eq_getElem hi)) ?_
   refine RBS rfl rfl rfl (.bool false) (by simp; omega) ?_
   refine RM rfl ?_
   refine RQ (ok_move rfl) ?_
   refine RQ (ok_move rfl) ?_
   refine RQ (ok_strIndex i Try.underlying9 rfl rfl rfl (List.getElem?_eq_getElem hi)) ?_
   refine RQ (ok_bin rfl rfl rfl) ?_; refine RZ (.bool false) (by simp; omega) ?_
   refine RP rfl rfl ?_
   refine RM rfl ?_
   refine RK ?_
   refine RK ?_
   refine RK ?_
   refine RK ?_
   refine RK ?_
   refine RunK.skippedU rfl rfl rfl rfl ?_
   refine RunK.skippedU rfl rfl rfl rfl ?_
   refine RunK.skippedU rfl rfl rfl rfl ?_
   refine RunK.skippedU rfl rfl rfl rfl ?_
   refine RK ?_
   refine RP rfl rfl ?_; refine RZ (.bool (!isDig l[i])) (by rw [hD]; rfl) ?_
   refine RN ?_
   refine A.sub (KC 0 rfl (KC 3 rfl (KC 31 rfl KN))) ?_
   refine A.cond rfl (fun hc31 => ?_) (fun hc31 => ?_)
   ·refine GS ?_
    refine TL ?_
    refine RA rfl ?_
    refine RN ?_
    refine A.ret ?_
    refine End.ret_block ?_
    refine End.ret_then ?_
    refine End.ret_then ?_
    refine End.ret_block ?_
    refine End.ret_then ?_
    first | exact End.ret1 rfl rfl (Le.v (congrArg Value.bool (rbG_not hi (by simpa using hc31)).symm)) | (subst hi2; exact End.ret1 rfl rfl (Le.v (congrArg Value.bool (rbG_end hi').symm)))
   ·refine A.skip ?_
    refine End.normal_block ?_
    refine EN ?_
    refine GE ?_
    refine TL ?_
    refine RM rfl ?_
    refine RBS rfl rfl rfl (nI (i + 1)) (by rw [wrap_i64 (by omega) (by omega)]; rfl) ?_
    refine RA rfl ?_
    refine RN ?_
    refine End.normal_then ?_
    refine End.again (i + 1) ?_ ?_ ?_
    ·exact hi'.next hi (by simpa using hc31)
    ·show _ - _ < _ - _; omega
    ·exact (KC 0 rfl (KC 3 rfl KN))
  ·refine GS ?_
   refine TL ?_
   refine RM rfl ?_
   refine RM rfl ?_
   refine RS (ok_strIndex i Try.underlying9 rfl rfl rfl (List.getElem?_eq_getElem hi)) ?_
   refine RBS rfl rfl rfl (.bool false) (by simp; omega) ?_
   refine RM rfl ?_
   refine RQ (ok_move rfl) ?_
   refine RQ (ok_move rfl) ?_
   refine RQ (ok_strIndex i Try.underlying9 rfl rfl rfl (List.getElem?_eq_getElem hi)) ?_
   refine RQ (ok_bin rfl rfl rfl) ?_; refine RZ (.bool true) (by simp; omega) ?_
   refine RP rfl rfl ?_
   refine RM rfl ?_
   refine RQ (ok_move rfl) ?_
   refine RQ (ok_move rfl) ?_
   refine RQ (ok_strIndex i Try.underlying9 rfl rfl rfl (List.getElem?_eq_getElem hi)) ?_
   refine RQ (ok_bin rfl rfl rfl) ?_; refine RZ (.bool true) (by simp; omega) ?_
   refine RQ (ok_move rfl) ?_
   refine RK ?_
   refine RK ?_
   refine RK ?_
   refine RK ?_
   refine RQ (ok_pick rfl rfl) ?_
   refine RP rfl rfl ?_; refine RZ (.bool (!isDig l[i])) (by rw [hD]; rfl) ?_
   refine RN ?_
   refine A.sub (KC 0 rfl (KC 3 rfl (KC 31 rfl KN))) ?_
   refine A.cond rfl (fun hc31 => ?_) (fun hc31 => ?_)
   ·refine GS ?_
    refine TL ?_
    refine RA rfl ?_
    refine RN ?_
    refine A.ret ?_
    refine End.ret_block ?_
    refine End.ret_then ?_
    refine End.ret_then ?_
    refine End.ret_block ?_
    refine End.ret_then ?_
    first | exact End.ret1 rfl rfl (Le.v (congrArg Value.bool (rbG_not hi (by simpa using hc31)).symm)) | (subst hi2; exact End.ret1 rfl rfl (Le.v (congrArg Value.bool (rbG_end hi').symm)))
   ·refine A.skip ?_
    refine End.normal_block ?_
    refine EN ?_
    refine GE ?_
    refine TL ?_
    refine RM rfl ?_
    refine RBS rfl rfl rfl (nI (i + 1)) (by rw [wrap_i64 (by omega) (by omega)]; rfl) ?_
    refine RA rfl ?_
    refine RN ?_
    refine End.normal_then ?_
    refine End.again (i + 1) ?_ ?_ ?_
    ·exact hi'.next hi (by simpa using hc31)
    ·show _ - _ < _ - _; omega
    ·exact (KC 0 rfl (KC 3 rfl KN))
  ·refine GS ?_
   refine TL ?_
   refine RM rfl ?_
   refine RM rfl ?_
   refine RS (ok_strIndex i Try.underlying9 rfl rfl rfl (List.getElem?_eq_getElem hi)) ?_
   refine RBS rfl rfl rfl (.bool false) (by simp; omega) ?_
   refine RM rfl ?_
   refine RQ (ok_move rfl) ?_
   refine RQ (ok_move rfl) ?_
   refine RQ (ok_strIndex i Try.underlying9 rfl rfl rfl (List.getElem?_eq_getElem hi)) ?_
   refine RQ (ok_bin rfl rfl rfl) ?_; refine RZ (.bool true) (by simp; omega) ?_
   refine RP rfl rfl ?_
   refine RM rfl ?_
   refine RQ (ok_move rfl) ?_
   refine RQ (ok_move rfl) ?_
   refine RQ (ok_strIndex i Try.underlying9 rfl rfl rfl (List.getElem?_eq_getElem hi)) ?_
   refine RQ (ok_bin rfl rfl rfl) ?_; refine RZ (.bool false) (by simp; omega) ?_
   refine RQ (ok_move rfl) ?_
   refine RQ (ok_move rfl) ?_
   refine RQ (ok_move rfl) ?_
   refine RQ (ok_strIndex i Try.underlying9 rfl rfl rfl (List.getElem?_eq_getElem hi)) ?_
   refine RQ (ok_bin rfl rfl rfl) ?_; refine RZ (.bool false) (by simp; omega) ?_
   refine RQ (ok_pick rfl rfl) ?_
   refine RP rfl rfl ?_; refine RZ (.bool (!isDig l[i])) (by rw [hD]; rfl) ?_
   refine RN ?_
   refine A.sub (KC 0 rfl (KC 3 rfl (KC 31 rfl KN))) ?_
   refine A.cond rfl (fun hc31 => ?_) (fun hc31 => ?_)
   ·refine GS ?_
    refine TL ?_
    refine RA rfl ?_
    refine RN ?_
    refine A.ret ?_
    refine End.ret_block ?_
    refine End.ret_then ?_
    refine End.ret_then ?_
    refine End.ret_block ?_
    refine End.ret_then ?_
    first | exact End.ret1 rfl rfl (Le.v (congrArg Value.bool (rbG_not hi (by simpa using hc31)).symm)) | (subst hi2; exact End.ret1 rfl rfl (Le.v (congrArg Value.bool (rbG_end hi').symm)))
   ·refine A.skip ?_
    refine End.normal_block ?_
    refine EN ?_
    refine GE ?_
    refine TL ?_
    refine RM rfl ?_
    refine RBS rfl rfl rfl (nI (i + 1)) (by rw [wrap_i64 (by omega) (by omega)]; rfl) ?_
    refine RA rfl ?_
    refine RN ?_
    refine End.normal_then ?_
    refine End.again (i + 1) ?_ ?_ ?_
    ·exact hi'.next hi (by simpa using hc31)
    ·show _ - _ < _ - _; omega
    ·exact (KC 0 rfl (KC 3 rfl KN))
  ·refine GS ?_
   refine TL ?_
   refine RM rfl ?_
   refine RM rfl ?_
   refine RS (ok_strIndex i Try.underlying9 rfl rfl rfl (List.getElem?_eq_getElem hi)) ?_
   refine RBS rfl rfl rfl (.bool false) (by simp; omega) ?_
   refine RM rfl ?_
   refine RQ (ok_move rfl) ?_
   refine RQ (ok_move rfl) ?_
   refine RQ (ok_strIndex i Try.underlying9 rfl rfl rfl (List.getElem?_eq_getElem hi)) ?_
   refine RQ (ok_bin rfl rfl rfl) ?_; refine RZ (.bool true) (by simp; omega) ?_
   refine RP rfl rfl ?_
   refine RM rfl ?_
   refine RQ (ok_move rfl) ?_
   refine RQ (ok_move rfl) ?_
   refine RQ (ok_strIndex i Try.underlying9 rfl rfl rfl (List.getElem?_eq_getElem hi)) ?_
   refine RQ (ok_bin rfl rfl rfl) ?_; refine RZ (.bool false) (by simp; omega) ?_
   refine RQ (ok_move rfl) ?_
   refine RQ (ok_move rfl) ?_
   refine RQ (ok_move rfl) ?_
   refine RQ (ok_strIndex i Try.underlying9 rfl rfl rfl (List.getElem?_eq_getElem hi)) ?_
   refine RQ (ok_bin rfl rfl rfl) ?_; refine RZ (.bool true) (by simp; omega) ?_
   refine RQ (ok_pick rfl rfl) ?_
   refine RP rfl rfl ?_; refine RZ (.bool (!isDig l[i])) (by rw [hD]; rfl) ?_
   refine RN ?_
   refine A.sub (KC 0 rfl (KC 3 rfl (KC 31 rfl KN))) ?_
   refine A.cond rfl (fun hc31 => ?_) (fun hc31 => ?_)
   ·refine GS ?_
    refine TL ?_
    refine RA rfl ?_
    refine RN ?_
    refine A.ret ?_
    refine End.ret_block ?_
    refine End.ret_then ?_
    refine End.ret_then ?_
    refine End.ret_block ?_
    refine End.ret_then ?_
    first | exact End.ret1 rfl rfl (Le.v (congrArg Value.bool (rbG_not hi (by simpa using hc31)).symm)) | (subst hi2; exact End.ret1 rfl rfl (Le.v (congrArg Value.bool (rbG_end hi').symm)))
   ·refine A.skip ?_
    refine End.normal_block ?_
    refine EN ?_
    refine GE ?_
    refine TL ?_
    refine RM rfl ?_
    refine RBS rfl rfl rfl (nI (i + 1)) (by rw [wrap_i64 (by omega) (by omega)]; rfl) ?_
    refine RA rfl ?_
    refine RN ?_
    refine End.normal_then ?_
    refine End.again (i + 1) ?_ ?_ ?_
    ·exact hi'.next hi (by simpa using hc31)
    ·show _ - _ < _ - _; omega
    ·exact (KC 0 rfl (KC 3 rfl KN))
 ·have hi2 : i = l.length := by have h := hi'.le; simp at hc7; omega
  refine A.exit ?_
  refine End.exit_then ?_
  refine End.exit_then ?_
  refine End.exit_here ?_
  refine EN ?_
  refine GS ?_
  refine TL ?_
  refine RA rfl ?_
  refine RN ?_
  refine A.ret ?_
  first | exact End.ret1 rfl rfl (Le.v (congrArg Value.bool (rbG_not hi (by simpa using hc31)).symm)) | (subst hi2; exact End.ret1 rfl rfl (Le.v (congrArg Value.bool (rbG_end hi').symm)))
theorem size50 : SizeIs Try.prog 50 1 := by unfold SizeIs; kernel_rfl
theorem field50_0 : FieldIs Try.prog 50 0 0 1 := by unfold FieldIs; kernel_rfl
abbrev Q4 := UInt8 × UInt8 × UInt8 × UInt8
def q4V (x : Q4) : List Value := [byteV x.1, byteV x.2.1, byteV x.2.2.1, byteV x.2.2.2]
def q4R (q : List Q4) : List Value := q.flatMap q4V
theorem q4R_length (q : List Q4) : (q4R q).length = q.length * 4 := by
 induction q with
 | nil => rfl
 | cons x q ih => simp only [q4R, List.flatMap_cons, List.length_append, List.length_cons] at ih ⊢; rw [ih]; simp [q4V]; omega
theorem q4R_at : ∀ {q : List Q4} {i : Nat}, (h : i < q.length) → ((q4R q).drop (i * 4)).take 4 = q4V q[i]
 | x :: q, 0, _ => by simp [q4R, q4V]
 | x :: q, i + 1, hi => by
  have := q4R_at (q := q) (i := i) (by simpa using hi)
  simp only [q4R, List.flatMap_cons, List.getElem_cons_succ] at this ⊢
  rw [← this, List.drop_append, show (q4V x).length = 4 from rfl, show (i + 1) * 4 - 4 = i * 4 by omega, List.drop_of_length_le (by simp [q4V]; omega)]; rfl
theorem q4R_lt {q : List Q4} {i : Nat} (h : i < q.length) : i * 4 < (q4R q).length := by rw [q4R_length]; omega
def ofU (x : Q4) : Us := ⟨List.replicate 15 0 ++ [x.1 % 3], x.2.1.toNat % 3, x.2.1.toNat / 3 % 5, x.2.2.1.toNat % 8, x.2.2.1.toNat % 8 + x.2.2.2.toNat % 3⟩
theorem ofU_fit (x : Q4) : (ofU x).Fit := ⟨by simp [ofU], by simp only [ofU]; omega, by simp only [ofU]; omega, by simp only [ofU]; omega, by simp only [ofU]; omega⟩
theorem ofU_ok (x : Q4) : (ofU x).ok = true := by simp [Us.ok, ofU]
def usOf (q : List Q4) : List Us := (q.take 60).map ofU
theorem usOf_fit (q : List Q4) : Fits (usOf q) := fun u hu => by obtain ⟨x, _, rfl⟩ := List.mem_map.1 hu; exact ofU_fit x
theorem usOf_ok (q : List Q4) : ∀ u ∈ usOf q, u.ok = true := fun u hu => by obtain ⟨x, _, rfl⟩ := List.mem_map.1 hu; exact ofU_ok x
theorem usOf_len (q : List Q4) : (usOf q).length ≤ 60 := by simp [usOf]; omega
theorem infoQ : InfoP Try.prog 51 (aggV (List.replicate 4 (.int .u8 0))) 4 4 := by unfold InfoP; kernel_rfl
theorem zero51 : ZeroIs Try.prog 51 (List.replicate 4 (.int .u8 0)) := by unfold ZeroIs; kernel_rfl
theorem size51 : SizeIs Try.prog 51 4 := by unfold SizeIs; kernel_rfl
theorem bKey (b : UInt8) : Try.prog.built 23 [(15, byteV b)] = some ((List.replicate 15 0 ++ [b]).map byteV).toArray := by kernel_rfl
theorem bRng (a b c d : Int) : Try.prog.built 29 [(0, aggV [.int .u32 a, .int .u64 b]), (1, .int .u32 c), (2, .int .u32 d)] = some [.int .u32 a, .int .u64 b, .int .u32 c, .int .u32 d].toArray := by kernel_rfl
theorem bUse (b : UInt8) (a' b' c d : Int) : Try.prog.built 31 [(0, aggV ((List.replicate 15 0 ++ [b]).map byteV)), (1, aggV [.int .u32 a', .int .u64 b', .int .u32 c, .int .u32 d])] = some ((List.replicate 15 0 ++ [b]).map byteV ++ [.int .u32 a', .int .u64 b', .int .u32 c, .int .u32 d]).toArray := by kernel_rfl
def rngQ (x : Q4) : List Value := [nW (x.2.1.toNat % 3), nQ (x.2.1.toNat / 3 % 5), nW (x.2.2.1.toNat % 8), nW (x.2.2.1.toNat % 8 + x.2.2.2.toNat % 3)]
theorem bRngQ (x : Q4) : Try.prog.built 29 [(0, aggV [nW (x.2.1.toNat % 3), nQ (x.2.1.toNat / 3 % 5)]), (1, nW (x.2.2.1.toNat % 8)), (2, nW (x.2.2.1.toNat % 8 + x.2.2.2.toNat % 3))] = some (rngQ x).toArray := bRng _ _ _ _
theorem usV_ofU (x : Q4) : usV (ofU x) = (List.replicate 15 0 ++ [x.1 % 3]).map byteV ++ rngQ x := rfl
theorem bUseQ (x : Q4) : Try.prog.built 31 [(0, aggV ((List.replicate 15 0 ++ [x.1 % 3]).map byteV)), (1, aggV (rngQ x))] = some (usV (ofU x)).toArray := by rw [usV_ofU]; exact bUse _ _ _ _ _
theorem m3 (b : UInt8) : Value.int .u8 ((b.toNat : Int).tmod 3) = byteV (b % 3) := by
 rw [Int.tmod_eq_emod_of_nonneg (by omega)]; unfold byteV; rw [UInt8.toNat_mod]; rfl
theorem m3n (b : UInt8) : Value.int .u8 ((b.toNat : Int).tmod 3) = nB (b.toNat % 3) := by
 rw [Int.tmod_eq_emod_of_nonneg (by omega)]; rfl
theorem m8n (b : UInt8) : Value.int .u8 ((b.toNat : Int).tmod 8) = nB (b.toNat % 8) := by
 rw [Int.tmod_eq_emod_of_nonneg (by omega)]; rfl
theorem d3n (b : UInt8) : Value.int .u8 (IntKind.u8.wrap ((b.toNat : Int).tdiv 3)) = nB (b.toNat / 3) := by
 have := b.toNat_lt
 rw [Int.tdiv_eq_ediv_of_nonneg (by omega), wrap_u8 (by omega) (by omega)]; rfl
theorem m5n (n : Nat) : Value.int .u8 ((n : Int).tmod 5) = nB (n % 5) := by
 rw [Int.tmod_eq_emod_of_nonneg (by omega)]; rfl
theorem usOf_next {q : List Q4} {i : Nat} (hi : i < q.length) : usR ((q.take i).map ofU) ++ usV (ofU q[i]) = usR ((q.take (i + 1)).map ofU) := by
 rw [List.take_succ_eq_append_getElem hi, List.map_append, usR_append]; simp [usR_one]
theorem usOf_end {q : List Q4} {i : Nat} (h : i = min q.length 60) : (q.take i).map ofU = usOf q := by
 subst h; unfold usOf; rcases Nat.lt_or_ge 60 q.length with h | h
 ·rw [Nat.min_eq_right (by omega)]
 ·rw [Nat.min_eq_left h, List.take_of_length_le (Nat.le_refl _), List.take_of_length_le h]

set_option maxHeartbeats 1000000 in
theorem Of11_fn (q : List Q4) : Fn Try.prog 18 [hdD (rowD q.length (q4R q)) []] (rowD (usOf q).length (usR (usOf q))) := by
 refine Fn.of Try.func18 rfl (by kernel_rfl) Try.ntmps18 (by simp) (fun w => [(0, old w.heap.size (hdD (rowD q.length (q4R q)) []))]) (fun w => (Start.old rfl Start.nil)) fun w₀ => ?_
 refine A.nameHdR (t := 0) (k := 1000200) rfl fun A₀ q₀ => ?_
 refine GS ?_
 refine TN 0 ?_
 refine RN ?_
 refine ⟨_, _, eff_box (n := 54) (d := 1) (k := 1000001) rfl (by decide), fun b1 hb1 => ?_⟩
 have hBb1 := hb1.1
 refine TL ?_
 refine RA rfl ?_
 refine RN ?_
 refine GS ?_
 refine TL ?_
 refine RA rfl ?_
 refine RN ?_
 refine A.seq ?_
 refine GS ?_
 refine TL ?_
 refine RA rfl ?_
 refine RN ?_
 refine A.block ?_
 refine A.subL (SubL.cons (t := 1) rfl (Le.refl _) (SubL.cons (t := 1000001) rfl (Le.refl _) (SubL.cons (t := 1000200) rfl (Le.refl _) (SubL.cons (t := 3) rfl ((ownP_nil (B := w₀.heap.size) (sz := 20) (e := 31))) (SubL.cons (t := 4) rfl (Le.refl _) SubL.nil))))) ?_
 refine A.loop (ι := Nat) (fun i => i ≤ min q.length 60) (fun i => [(1, .v (.pointer (some ⟨b1, 0, none⟩))), (1000001, blk b1 50 [.slice A₀ q.length q₀]), (1000200, old w₀.heap.size (memR A₀ (q4R q))), (3, ownP w₀.heap.size 31 20 i (usR ((q.take i).map ofU))), (4, .v (nI i))]) (fun i => 60 - i) 0 ?_ ?_ ?_
 ·exact Nat.zero_le _
 ·exact (KC 1 rfl (KC 1000001 rfl (KC 1000200 rfl (KC 3 rfl (KE 4 rfl (by rfl) KN)))))
 intro i hi'
 refine A.seq ?_
 rcases Bool.eq_false_or_eq_true (decide (i < q.length)) with hsp | hsp
 ·refine GS ?_
  refine TL ?_
  refine RM rfl ?_
  refine RS (ok_field field50_0 (by decide) rfl) ?_
  refine RS (ok_loadV (s := 1000001) (by decide) Try.underlying48 rfl rfl rfl (rfl)) ?_
  refine RS (ok_lenV Try.underlying48 rfl) ?_
  refine RBS rfl rfl rfl (.bool true) (congrArg Value.bool (by simpa using hsp)) ?_
  refine RM rfl ?_
  refine RQ (ok_move rfl) ?_
  refine RQ (ok_bin rfl rfl rfl) ?_
  refine RP rfl rfl ?_; refine RZ (.bool (decide (i < min q.length 60))) (congrArg Value.bool (by first | (exact (decide_eq_decide.2 (by have := of_decide_eq_true hsp; omega))) | (exact (decide_eq_false (by have := of_decide_eq_false hsp; omega)).symm))) ?_
  refine RN ?_
  refine A.cond rfl (fun hc15 => ?_) (fun hc15 => ?_)
  ·have hi60 : i < min q.length 60 := of_decide_eq_true hc15
   have hi : i < q.length := by omega
   refine A.skip ?_
   refine EN ?_
   refine A.seq ?_
   refine A.block ?_
   refine GS ?_
   refine TN 5 ?_
   refine RS (ok_field field50_0 (by decide) rfl) ?_
   refine RS (ok_loadV (s := 1000001) (by decide) Try.underlying48 rfl rfl rfl (rfl)) ?_
   refine RM rfl ?_
   refine RS (ok_indexR (s := 1000200) i Try.underlying48 infoQ rfl rfl (by decide) rfl hi (q4R_lt hi)) ?_
   refine RS (ok_loadElemP Try.underlying51 rfl (size51.of (by rw [q4R_at hi]; rfl)) rfl) ?_; refine RZ (aggV (q4V q[i])) (congrArg aggV (q4R_at hi)) ?_
   refine RN ?_
   refine ⟨_, _, eff_alloc (n := 54) (d := 5) (k := 1000005) zero51 (by decide), fun b5 hb5 => ?_⟩
   have hBb5 := hb5.1
   refine TF 6 ?_
   refine RN ?_
   refine ⟨_, eff_storeA (n := 54) (s := 1000005) (size51.of (rfl)) rfl rfl (rfl) hBb5 rfl (rfl) (LV 1 rfl (LeftS.cons (t := 3) rfl (Surv.ownP (by decide)) (LV 4 rfl (LV 5 rfl (LT 1000001 rfl (LO 1000200 rfl LN)))))), ?_⟩
   refine TL ?_
   refine RN ?_
   refine GS ?_
   refine TL ?_
   refine RS (ok_index0 (2) Try.underlying51 info5 rfl rfl (rfl) (by decide)) ?_
   refine RS (ok_loadV (s := 1000005) (by decide) Try.underlying5 rfl rfl rfl (rfl)) ?_
   refine RS (ok_rem rfl rfl (by decide)) ?_; refine RZ (nB (q[i].2.2.1.toNat % 8)) (m8n _) ?_
   refine RS (ok_conv Try.underlying5 Try.underlying24 rfl) ?_; refine RZ (nW (q[i].2.2.1.toNat % 8)) (congrArg (Value.int .u32) (wrapN_u32 (by omega))) ?_
   refine RA rfl ?_
   refine RN ?_
   refine GE ?_
   refine TF 25 ?_
   refine RM rfl ?_
   refine RS (ok_index0 (0) Try.underlying51 info5 rfl rfl (rfl) (by decide)) ?_
   refine RS (ok_loadV (s := 1000005) (by decide) Try.underlying5 rfl rfl rfl (rfl)) ?_
   refine RS (ok_rem rfl rfl (by decide)) ?_; refine RZ (byteV (q[i].1 % 3)) (m3 _) ?_
   refine RS (ok_litS [(15, byteV (q[i].1 % 3))] ((List.replicate 15 0 ++ [q[i].1 % 3]).map byteV) ⟨rfl, rfl, trivial⟩ (bKey _)) ?_
   refine RS (ok_index0 (1) Try.underlying51 info5 rfl rfl (rfl) (by decide)) ?_
   refine RS (ok_loadV (s := 1000005) (by decide) Try.underlying5 rfl rfl rfl (rfl)) ?_
   refine RS (ok_rem rfl rfl (by decide)) ?_; refine RZ (nB (q[i].2.1.toNat % 3)) (m3n _) ?_
   refine RS (ok_conv Try.underlying5 Try.underlying24 rfl) ?_; refine RZ (nW (q[i].2.1.toNat % 3)) (congrArg (Value.int .u32) (wrapN_u32 (by omega))) ?_
   refine RS (ok_index0 (1) Try.underlying51 info5 rfl rfl (rfl) (by decide)) ?_
   refine RS (ok_loadV (s := 1000005) (by decide) Try.underlying5 rfl rfl rfl (rfl)) ?_
   refine RS (ok_div rfl rfl (by decide)) ?_; refine RZ (nB (q[i].2.1.toNat / 3)) (d3n _) ?_
   refine RS (ok_rem rfl rfl (by decide)) ?_; refine RZ (nB (q[i].2.1.toNat / 3 % 5)) (m5n _) ?_
   refine RS (ok_conv Try.underlying5 Try.underlying25 rfl) ?_; refine RZ (nQ (q[i].2.1.toNat / 3 % 5)) (congrArg (Value.int .u64) (wrapN_u64 (by omega))) ?_
   refine RS (ok_litS [(0, nW (q[i].2.1.toNat % 3)), (1, nQ (q[i].2.1.toNat / 3 % 5))] [nW (q[i].2.1.toNat % 3), nQ (q[i].2.1.toNat / 3 % 5)] ⟨rfl, rfl, rfl, rfl, trivial⟩ (by kernel_rfl)) ?_
   refine RM rfl ?_
   refine RM rfl ?_
   refine RS (ok_index0 (3) Try.underlying51 info5 rfl rfl (rfl) (by decide)) ?_
   refine RS (ok_loadV (s := 1000005) (by decide) Try.underlying5 rfl rfl rfl (rfl)) ?_
   refine RS (ok_rem rfl rfl (by decide)) ?_; refine RZ (nB (q[i].2.2.2.toNat % 3)) (m3n _) ?_
   refine RS (ok_conv Try.underlying5 Try.underlying24 rfl) ?_; refine RZ (nW (q[i].2.2.2.toNat % 3)) (congrArg (Value.int .u32) (wrapN_u32 (by omega))) ?_
   refine RBS rfl rfl rfl (nW (q[i].2.2.1.toNat % 8 + q[i].2.2.2.toNat % 3)) (by rw [wrap_u32 (by omega) (by omega)]; rfl) ?_
   refine RS (ok_litS [(0, aggV [nW (q[i].2.1.toNat % 3), nQ (q[i].2.1.toNat / 3 % 5)]), (1, nW (q[i].2.2.1.toNat % 8)), (2, nW (q[i].2.2.1.toNat % 8 + q[i].2.2.2.toNat % 3))] (rngQ q[i]) ⟨rfl, rfl, rfl, rfl, rfl, rfl, trivial⟩ (by exact bRngQ q[i])) ?_
   refine RS (ok_litS [(0, aggV ((List.replicate 15 0 ++ [q[i].1 % 3]).map byteV)), (1, aggV (rngQ q[i]))] (usV (ofU q[i])) ⟨rfl, rfl, rfl, rfl, trivial⟩ (by exact bUseQ q[i])) ?_
   refine RS (ok_build1K Try.underlying22 infoU rfl (by decide) (by decide) rfl (usV_length (ofU_fit _))) ?_
   refine RN ?_
   refine ⟨_, eff_appendP Try.underlying22 infoU (by decide) (by decide) rfl rfl rfl (usV_length (ofU_fit _)) (usV_one _) (by omega) (by decide) (fun g hg => (LV 1 rfl (LV 4 rfl (LT 1000001 rfl (LT 1000005 rfl (LO 1000200 rfl LN)))))), ?_⟩
   refine TL ?_
   refine RA rfl ?_
   refine RN ?_
   refine End.sub (KC 1 rfl (KC 3 rfl (KC 4 rfl (KC 1000001 rfl (KC 1000005 rfl (KC 1000200 rfl KN)))))) ?_
   refine End.normal_block ?_
   refine EN ?_
   refine GE ?_
   refine TL ?_
   refine RM rfl ?_
   refine RBS rfl rfl rfl (nI (i + 1)) (by rw [wrap_i64 (by omega) (by omega)]; rfl) ?_
   refine RA rfl ?_
   refine RN ?_
   refine End.normal_then ?_
   refine End.again (i + 1) ?_ ?_ ?_
   ·show _ ≤ _; omega
   ·show _ - _ < _ - _; omega
   ·exact (KC 1 rfl (KC 1000001 rfl (KC 1000200 rfl (KE 3 rfl (congrArg (ownP w₀.heap.size 31 20 (i + 1)) (usOf_next hi)) (KC 4 rfl KN)))))
  ·have hi2 : i = min q.length 60 := by have := of_decide_eq_false hc15; omega
   refine A.exit ?_
   refine End.exit_then ?_
   refine End.exit_then ?_
   refine End.exit_here ?_
   refine EN ?_
   refine GS ?_
   refine TL ?_
   refine RM rfl ?_
   refine RA rfl ?_
   refine RN ?_
   refine A.ret ?_
   exact End.ret1 rfl rfl (by rw [usOf_end hi2]; exact (ownP_rowD).trans (Le.eq (by rw [show i = (usOf q).length by simp [usOf]; omega])))
 ·refine GS ?_
  refine TL ?_
  refine RM rfl ?_
  refine RS (ok_field field50_0 (by decide) rfl) ?_
  refine RS (ok_loadV (s := 1000001) (by decide) Try.underlying48 rfl rfl rfl (rfl)) ?_
  refine RS (ok_lenV Try.underlying48 rfl) ?_
  refine RBS rfl rfl rfl (.bool false) (congrArg Value.bool (by simpa using hsp)) ?_
  refine RM rfl ?_
  refine RK ?_
  refine RK ?_
  refine RP rfl rfl ?_; refine RZ (.bool (decide (i < min q.length 60))) (congrArg Value.bool (by first | (exact (decide_eq_decide.2 (by have := of_decide_eq_true hsp; omega))) | (exact (decide_eq_false (by have := of_decide_eq_false hsp; omega)).symm))) ?_
  refine RN ?_
  refine A.cond rfl (fun hc15 => ?_) (fun hc15 => ?_)
  ·have hi60 : i < min q.length 60 := of_decide_eq_true hc15
   have hi : i < q.length := by omega
   refine A.skip ?_
   refine EN ?_
   refine A.seq ?_
   refine A.block ?_
   refine GS ?_
   refine TN 5 ?_
   refine RS (ok_field field50_0 (by decide) rfl) ?_
   refine RS (ok_loadV (s := 1000001) (by decide) Try.underlying48 rfl rfl rfl (rfl)) ?_
   refine RM rfl ?_
   refine RS (ok_indexR (s := 1000200) i Try.underlying48 infoQ rfl rfl (by decide) rfl hi (q4R_lt hi)) ?_
   refine RS (ok_loadElemP Try.underlying51 rfl (size51.of (by rw [q4R_at hi]; rfl)) rfl) ?_; refine RZ (aggV (q4V q[i])) (congrArg aggV (q4R_at hi)) ?_
   refine RN ?_
   refine ⟨_, _, eff_alloc (n := 54) (d := 5) (k := 1000005) zero51 (by decide), fun b5 hb5 => ?_⟩
   have hBb5 := hb5.1
   refine TF 6 ?_
   refine RN ?_
   refine ⟨_, eff_storeA (n := 54) (s := 1000005) (size51.of (rfl)) rfl rfl (rfl) hBb5 rfl (rfl) (LV 1 rfl (LeftS.cons (t := 3) rfl (Surv.ownP (by decide)) (LV 4 rfl (LV 5 rfl (LT 1000001 rfl (LO 1000200 rfl LN)))))), ?_⟩
   refine TL ?_
   refine RN ?_
   refine GS ?_
   refine TL ?_
   refine RS (ok_index0 (2) Try.underlying51 info5 rfl rfl (rfl) (by decide)) ?_
   refine RS (ok_loadV (s := 1000005) (by decide) Try.underlying5 rfl rfl rfl (rfl)) ?_
   refine RS (ok_rem rfl rfl (by decide)) ?_; refine RZ (nB (q[i].2.2.1.toNat % 8)) (m8n _) ?_
   refine RS (ok_conv Try.underlying5 Try.underlying24 rfl) ?_; refine RZ (nW (q[i].2.2.1.toNat % 8)) (congrArg (Value.int .u32) (wrapN_u32 (by omega))) ?_
   refine RA rfl ?_
   refine RN ?_
   refine GE ?_
   refine TF 25 ?_
   refine RM rfl ?_
   refine RS (ok_index0 (0) Try.underlying51 info5 rfl rfl (rfl) (by decide)) ?_
   refine RS (ok_loadV (s := 1000005) (by decide) Try.underlying5 rfl rfl rfl (rfl)) ?_
   refine RS (ok_rem rfl rfl (by decide)) ?_; refine RZ (byteV (q[i].1 % 3)) (m3 _) ?_
   refine RS (ok_litS [(15, byteV (q[i].1 % 3))] ((List.replicate 15 0 ++ [q[i].1 % 3]).map byteV) ⟨rfl, rfl, trivial⟩ (bKey _)) ?_
   refine RS (ok_index0 (1) Try.underlying51 info5 rfl rfl (rfl) (by decide)) ?_
   refine RS (ok_loadV (s := 1000005) (by decide) Try.underlying5 rfl rfl rfl (rfl)) ?_
   refine RS (ok_rem rfl rfl (by decide)) ?_; refine RZ (nB (q[i].2.1.toNat % 3)) (m3n _) ?_
   refine RS (ok_conv Try.underlying5 Try.underlying24 rfl) ?_; refine RZ (nW (q[i].2.1.toNat % 3)) (congrArg (Value.int .u32) (wrapN_u32 (by omega))) ?_
   refine RS (ok_index0 (1) Try.underlying51 info5 rfl rfl (rfl) (by decide)) ?_
   refine RS (ok_loadV (s := 1000005) (by decide) Try.underlying5 rfl rfl rfl (rfl)) ?_
   refine RS (ok_div rfl rfl (by decide)) ?_; refine RZ (nB (q[i].2.1.toNat / 3)) (d3n _) ?_
   refine RS (ok_rem rfl rfl (by decide)) ?_; refine RZ (nB (q[i].2.1.toNat / 3 % 5)) (m5n _) ?_
   refine RS (ok_conv Try.underlying5 Try.underlying25 rfl) ?_; refine RZ (nQ (q[i].2.1.toNat / 3 % 5)) (congrArg (Value.int .u64) (wrapN_u64 (by omega))) ?_
   refine RS (ok_litS [(0, nW (q[i].2.1.toNat % 3)), (1, nQ (q[i].2.1.toNat / 3 % 5))] [nW (q[i].2.1.toNat % 3), nQ (q[i].2.1.toNat / 3 % 5)] ⟨rfl, rfl, rfl, rfl, trivial⟩ (by kernel_rfl)) ?_
   refine RM rfl ?_
   refine RM rfl ?_
   refine RS (ok_index0 (3) Try.underlying51 info5 rfl rfl (rfl) (by decide)) ?_
   refine RS (ok_loadV (s := 1000005) (by decide) Try.underlying5 rfl rfl rfl (rfl)) ?_
   refine RS (ok_rem rfl rfl (by decide)) ?_; refine RZ (nB (q[i].2.2.2.toNat % 3)) (m3n _) ?_
   refine RS (ok_conv Try.underlying5 Try.underlying24 rfl) ?_; refine RZ (nW (q[i].2.2.2.toNat % 3)) (congrArg (Value.int .u32) (wrapN_u32 (by omega))) ?_
   refine RBS rfl rfl rfl (nW (q[i].2.2.1.toNat % 8 + q[i].2.2.2.toNat % 3)) (by rw [wrap_u32 (by omega) (by omega)]; rfl) ?_
   refine RS (ok_litS [(0, aggV [nW (q[i].2.1.toNat % 3), nQ (q[i].2.1.toNat / 3 % 5)]), (1, nW (q[i].2.2.1.toNat % 8)), (2, nW (q[i].2.2.1.toNat % 8 + q[i].2.2.2.toNat % 3))] (rngQ q[i]) ⟨rfl, rfl, rfl, rfl, rfl, rfl, trivial⟩ (by exact bRngQ q[i])) ?_
   refine RS (ok_litS [(0, aggV ((List.replicate 15 0 ++ [q[i].1 % 3]).map byteV)), (1, aggV (rngQ q[i]))] (usV (ofU q[i])) ⟨rfl, rfl, rfl, rfl, trivial⟩ (by exact bUseQ q[i])) ?_
   refine RS (ok_build1K Try.underlying22 infoU rfl (by decide) (by decide) rfl (usV_length (ofU_fit _))) ?_
   refine RN ?_
   refine ⟨_, eff_appendP Try.underlying22 infoU (by decide) (by decide) rfl rfl rfl (usV_length (ofU_fit _)) (usV_one _) (by omega) (by decide) (fun g hg => (LV 1 rfl (LV 4 rfl (LT 1000001 rfl (LT 1000005 rfl (LO 1000200 rfl LN)))))), ?_⟩
   refine TL ?_
   refine RA rfl ?_
   refine RN ?_
   refine End.sub (KC 1 rfl (KC 3 rfl (KC 4 rfl (KC 1000001 rfl (KC 1000005 rfl (KC 1000200 rfl KN)))))) ?_
   refine End.normal_block ?_
   refine EN ?_
   refine GE ?_
   refine TL ?_
   refine RM rfl ?_
   refine RBS rfl rfl rfl (nI (i + 1)) (by rw [wrap_i64 (by omega) (by omega)]; rfl) ?_
   refine RA rfl ?_
   refine RN ?_
   refine End.normal_then ?_
   refine End.again (i + 1) ?_ ?_ ?_
   ·show _ ≤ _; omega
   ·show _ - _ < _ - _; omega
   ·exact (KC 1 rfl (KC 1000001 rfl (KC 1000200 rfl (KE 3 rfl (congrArg (ownP w₀.heap.size 31 20 (i + 1)) (usOf_next hi)) (KC 4 rfl KN)))))
  ·have hi2 : i = min q.length 60 := by have := of_decide_eq_false hc15; omega
   refine A.exit ?_
   refine End.exit_then ?_
   refine End.exit_then ?_
   refine End.exit_here ?_
   refine EN ?_
   refine GS ?_
   refine TL ?_
   refine RM rfl ?_
   refine RA rfl ?_
   refine RN ?_
   refine A.ret ?_
   exact End.ret1 rfl rfl (by rw [usOf_end hi2]; exact (ownP_rowD).trans (Le.eq (by rw [show i = (usOf q).length by simp [usOf]; omega])))
end Go.Proofs.Ythhmimnkfklhdaa
namespace Go.Proofs.Ythhmimnkfklhdaa
open Go Go.RowKit
set_option linter.unusedVariables false
set_option linter.unusedSimpArgs false
set_option maxRecDepth 20000
def rF (us : List Us) : Bool := decide (repJ us < us.length)
def rI (us : List Us) : Int := if repJ us < us.length then ((repI us : Nat) : Int) else 0
def rJ (us : List Us) : Int := if repJ us < us.length then ((repJ us : Nat) : Int) else 0
def repV (us : List Us) : Value := .tuple #[.int .i64 (rI us), .int .i64 (rJ us), .bool (rF us)]
theorem chk_ok {us : List Us} (h : chkU us = 0) : ∀ u ∈ us, u.ok = true := by
 unfold chkU at h
 split at h
 ·cases h
 ·split at h
  ·rename_i h1; exact List.all_eq_true.1 h1
  ·cases h
theorem Repeats_fn (us : List Us) (hf : Fits us) (hn : us.length ≤ 1099511627776) (h : chkU us = 0) : Fn Try.prog 15 [hdD (rowD us.length (usR us)) []] (.v (repV us)) := by
 unfold repV rI rJ rF
 by_cases hJ : repJ us < us.length
 ·rw [if_pos hJ, if_pos hJ, decide_eq_true hJ]; exact Repeats_some us hf hn h (chk_ok h) hJ (shared_fn us hf hn)
 ·rw [if_neg hJ, if_neg hJ, decide_eq_false hJ]; exact Repeats_none us hf hn h (chk_ok h) (by have := repJ_le us; omega) (shared_fn us hf hn)
theorem Repeat_fn : Fn Try.prog 25 [.v (.string ⟨#[48]⟩), .v (.int .i64 56)] (.v (strV (List.replicate 56 48))) :=
 Fn.exact2 ⟨_, Try.func25, by kernel_rfl, rfl⟩ fun w => (Try.strings_Repeat ⟨#[48]⟩ 56 w (by decide) (by decide)).mono fun e w' ⟨he, hw⟩ => ⟨he, hw⟩
def exU (n f l : Nat) : Us := ⟨List.replicate 16 0, 0, n, f, l⟩
def exL : List Us := [exU 1 0 1, exU 2 0 1, exU 1 2 3]
def exN : List Us := [exU 1 1 2, exU 1 0 0]
def exM : List Us := exL ++ exN
def exS : List Us := [exU 2 0 1]
theorem exU_fit {n f l : Nat} (h1 : n < 18446744073709551616) (h2 : f < 4294967296) (h3 : l < 4294967296) : (exU n f l).Fit := ⟨rfl, by show 0 < 4294967296; decide, h1, h2, h3⟩
theorem exL_fit : Fits exL := fun u hu => by
 simp only [exL, List.mem_cons, List.not_mem_nil, or_false] at hu
 rcases hu with rfl | rfl | rfl <;> exact exU_fit (by decide) (by decide) (by decide)
theorem exN_fit : Fits exN := fun u hu => by
 simp only [exN, List.mem_cons, List.not_mem_nil, or_false] at hu
 rcases hu with rfl | rfl <;> exact exU_fit (by decide) (by decide) (by decide)
theorem exM_fit : Fits exM := exL_fit.append exN_fit
theorem exS_fit : Fits exS := fun u hu => by
 simp only [exS, List.mem_cons, List.not_mem_nil, or_false] at hu
 subst hu; exact exU_fit (by decide) (by decide) (by decide)
theorem exL_rep : repV exL = .tuple #[.int .i64 0, .int .i64 0, .bool false] := by kernel_rfl
theorem exM_rep : repV exM = .tuple #[.int .i64 0, .int .i64 3, .bool true] := by kernel_rfl
theorem exS_row : ((usR exL).drop (1 * 20)).take ((2 - 1) * 20) = usR exS := by kernel_rfl
def exP : List UInt8 := List.replicate 56 48 ++ List.replicate 16 48
def exQ : List UInt8 := List.replicate 56 48 ++ [48, 48, 48, 48, 48, 48, 48, 49, 48, 48, 48, 48, 48, 48, 48, 48, 10]
theorem ex1_prs : prs ([48, 48, 10] : List UInt8).length [48, 48, 10] [] = ([], 1, 5) := by kernel_rfl
theorem exP_prs : prs exP.length exP [] = ([], 1, 5) := by kernel_rfl
theorem exQ_prs : prs exQ.length exQ [] = ([], 1, 1) := by kernel_rfl
theorem exS_text : (textL exS == (List.replicate 56 48).take 32 ++ [48, 48, 48, 48, 48, 48, 48, 48, 48, 48, 48, 48, 48, 48, 48, 48, 48, 48, 48, 48, 48, 48, 48, 50, 48, 48, 48, 48, 48, 48, 48, 48, 48, 48, 48, 48, 48, 48, 48, 49, 10]) = true := by kernel_rfl
theorem prs_val {l : List UInt8} {n : Nat} {e : Int} (h : prs l.length l [] = ([], n, e)) : Value.tuple #[aggV [.slice none 0 0], nI ((prs l.length l []).2.1), .int .i64 (prs l.length l []).2.2] = .tuple #[aggV [.slice none 0 0], nI n, .int .i64 e] := by rw [h]

set_option maxHeartbeats 4000000 in
theorem lives11_fn  : Fn Try.prog 9 [] (.v (.bool true)) := by
 refine Fn.of Try.func9 rfl (by kernel_rfl) Try.ntmps9 (by simp) (fun w => []) (fun w => Start.nil) fun w₀ => ?_
 refine GS ?_
 refine TL ?_
 refine RA rfl ?_
 refine RN ?_
 refine GS ?_
 refine TN 2 ?_
 refine RS (ok_litS [(1, .int .u64 1)] ([.int .u32 0, .int .u64 1]) ⟨rfl, rfl, trivial⟩ (by kernel_rfl)) ?_
 refine RS (ok_litS [(1, .int .u64 2)] ([.int .u32 0, .int .u64 2]) ⟨rfl, rfl, trivial⟩ (by kernel_rfl)) ?_
 refine RN ?_
 refine ⟨_, _, eff_alloc (n := 147) (d := 1) (k := 1000001) zero27 (by decide), fun b1 hb1 => ?_⟩
 have hBb1 := hb1.1
 refine TN 3 ?_
 refine RN ?_
 refine ⟨_, _, eff_alloc (n := 147) (d := 2) (k := 1000002) zero27 (by decide), fun b2 hb2 => ?_⟩
 have hBb2 := hb2.1
 have hlt_b1_b2 : b1 < b2 := hb2.2 1000001 _ _ _ rfl
 refine TF 4 ?_
 refine RN ?_
 refine ⟨_, eff_storeA (n := 147) (s := 1000001) (size27.of (rfl)) rfl rfl (rfl) hBb1 rfl (rfl) (LV 1 rfl (LV 2 rfl (LV 24 rfl (LB 1000002 rfl LN)))), ?_⟩
 refine TF 5 ?_
 refine RN ?_
 refine ⟨_, eff_storeA (n := 147) (s := 1000002) (size27.of (rfl)) rfl rfl (rfl) hBb2 rfl (rfl) (LV 1 rfl (LV 2 rfl (LB 1000001 rfl LN))), ?_⟩
 refine TL ?_
 refine RN ?_
 refine GS ?_
 refine TN 9 ?_
 refine RS (ok_loadA (s := 1000001) (by decide) Try.underlying27 rfl (size27.of (rfl)) rfl rfl) ?_
 refine RS (ok_litS [(0, aggV [.int .u32 0, .int .u64 1]), (2, .int .u32 1)] ([.int .u32 0, .int .u64 1, .int .u32 0, .int .u32 1]) ⟨rfl, rfl, rfl, rfl, trivial⟩ (by kernel_rfl)) ?_
 refine RS (ok_litS [(1, aggV [.int .u32 0, .int .u64 1, .int .u32 0, .int .u32 1])] (usV (exU 1 0 1)) ⟨rfl, rfl, trivial⟩ (by kernel_rfl)) ?_
 refine RS (ok_loadA (s := 1000002) (by decide) Try.underlying27 rfl (size27.of (rfl)) rfl rfl) ?_
 refine RS (ok_litS [(0, aggV [.int .u32 0, .int .u64 2]), (2, .int .u32 1)] ([.int .u32 0, .int .u64 2, .int .u32 0, .int .u32 1]) ⟨rfl, rfl, rfl, rfl, trivial⟩ (by kernel_rfl)) ?_
 refine RS (ok_litS [(1, aggV [.int .u32 0, .int .u64 2, .int .u32 0, .int .u32 1])] (usV (exU 2 0 1)) ⟨rfl, rfl, trivial⟩ (by kernel_rfl)) ?_
 refine RS (ok_loadA (s := 1000001) (by decide) Try.underlying27 rfl (size27.of (rfl)) rfl rfl) ?_
 refine RS (ok_litS [(0, aggV [.int .u32 0, .int .u64 1]), (1, .int .u32 2), (2, .int .u32 3)] ([.int .u32 0, .int .u64 1, .int .u32 2, .int .u32 3]) ⟨rfl, rfl, rfl, rfl, rfl, rfl, trivial⟩ (by kernel_rfl)) ?_
 refine RS (ok_litS [(1, aggV [.int .u32 0, .int .u64 1, .int .u32 2, .int .u32 3])] (usV (exU 1 2 3)) ⟨rfl, rfl, trivial⟩ (by kernel_rfl)) ?_
 refine RN ?_
 refine ⟨_, _, eff_name (n := 147) (d := 34) (k := 1000034) rfl rfl (fun B' => ok_buildG [(0, aggV (usV (exU 1 0 1))), (1, aggV (usV (exU 2 0 1))), (2, aggV (usV (exU 1 2 3)))] (usR exL) Try.underlying22 infoU ⟨rfl, rfl, rfl, rfl, rfl, rfl, trivial⟩ (by kernel_rfl) (by decide) (by decide)) (by decide) (by decide), fun b34 hb34 => ?_⟩
 have hBb34 := hb34.1
 have hlt_b1_b34 : b1 < b34 := hb34.2 1000001 _ _ _ rfl
 have hlt_b2_b34 : b2 < b34 := hb34.2 1000002 _ _ _ rfl
 refine TL ?_
 refine RA rfl ?_
 refine RN ?_
 refine GS ?_
 refine TL ?_
 refine RS (OpOk.rowBlk (ok_move rfl) (k := 1000034) (by decide) rfl) ?_
 refine RS (ok_call (of11_fn 3 (usR exL)) (A1 rfl)) ?_
 refine RS (ok_call (Repeats_fn exL exL_fit (by decide) (by decide)) (A1 rfl)) ?_; refine RZ (.tuple #[.int .i64 0, .int .i64 0, .bool false]) (exL_rep) ?_
 refine RM rfl ?_
 refine RS (ok_extractV (xs := [_, _, _]) rfl rfl) ?_
 refine RS (ok_extractV (xs := [_, _, _]) rfl rfl) ?_
 refine RS (ok_extractV (xs := [_, _, _]) rfl rfl) ?_
 refine RA rfl ?_
 refine RA rfl ?_
 refine RA rfl ?_
 refine RN ?_
 refine A.sub (KC 1 rfl (KC 3 rfl (KC 6 rfl (KC 1000001 rfl (KC 1000002 rfl (KC 1000034 rfl KN)))))) ?_
 refine A.regsX [⟨false, false, some 10⟩, ⟨false, true, none⟩, ⟨false, false, some 10⟩, ⟨false, true, none⟩, ⟨false, true, none⟩, ⟨false, true, none⟩, ⟨false, true, none⟩, ⟨false, true, none⟩, ⟨false, true, none⟩, ⟨false, false, some 10⟩, ⟨true, false, none⟩, ⟨false, false, none⟩] _ (fun B => (OldH.same (t := 1) rfl (OldH.same (t := 3) rfl (OldH.same (t := 6) rfl (OldH.same (t := 1000001) rfl (OldH.same (t := 1000002) rfl (OldH.same (t := 1000034) rfl OldH.nil))))))) (by kernel_rfl) (by kernel_rfl) (by kernel_rfl) (by kernel_rfl) (fun B hlt => (StaysL.cons (k := 1) (Stays.v _ _) (StaysL.cons (k := 3) (Stays.v _ _) (StaysL.cons (k := 6) (Stays.v _ _) (StaysL.cons (k := 1000001) (Stays.blk (hlt 1000001 _ _ _ rfl)) (StaysL.cons (k := 1000002) (Stays.blk (hlt 1000002 _ _ _ rfl)) (StaysL.cons (k := 1000034) (Stays.blk (hlt 1000034 _ _ _ rfl)) StaysL.nil))))))) (fun B hB hlt => ?_)
 refine RunX.step rfl rfl (ok_build0P Try.underlying22 infoU) (fun h => by cases h) ?_
 refine RunX.step rfl rfl (OpOk.rowBlkO (ok_move rfl) (k := 1000034) (by decide) rfl (hlt 1000034 _ _ _ rfl) (Nat.le_refl _)) (fun _ => Stays.old _ _) ?_
 refine RunX.step rfl rfl (ok_append0P Try.underlying22 infoU (by decide) (by decide) rfl rfl rfl (Le.old _ _) rfl (by decide)) (fun h => by cases h) ?_
 refine RunX.step rfl rfl (ok_loadA (s := 1000001) (by decide) Try.underlying27 rfl (size27.of (rfl)) rfl rfl) (fun _ => Stays.v _ _) ?_
 refine RunX.step rfl rfl (ok_litS [(0, aggV [.int .u32 0, .int .u64 1]), (1, .int .u32 1), (2, .int .u32 2)] ([.int .u32 0, .int .u64 1, .int .u32 1, .int .u32 2]) ⟨rfl, rfl, rfl, rfl, rfl, rfl, trivial⟩ (by kernel_rfl)) (fun _ => Stays.v _ _) ?_
 refine RunX.step rfl rfl (ok_litS [(1, aggV [.int .u32 0, .int .u64 1, .int .u32 1, .int .u32 2])] (usV (exU 1 1 2)) ⟨rfl, rfl, trivial⟩ (by kernel_rfl)) (fun _ => Stays.v _ _) ?_
 refine RunX.step rfl rfl (ok_loadA (s := 1000001) (by decide) Try.underlying27 rfl (size27.of (rfl)) rfl rfl) (fun _ => Stays.v _ _) ?_
 refine RunX.step rfl rfl (ok_litS [(0, aggV [.int .u32 0, .int .u64 1])] ([.int .u32 0, .int .u64 1, .int .u32 0, .int .u32 0]) ⟨rfl, rfl, trivial⟩ (by kernel_rfl)) (fun _ => Stays.v _ _) ?_
 refine RunX.step rfl rfl (ok_litS [(1, aggV [.int .u32 0, .int .u64 1, .int .u32 0, .int .u32 0])] (usV (exU 1 0 0)) ⟨rfl, rfl, trivial⟩ (by kernel_rfl)) (fun _ => Stays.v _ _) ?_
 refine RunX.step rfl rfl (OpOk.le (ok_buildG [(0, aggV (usV (exU 1 1 2))), (1, aggV (usV (exU 1 0 0)))] (usR exN) Try.underlying22 infoU ⟨rfl, rfl, rfl, rfl, trivial⟩ (by kernel_rfl) (by decide) (by decide)) newD_rowD) (fun h => by cases h) ?_
 refine RunX.eff rfl rfl (okx_appendP Try.underlying22 infoU (by decide) (by decide) rfl rfl rfl (Le.refl _) (usR_one' _) rfl (by decide)) (fun h => by cases h) ?_
 refine RunX.step rfl rfl (ok_assign rfl) (fun h => by cases h) ?_
 refine RunX.last (KC 3 rfl (KC 6 rfl (KC 7 rfl (KC 1000001 rfl (KC 1000002 rfl (KC 1000034 rfl KN)))))) (by kernel_rfl) ?_
 refine A.subL (SubL.cons (t := 3) rfl (Le.refl _) (SubL.cons (t := 6) rfl (Le.refl _) (SubL.cons (t := 7) rfl (Le.refl _) (SubL.cons (t := 1000001) rfl (Le.refl _) (SubL.cons (t := 1000002) rfl (Le.refl _) (SubL.cons (t := 1000034) rfl (Le.refl _) SubL.nil)))))) ?_
 refine GS ?_
 refine TL ?_
 refine RM rfl ?_
 refine RS (ok_call (of11_fn (3 + 2) (usR exL ++ usR exN)) (Args.cons rfl ownP_rowD Args.nil)) ?_
 refine RS (ok_call (Repeats_fn exM exM_fit (by decide) (by decide)) (Args.cons rfl (Le.eq (congrArg (fun xs => hdD (rowD 5 xs) []) (usR_append exL exN).symm)) Args.nil)) ?_; refine RZ (.tuple #[.int .i64 0, .int .i64 3, .bool true]) (exM_rep) ?_
 refine RM rfl ?_
 refine RS (ok_extractV (xs := [_, _, _]) rfl rfl) ?_
 refine RS (ok_extractV (xs := [_, _, _]) rfl rfl) ?_
 refine RS (ok_extractV (xs := [_, _, _]) rfl rfl) ?_
 refine RA rfl ?_
 refine RA rfl ?_
 refine RA rfl ?_
 refine RN ?_
 refine A.seq ?_
 refine GS ?_
 refine TL ?_
 refine RM rfl ?_
 refine RM rfl ?_
 refine RQ (ok_move rfl) ?_
 refine RQ (ok_bin rfl rfl rfl) ?_; refine RZ (.bool false) (by rfl) ?_
 refine RP rfl rfl ?_
 refine RM rfl ?_
 refine RQ (ok_move rfl) ?_
 refine RQ (ok_bin rfl rfl rfl) ?_; refine RZ (.bool false) (by rfl) ?_
 refine RP rfl rfl ?_
 refine RM rfl ?_
 refine RQ (ok_move rfl) ?_
 refine RQ (ok_not rfl) ?_; refine RZ (.bool false) (by rfl) ?_
 refine RP rfl rfl ?_
 refine RM rfl ?_
 refine RQ (OpOk.rowBlk (ok_move rfl) (k := 1000034) (by decide) rfl) ?_
 refine RQ (ok_call (of11_fn 3 (usR exL)) (A1 rfl)) ?_
 refine RQ (ok_lit [] ((List.replicate 16 0).map byteV) (fun _ _ => rfl) (by kernel_rfl)) ?_
 refine RQ (ok_call (Count_fn exL exL_fit (by decide) (List.replicate 16 0) rfl) (A2 rfl rfl)) ?_; refine RZ (.int .i64 3) (by kernel_rfl) ?_
 refine RQ (ok_bin rfl rfl rfl) ?_; refine RZ (.bool false) (by rfl) ?_
 refine RP rfl rfl ?_
 refine RM rfl ?_
 refine RQ (OpOk.rowBlk (ok_move rfl) (k := 1000034) (by decide) rfl) ?_
 refine RQ (ok_call (of11_fn 3 (usR exL)) (A1 rfl)) ?_
 refine RQ (ok_litS [(0, .int .u8 1)] ((1 :: List.replicate 15 0).map byteV) ⟨rfl, rfl, trivial⟩ (by kernel_rfl)) ?_
 refine RQ (ok_call (Count_fn exL exL_fit (by decide) (1 :: List.replicate 15 0) rfl) (A2 rfl rfl)) ?_; refine RZ (.int .i64 0) (by kernel_rfl) ?_
 refine RQ (ok_bin rfl rfl rfl) ?_; refine RZ (.bool false) (by rfl) ?_
 refine RP rfl rfl ?_
 refine RN ?_
 refine A.sub (KC 3 rfl (KC 86 rfl (KC 1000001 rfl (KC 1000002 rfl (KC 1000034 rfl KN))))) ?_
 refine A.no rfl ?_
 refine A.skip ?_
 refine EN ?_
 refine GS ?_
 refine TL ?_
 refine RS (ok_call Repeat_fn (A2 rfl rfl)) ?_
 refine RA rfl ?_
 refine RN ?_
 refine GS ?_
 refine TL ?_
 refine RM rfl ?_
 refine RS (ok_sliceRB (k := 1000034) 1 2 Try.underlying22 infoU rfl (by decide) rfl (.inr ⟨_, _, rfl, rfl⟩) rfl (by decide) (by decide) (by decide)) ?_
 refine RS (ok_call (of11_fn (2 - 1) (((usR exL).drop (1 * 20)).take ((2 - 1) * 20))) (A1 rfl)) ?_
 refine RS (ok_call (Text_ok exS exS_fit (by decide) (by decide) (by decide)) (Args.cons rfl (Le.eq (congrArg (fun xs => hdD (rowD 1 xs) []) exS_row)) Args.nil)) ?_
 refine RM rfl ?_
 refine RS (ok_extractV (xs := [_, _]) rfl rfl) ?_
 refine RS (ok_extractV (xs := [_, _]) rfl rfl) ?_
 refine RA rfl ?_
 refine RA rfl ?_
 refine RN ?_
 refine GS ?_
 refine TN 5 ?_
 refine RS (ok_call (Parse_bad [48, 48, 10] (by decide) (by rw [ex1_prs]; decide)) (A1 rfl)) ?_; refine RZ (.tuple #[aggV [.slice none 0 0], nI 1, .int .i64 5]) (prs_val ex1_prs) ?_
 refine RM rfl ?_
 refine RS (ok_extractV (xs := [_, _, _]) rfl rfl) ?_
 refine RS (ok_extractV (xs := [_, _, _]) rfl rfl) ?_
 refine RS (ok_extractV (xs := [_, _, _]) rfl rfl) ?_
 refine RN ?_
 refine ⟨_, _, eff_alloc (n := 147) (d := 14) (k := 1000014) zero35 (by decide), fun b14 hb14 => ?_⟩
 have hBb14 := hb14.1
 refine TF 6 ?_
 refine RN ?_
 refine ⟨_, eff_storeA (n := 147) (s := 1000014) (size35.of (rfl)) rfl rfl (rfl) hBb14 rfl (rfl) (LV 11 rfl (LV 12 rfl (LV 13 rfl (LV 98 rfl (LV 99 rfl (LT 1000001 rfl (LT 1000002 rfl (LT 1000034 rfl LN)))))))), ?_⟩
 refine TL ?_
 refine RA rfl ?_
 refine RA rfl ?_
 refine RN ?_
 refine GS ?_
 refine TN 7 ?_
 refine RM rfl ?_
 refine RS (ok_addS (a := List.replicate 56 48) (b := List.replicate 16 48) rfl rfl (by decide)) ?_
 refine RS (ok_call (Parse_bad exP (by decide) (by rw [exP_prs]; decide)) (A1 rfl)) ?_; refine RZ (.tuple #[aggV [.slice none 0 0], nI 1, .int .i64 5]) (prs_val exP_prs) ?_
 refine RM rfl ?_
 refine RS (ok_extractV (xs := [_, _, _]) rfl rfl) ?_
 refine RS (ok_extractV (xs := [_, _, _]) rfl rfl) ?_
 refine RS (ok_extractV (xs := [_, _, _]) rfl rfl) ?_
 refine RN ?_
 refine ⟨_, _, eff_alloc (n := 147) (d := 17) (k := 1000017) zero35 (by decide), fun b17 hb17 => ?_⟩
 have hBb17 := hb17.1
 have hlt_b14_b17 : b14 < b17 := hb17.2 1000014 _ _ _ rfl
 refine TF 8 ?_
 refine RN ?_
 refine ⟨_, eff_storeA (n := 147) (s := 1000017) (size35.of (rfl)) rfl rfl (rfl) hBb17 rfl (rfl) (LV 11 rfl (LV 12 rfl (LV 13 rfl (LV 15 rfl (LV 16 rfl (LV 105 rfl (LV 106 rfl (LT 1000001 rfl (LT 1000002 rfl (LB 1000014 rfl (LT 1000034 rfl LN))))))))))), ?_⟩
 refine TL ?_
 refine RA rfl ?_
 refine RA rfl ?_
 refine RN ?_
 refine A.sub (KC 11 rfl (KC 12 rfl (KC 13 rfl (KC 15 rfl (KC 16 rfl (KC 18 rfl (KC 19 rfl (KC 1000001 rfl (KC 1000002 rfl (KC 1000014 rfl (KC 1000017 rfl (KC 1000034 rfl KN)))))))))))) ?_
 refine GS ?_
 refine TN 7 ?_
 refine RM rfl ?_
 refine RS (ok_addS (a := List.replicate 56 48) (b := [48, 48, 48, 48, 48, 48, 48, 49, 48, 48, 48, 48, 48, 48, 48, 48, 10]) rfl rfl (by decide)) ?_
 refine RS (ok_call (Parse_bad exQ (by decide) (by rw [exQ_prs]; decide)) (A1 rfl)) ?_; refine RZ (.tuple #[aggV [.slice none 0 0], nI 1, .int .i64 1]) (prs_val exQ_prs) ?_
 refine RM rfl ?_
 refine RS (ok_extractV (xs := [_, _, _]) rfl rfl) ?_
 refine RS (ok_extractV (xs := [_, _, _]) rfl rfl) ?_
 refine RS (ok_extractV (xs := [_, _, _]) rfl rfl) ?_
 refine RN ?_
 refine ⟨_, _, eff_alloc (n := 147) (d := 20) (k := 1000020) zero35 (by decide), fun b20 hb20 => ?_⟩
 have hBb20 := hb20.1
 have hlt_b14_b20 : b14 < b20 := hb20.2 1000014 _ _ _ rfl
 have hlt_b17_b20 : b17 < b20 := hb20.2 1000017 _ _ _ rfl
 refine TF 8 ?_
 refine RN ?_
 refine ⟨_, eff_storeA (n := 147) (s := 1000020) (size35.of (rfl)) rfl rfl (rfl) hBb20 rfl (rfl) (LV 11 rfl (LV 12 rfl (LV 13 rfl (LV 15 rfl (LV 16 rfl (LV 18 rfl (LV 19 rfl (LV 112 rfl (LV 113 rfl (LT 1000001 rfl (LT 1000002 rfl (LB 1000014 rfl (LB 1000017 rfl (LT 1000034 rfl LN)))))))))))))), ?_⟩
 refine TL ?_
 refine RA rfl ?_
 refine RA rfl ?_
 refine RN ?_
 refine GS ?_
 refine TL ?_
 refine RM rfl ?_
 refine RM rfl ?_
 refine RS (ok_sliceTo (l := List.replicate 56 48) 32 Try.underlying9 rfl rfl (by decide)) ?_
 refine RS (ok_addS (a := (List.replicate 56 48).take 32) (b := [48, 48, 48, 48, 48, 48, 48, 48, 48, 48, 48, 48, 48, 48, 48, 48, 48, 48, 48, 48, 48, 48, 48, 50, 48, 48, 48, 48, 48, 48, 48, 48, 48, 48, 48, 48, 48, 48, 48, 49, 10]) rfl rfl (by decide)) ?_
 refine RS (ok_seq (a := textL exS) rfl rfl) ?_; refine RZ (.bool true) (congrArg Value.bool exS_text) ?_
 refine RM rfl ?_
 refine RQ (ok_move rfl) ?_
 refine RQ (ok_bin rfl rfl rfl) ?_; refine RZ (.bool true) (by rfl) ?_
 refine RP rfl rfl ?_
 refine RM rfl ?_
 refine RQ (ok_move rfl) ?_
 refine RQ (ok_bin rfl rfl rfl) ?_; refine RZ (.bool true) (by rfl) ?_
 refine RP rfl rfl ?_
 refine RM rfl ?_
 refine RQ (ok_move rfl) ?_
 refine RQ (ok_bin rfl rfl rfl) ?_; refine RZ (.bool true) (by rfl) ?_
 refine RP rfl rfl ?_
 refine RM rfl ?_
 refine RQ (ok_move rfl) ?_
 refine RQ (ok_bin rfl rfl rfl) ?_; refine RZ (.bool true) (by rfl) ?_
 refine RP rfl rfl ?_
 refine RM rfl ?_
 refine RQ (ok_move rfl) ?_
 refine RQ (ok_bin rfl rfl rfl) ?_; refine RZ (.bool true) (by rfl) ?_
 refine RP rfl rfl ?_
 refine RM rfl ?_
 refine RQ (ok_move rfl) ?_
 refine RQ (ok_bin rfl rfl rfl) ?_; refine RZ (.bool true) (by rfl) ?_
 refine RP rfl rfl ?_
 refine RM rfl ?_
 refine RQ (ok_move rfl) ?_
 refine RQ (ok_bin rfl rfl rfl) ?_; refine RZ (.bool true) (by rfl) ?_
 refine RP rfl rfl ?_
 refine RA rfl ?_
 refine RN ?_
 refine A.sub (KC 0 rfl (KC 1000001 rfl (KC 1000002 rfl (KC 1000014 rfl (KC 1000017 rfl (KC 1000020 rfl (KC 1000034 rfl KN))))))) ?_
 refine A.ret ?_
 exact End.ret1 rfl rfl (by first | exact Le.refl _ | exact Le.old _ _)
end Go.Proofs.Ythhmimnkfklhdaa
namespace Go.Proofs.Ythhmimnkfklhdaa
open Go Go.RowKit
variable {κ : Cx}
def subs : List Nat → List (List Nat)
  | [] => [[]]
  | x :: r => subs r ++ (subs r).map (x :: ·)
theorem filter_subs (f : Nat → Bool) : ∀ l : List Nat, l.filter f ∈ subs l
  | [] => by simp [subs]
  | x :: r => by
    have ih := filter_subs f r
    rw [List.filter_cons, subs, List.mem_append]
    split
    · exact .inr (List.mem_map.2 ⟨_, ih, rfl⟩)
    · exact .inl ih
def keeps (ops : Array Oper) (S : List Nat) (t : Nat) : Bool := !(S.any fun i => ((ops[i]?).bind (·.dst)) == some t)
/-- What is known without the operations S. -/
def without (ops : Array Oper) (S : List Nat) (E : Env) : Env := E.filter fun q => keeps ops S q.1
theorem without_look {ops : Array Oper} {S : List Nat} {t : Nat} {d : D} : ∀ {E : Env}, (without ops S E).look t = some d → E.look t = some d ∧ keeps ops S t = true
  | [], h => by simp [without, Env.look] at h
  | (s, e) :: E, h => by
    unfold without at h
    rw [List.filter_cons] at h
    by_cases hst : s = t
    · subst hst
      by_cases hk : keeps ops S s = true
      · rw [if_pos hk] at h
        rw [look_here] at h ⊢
        exact ⟨h, hk⟩
      · rw [if_neg hk] at h
        exact absurd (without_look (E := E) h).2 hk
    · rw [look_past _ _ hst]
      split at h
      · rw [look_past _ _ hst] at h; exact without_look (E := E) h
      · exact without_look (E := E) h
theorem look_without {ops : Array Oper} {S : List Nat} {t : Nat} {d : D} (hk : keeps ops S t = true) : ∀ {E : Env}, E.look t = some d → (without ops S E).look t = some d
  | [], h => by simp [Env.look] at h
  | (s, e) :: E, h => by
    unfold without
    rw [List.filter_cons]
    by_cases hst : s = t
    · subst hst
      rw [if_pos hk]
      rw [look_here] at h ⊢
      exact h
    · rw [look_past _ _ hst] at h
      split
      · rw [look_past _ _ hst]; exact look_without hk h
      · exact look_without hk h
/-- The operations before p have come up but for S. -/
def listedS (ops : Array Oper) (p : Nat) (S : List Nat) : Array Bool := ((List.range ops.size).map fun i => decide (i < p) && !S.contains i).toArray
theorem listedS_get {ops : Array Oper} {p i : Nat} {S : List Nat} (h : i < ops.size) : (listedS ops p S)[i]? = some (decide (i < p) && !S.contains i) := by simp [listedS, h]
def lateOk (ops : Array Oper) (p : Nat) (late : List Nat) : Bool :=
  let b := (befores ops).map List.eraseDups
  decide (p < ops.size) && late.all (· < p) && (List.range ops.size).all fun i => decide (i < p) || ((List.range p).all fun j => late.contains j || (b.getD i []).contains j) && (i == p || (b.getD i []).contains p)
theorem AnyT.mono {P : Program} {n B : Nat} {ops : Array Oper} {C : Env → Prop} : ∀ {m k : Nat} {listed : Array Bool} {E : Env}, m ≤ k → AnyT P n B ops C m listed E → AnyT P n B ops C k listed E
  | 0, k, _, _, _, ⟨hr, hC⟩ => AnyT.last hr hC
  | m + 1, 0, _, _, h, _ => absurd h (by omega)
  | m + 1, k + 1, _, _, h, .inl h' => .inl h'
  | m + 1, k + 1, _, _, h, .inr ⟨hne, h'⟩ => .inr ⟨hne, fun i hi => by
    obtain ⟨o, ho, ι, G, E₂, he, hn⟩ := h' i hi
    exact ⟨o, ho, ι, G, E₂, he, fun j hj => AnyT.mono (by omega) (hn j hj)⟩⟩
section
variable {P : Program} {n B : Nat} {ops : Array Oper} {Q : Exit → Act → World → Prop}
theorem wp_segL {p : Nat} {late : List Nat} {E E' : Env} {ds : List D} {a₀ : Act} {w₀ : World} (htied : tied ops = true) (hfits : fits n ops = true) (hlate : lateOk ops p late = true) (ht : Trace P B ops (ops.toList.take p) E ds E') (h₀ : St κ n B E a₀ w₀)
    (hnext : ∀ S ∈ subs late, ∀ fuel a' w', unlisted ops (listedS ops p S) ≤ fuel + 1 → Grow w₀ w' → St κ n B (without ops S E') a' w' → wpOpIn (FR κ.rd) 0 P ops Q p (wpAnyIn (FR κ.rd) 0 P .any ops Q fuel ((listedS ops p S).setIfInBounds p true)) a' w') :
    ∀ (fuel : Nat) (listed : Array Bool) (a : Act) (w : World), unlisted ops listed ≤ fuel → Inv κ n B ops 0 p E ds a₀ w₀ listed a w → wpAnyIn (FR κ.rd) 0 P .any ops Q fuel listed a w := by
  have hb := hlate
  simp only [lateOk, Bool.and_eq_true, decide_eq_true_eq, List.all_eq_true, List.mem_range, Bool.or_eq_true, beq_iff_eq] at hb
  obtain ⟨⟨hp, hlp⟩, hb⟩ := hb
  have hidx : ∀ (i : Nat) (o : Oper), i < p → ops[i]? = some o → (ops.toList.take p)[i]? = some o := fun i o h2 h3 => by
    rw [List.getElem?_take, if_pos h2]; simpa using h3
  have hidx' : ∀ (j : Nat) (o : Oper), (ops.toList.take p)[j]? = some o → ops[j]? = some o ∧ j < p := fun j o h => by
    rw [List.getElem?_take] at h
    split at h
    · exact ⟨by simpa using h, by assumption⟩
    · cases h
  have hends : ∀ (listed : Array Bool) (a : Act) (w : World), Inv κ n B ops 0 p E ds a₀ w₀ listed a w → Region.ready .any ops listed = [] → False := by
    intro listed a w I hr
    have hall : ∀ i, i < ops.size → listed.getD i false = true := by
      intro i
      induction i using Nat.strongRecOn with
      | _ i ih =>
        intro hi
        rcases hb : listed.getD i false with _ | _
        · exfalso
          have : i ∈ Region.ready .any ops listed := by
            rw [mem_ready]
            refine ⟨?_, ops[i], Array.getElem?_eq_getElem hi, fun e he hbd => ih e.on (tied_edge htied (Array.getElem?_eq_getElem hi) he hbd) (Nat.lt_trans (tied_edge htied (Array.getElem?_eq_getElem hi) he hbd) hi)⟩
            have : i < listed.size := by rw [I.lsize]; exact hi
            simp [this] at hb ⊢
            exact hb
          rw [hr] at this
          cases this
        · rfl
    have h1 := hall p hp
    rw [I.high p (Nat.le_refl _)] at h1
    cases h1
  intro fuel
  induction fuel with
  | zero =>
    intro listed a w hc I
    have hr : Region.ready .any ops listed = [] := by
      rcases hr : Region.ready .any ops listed with _ | ⟨i, l⟩
      · rfl
      · exfalso
        have hi : i ∈ Region.ready .any ops listed := by rw [hr]; exact List.mem_cons_self
        obtain ⟨hu, o, ho, _⟩ := mem_ready.1 hi
        have hpos : 0 < unlisted ops listed := List.countP_pos_iff.2 ⟨i, List.mem_range.2 (Array.getElem?_eq_some_iff.1 ho).1, by simp only [hu]; rfl⟩
        omega
    exact (hends listed a w I hr).elim
  | succ fuel ih =>
    intro listed a w hc I
    refine ⟨fun hr => (hends listed a w I hr).elim, fun i hi => ?_⟩
    obtain ⟨hu, o, ho, hall⟩ := mem_ready.1 hi
    have hlt : i < ops.size := (Array.getElem?_eq_some_iff.1 ho).1
    have huf : listed.getD i false = false := by
      have : i < listed.size := by rw [I.lsize]; exact hlt
      simp [this] at hu ⊢
      exact hu
    have hready : ∀ o', ops[i]? = some o' → ∀ e ∈ o'.after, Region.binds .any e = true → listed.getD e.on false = true := fun o' ho' e he hb => by
      rw [ho] at ho'; injection ho' with ho'; subst ho'; exact hall e he hb
    rcases Nat.lt_or_ge i p with hip | hip
    case inr =>
      have hmem : ∀ k l, l ∈ (Array.map List.eraseDups (befores ops)).getD k [] → l ∈ (befores ops).getD k [] := fun k l h => by
        rw [Array.getD_eq_getD_getElem?, Array.getElem?_map] at h
        rw [Array.getD_eq_getD_getElem?]
        cases hk : (befores ops)[k]? with
        | none => rw [hk] at h; simp at h
        | some v => rw [hk] at h; simpa using h
      obtain ⟨hb1, hb2⟩ := (hb i hlt).resolve_left (by omega)
      have hi : i = p := by
        rcases hb2 with h | h
        · exact h
        · have h2 := I.befores htied i p hready (hmem i p (by simpa using h))
          rw [I.high p (Nat.le_refl _)] at h2
          cases h2
      subst hi
      have hlow : ∀ k, k < i → k ∉ late → listed.getD k false = true := fun k hk hnl => by
        have h1 := (hb1 k hk).resolve_left (by simpa using hnl)
        exact I.befores htied i k hready (hmem i k (by simpa using h1))
      have hS := filter_subs (fun j => !listed.getD j false) late
      have hlist : listed = listedS ops i (late.filter fun j => !listed.getD j false) := by
        apply Array.ext_getElem?
        intro k
        rcases Nat.lt_or_ge k ops.size with hk | hk
        · rw [listedS_get hk]
          have hk' : k < listed.size := by rw [I.lsize]; exact hk
          have hg : listed[k]? = some (listed.getD k false) := by simp [hk']
          rw [hg]
          congr 1
          rcases Nat.lt_or_ge k i with h | h
          · by_cases hkl : k ∈ late
            · cases hv : listed.getD k false with
              | true => rw [Array.getD_eq_getD_getElem?] at hv; simp [h, hkl, hv]
              | false => rw [Array.getD_eq_getD_getElem?] at hv; simp [h, hkl, hv]
            · rw [hlow k h hkl]; simp [h, hkl]
          · rw [I.high k h]; simp; omega
        · rw [Array.getElem?_eq_none (by rw [I.lsize]; exact hk), Array.getElem?_eq_none (by simp [listedS]; exact hk)]
      have hst : St κ n B (without ops (late.filter fun j => !listed.getD j false) E') a w := by
        refine ⟨I.base, I.defers, I.size, fun t e he => ?_⟩
        obtain ⟨he, hkeep⟩ := without_look he
        rcases ht.last t e he with ⟨j, o', hj, hd, hds⟩ | ⟨hno, hl⟩
        · obtain ⟨hj', hjp⟩ := hidx' j o' hj
          refine I.facts j o' t e (Nat.zero_le _) hj' ?_ hd (by rw [Nat.sub_zero]; exact hds)
          by_cases hjl : j ∈ late
          · cases hv : listed.getD j false with
            | true => rfl
            | false =>
              exfalso
              simp only [keeps, Bool.not_eq_true', List.any_eq_false, beq_iff_eq] at hkeep
              exact hkeep j (List.mem_filter.2 ⟨hjl, by simp [hv]⟩) (by rw [hj']; exact hd)
          · exact hlow j hjp hjl
        · rw [I.frame t fun j o' _ hj hl' => ?_]
          · exact (h₀.of t e hl).grow I.grow
          · rcases Nat.lt_or_ge j i with hjp | hjp
            · exact hno j o' (hidx j o' hjp hj)
            · rw [I.high j hjp] at hl'; cases hl'
      have := hnext _ hS fuel a w (by rw [← hlist]; exact hc) I.grow hst
      rw [← hlist] at this
      exact this
    obtain ⟨t, d, Ei, hdst, hds, hgood, henv⟩ := ht.nth (i := i) (o := o) (hidx i o hip ho)
    have hf := fits_mem hfits (o := o) (by simpa using Array.mem_of_getElem? ho)
    refine wpOpR_step ho fun K hK => good_wp I.base (fun t e hvt he => ?_) hdst hgood (fun r e hs he => ?_) (fun r hs => by rw [I.size]; exact hf.1 r hs) fun x w' g hx => hK _ _ (ih _ _ _ ?_ ?_)
    · have hnb := fits_base hfits
      rcases henv t e he with ⟨j, q, hji, hj, hpd, hpds⟩ | ⟨hno, hl⟩
      · obtain ⟨hj', _⟩ := hidx' j q hj
        have h9 : t < n := (fits_mem hfits (o := q) (by simpa using Array.mem_of_getElem? hj')).2 t hpd
        exact absurd (Nat.lt_of_lt_of_le h9 hnb) (Nat.not_lt.2 hvt)
      · have h1 := (h₀.virt hnb) t e hvt hl
        exact h1.grow I.grow
    · rcases henv r e he with ⟨j, q, hji, hj, hpd, hpds⟩ | ⟨hno, hl⟩
      · obtain ⟨hj', hjp⟩ := hidx' j q hj
        obtain ⟨ed, he1, hb, hon⟩ := ((tied_pair htied ho hj' hpd (by omega)).2 hs).1 (by omega)
        refine I.facts j q r e (Nat.zero_le _) hj' ?_ hpd (by rw [Nat.sub_zero]; exact hpds)
        rw [← hon]
        exact hall ed he1 hb
      · rw [I.frame r]
        · exact (h₀.of r e hl).grow I.grow
        · intro j q hsj hj hlist hpd
          by_cases hji : j = i
          · subst hji; rw [huf] at hlist; cases hlist
          · rcases Nat.lt_or_ge j i with h | h
            · exact hno j q h (hidx j q (by omega) hj) hpd
            · obtain ⟨ed, he1, hb, hon⟩ := ((tied_pair htied ho hj hpd hji).2 hs).2 (by omega)
              have := I.closed j q hj hlist ed he1 hb
              rw [hon, huf] at this
              cases this
    · have : unlisted ops (listed.setIfInBounds i true) < unlisted ops listed := by
        refine countP_lt (x := i) (fun y hy => ?_) (List.mem_range.2 hlt) (by simp only [hu]; rfl) ?_
        · by_cases hyi : i = y
          · subst hyi
            have : i < listed.size := by rw [I.lsize]; exact hlt
            simp [this] at hy
          · rw [getD_set_ne true hyi] at hy; exact hy
        · have : i < listed.size := by rw [I.lsize]; exact hlt
          simp [this]
      omega
    · have hset : ∀ j, (listed.setIfInBounds i true).getD j false = true → j = i ∨ listed.getD j false = true := fun j hj => by
        by_cases hji : i = j
        · exact .inl hji.symm
        · rw [getD_set_ne false hji] at hj; exact .inr hj
      refine ⟨I.grow.trans g, Nat.le_trans I.base g.size, by simp [I.lsize], fun j hj hj' => by omega, fun j hj => ?_, I.defers, by simp [Act.put, I.size], ?_, ?_, ?_⟩
      · rw [getD_set_ne false (by omega)]; exact I.high j hj
      · intro j q hj hl e he hb
        rcases hset j hl with rfl | hl
        · rw [ho] at hj; injection hj with hj; subst hj
          exact getD_set_true (hall e he hb)
        · exact getD_set_true (I.closed j q hj hl e he hb)
      · intro j q r e hsj hj hl hpd hpds
        by_cases hji : j = i
        · subst hji
          rw [ho] at hj; injection hj with hj; subst hj
          rw [hdst] at hpd; injection hpd with hpd; subst hpd
          rw [Nat.sub_zero, hds] at hpds; injection hpds with hpds; subst hpds
          rw [getD_put_here _ _ (by rw [I.size]; exact hf.2 _ hdst)]
          exact hx
        · have hl' := (hset j hl).resolve_left hji
          have hne : t ≠ r := fun h => (tied_pair htied ho hj hpd hji).1 (by rw [hdst, h])
          rw [getD_put_past _ _ hne]
          exact (I.facts j q r e hsj hj hl' hpd hpds).grow g
      · intro r hs
        have hne : t ≠ r := fun h => hs i o (Nat.zero_le _) ho (by have : i < listed.size := by rw [I.lsize]; exact hlt
                                                                   simp [this]) (by rw [hdst, h])
        rw [getD_put_past _ _ hne]
        refine I.frame r fun j q hsj hj hl => hs j q hsj hj (getD_set_true hl)
/-- What is to be shown behind the operations before p, where S have not come up. -/
def LateT (P : Program) (n B : Nat) (ops : Array Oper) (C : Env → Prop) (p m : Nat) (S : List Nat) (E : Env) : Prop :=
  m + 1 ≤ unlisted ops (listedS ops p S) ∧ ∃ E₀, Sub E₀ E ∧ ((E₀.map (·.1)).all (keeps ops S)) = true ∧ ∃ o, ops[p]? = some o ∧ ∃ E₂, Eff P n B ops o E₀ E₂ ∧ AnyT P n B ops C m ((listedS ops p S).setIfInBounds p true) E₂
theorem A.regsLH {w₀ : World} {y : Code} {E : Env} {id : Nat} (E' : Nat → Env) (hE : ∀ B, OldH B (E' B) E) (p : Nat) (late : List Nat) (hm : P.follows .mixedOrders = true) (hf : fits n ops = true) (htied : tied ops = true) (hlate : lateOk ops p late = true) (Z : Nat → Env)
    (h : ∀ B, w₀.heap.size ≤ B → RunK P B ops (ops.toList.take p) (E' B) (fun E₁ => ∀ S ∈ subs late, ∃ m, LateT P n B ops (fun E₃ => SubL (Z B) E₃) p m S E₁)) (hz : ∀ B, w₀.heap.size ≤ B → A κ P w₀ n y (Z B) Q) : A κ P w₀ n (.seq (.region id ops true) y) E Q := A.seq fun a w hg hst => by
  obtain ⟨E₁, hr, hC⟩ := h w.heap.size hst.base
  obtain ⟨ds, ht⟩ := hr.trace
  have hd : Below w₀.heap.size w w.drew := (Below.refl _ w).drew
  have hst' : St κ n w.heap.size (E' w.heap.size) a w := ⟨Nat.le_refl _, hst.defers, hst.size, fun t e he => by
    obtain ⟨d, hd1, hd2⟩ := hE w.heap.size (t, e) (look_mem he)
    have h1 := hst.of t d hd1
    rcases hd2 with rfl | rfl
    · exact h1
    · exact ⟨Nat.le_refl _, h1⟩⟩
  have hst0 : St κ n w.heap.size (E' w.heap.size) a w.drew := hst'.grow (Grow.refl w).drew
  refine wpIn_region_any hm (wp_segL htied hf hlate ht hst0 (fun S hS fuel a' w' hfu g h' => ?_) _ _ a w.drew ?_ (start_inv (Nat.zero_le _) htied (by simp) (fun i hi => by simp [hi]) hst0))
  · obtain ⟨m, hmu, E₀, hsub, hkeep, o, ho, E₂, he, hn⟩ := hC S hS
    have h0 : St κ n w.heap.size E₀ a' w' := ⟨h'.base, h'.defers, h'.size, fun t e he => by
      have hm := look_mem he
      exact h'.of t e (look_without (List.all_eq_true.1 hkeep t (List.mem_map.2 ⟨_, hm, rfl⟩)) (hsub _ hm))⟩
    refine wpOpR_step ho fun K hK => he κ a' w' K _ h0 fun a'' w'' g' h'' => hK _ _ (wp_anyE (hn.mono (k := fuel) (by omega)) h'' fun E3 a3 w3 hC3 g3 h3 => ?_)
    have hb : Below w₀.heap.size w w3 := Below.trans (Below.trans hd (Below.mono g hst.base)) (Below.mono (g'.trans g3) hst.base)
    exact hz w.heap.size hst.base a3 w3 (hg.trans hb) (St.subL ⟨Nat.le_trans hst.base h3.base, h3.defers, h3.size, h3.of⟩ hC3)
  · refine Nat.le_trans List.countP_le_length ?_
    simp
end
end Go.Proofs.Ythhmimnkfklhdaa
namespace Go.Proofs.Ythhmimnkfklhdaa
open Go Go.RowKit
set_option linter.unusedVariables false
set_option maxRecDepth 20000
set_option linter.unusedSimpArgs false
theorem fit_one {u : Us} (hu : u.Fit) : Fits [u] := fun v hv => by rw [List.mem_singleton.1 hv]; exact hu

theorem LErr_l1 (us vs : List Us) (u : Us) (hf : Fits us) (hg : Fits vs) (hu : u.Fit) (h : 60 < us.length) : Fn Try.prog 3 [rowD us.length (usR us), rowD vs.length (usR vs), .v (aggV (usV u))] (.v (.bool true)) := by
 refine Fn.of Try.func3 rfl (by kernel_rfl) Try.ntmps3 (by simp) (fun w => [(0, old w.heap.size (rowD us.length (usR us))), (1, old w.heap.size (rowD vs.length (usR vs))), (2, .v (aggV (usV u)))]) (fun w => (Start.old rfl (Start.old rfl (Start.v rfl Start.nil)))) fun w₀ => ?_
 refine GS ?_
 refine TN 0 ?_
 refine RN ?_
 refine ⟨_, _, eff_box (n := 147) (d := 5) (k := 1000005) rfl (by decide), fun b5 hb5 => ?_⟩
 have hBb5 := hb5.1
 refine TL ?_
 refine RA rfl ?_
 refine RN ?_
 refine A.seq ?_
 refine GS ?_
 refine TL ?_
 refine RM rfl ?_
 refine RS (ok_lenRD Try.underlying22 rfl (Le.old _ _)) ?_
 refine RBS rfl rfl rfl (.bool true) (by simp; omega) ?_
 refine RM rfl ?_
 refine RK ?_
 refine RK ?_
 refine RK ?_
 refine RP rfl rfl ?_
 refine RN ?_
 refine A.yes rfl ?_
 refine GS ?_
 refine TL ?_
 refine RS (ok_call lives11_fn Args.nil) ?_
 refine RA rfl ?_
 refine RN ?_
 refine A.ret ?_
 refine End.ret_then ?_
 exact End.ret1 rfl rfl (by first | exact Le.refl _ | exact Le.old _ _)
theorem LErr_l2 (us vs : List Us) (u : Us) (hf : Fits us) (hg : Fits vs) (hu : u.Fit) (h1 : us.length ≤ 60) (h : 60 < vs.length) : Fn Try.prog 3 [rowD us.length (usR us), rowD vs.length (usR vs), .v (aggV (usV u))] (.v (.bool true)) := by
 refine Fn.of Try.func3 rfl (by kernel_rfl) Try.ntmps3 (by simp) (fun w => [(0, old w.heap.size (rowD us.length (usR us))), (1, old w.heap.size (rowD vs.length (usR vs))), (2, .v (aggV (usV u)))]) (fun w => (Start.old rfl (Start.old rfl (Start.v rfl Start.nil)))) fun w₀ => ?_
 refine GS ?_
 refine TN 0 ?_
 refine RN ?_
 refine ⟨_, _, eff_box (n := 147) (d := 5) (k := 1000005) rfl (by decide), fun b5 hb5 => ?_⟩
 have hBb5 := hb5.1
 refine TL ?_
 refine RA rfl ?_
 refine RN ?_
 refine A.seq ?_
 refine GS ?_
 refine TL ?_
 refine RM rfl ?_
 refine RS (ok_lenRD Try.underlying22 rfl (Le.old _ _)) ?_
 refine RBS rfl rfl rfl (.bool false) (by simp; omega) ?_
 refine RM rfl ?_
 refine RQ (ok_move rfl) ?_
 refine RQ (ok_lenRD Try.underlying22 rfl (Le.old _ _)) ?_
 refine RQ (ok_bin rfl rfl rfl) ?_; refine RZ (.bool true) (by simp; omega) ?_
 refine RP rfl rfl ?_
 refine RN ?_
 refine A.yes rfl ?_
 refine GS ?_
 refine TL ?_
 refine RS (ok_call lives11_fn Args.nil) ?_
 refine RA rfl ?_
 refine RN ?_
 refine A.ret ?_
 refine End.ret_then ?_
 exact End.ret1 rfl rfl (by first | exact Le.refl _ | exact Le.old _ _)
set_option maxHeartbeats 4000000 in
theorem LErr_bad (us vs : List Us) (u : Us) (hf : Fits us) (hg : Fits vs) (hu : u.Fit) (h1 : us.length ≤ 60) (h2 : vs.length ≤ 60) (hc : chkU us ≠ 0) : Fn Try.prog 3 [rowD us.length (usR us), rowD vs.length (usR vs), .v (aggV (usV u))] (.v (.bool true)) := by
 refine Fn.of Try.func3 rfl (by kernel_rfl) Try.ntmps3 (by simp) (fun w => [(0, old w.heap.size (rowD us.length (usR us))), (1, old w.heap.size (rowD vs.length (usR vs))), (2, .v (aggV (usV u)))]) (fun w => (Start.old rfl (Start.old rfl (Start.v rfl Start.nil)))) fun w₀ => ?_
 refine GS ?_
 refine TN 0 ?_
 refine RN ?_
 refine ⟨_, _, eff_box (n := 147) (d := 5) (k := 1000005) rfl (by decide), fun b5 hb5 => ?_⟩
 have hBb5 := hb5.1
 refine TL ?_
 refine RA rfl ?_
 refine RN ?_
 refine A.seq ?_
 refine GS ?_
 refine TL ?_
 refine RM rfl ?_
 refine RS (ok_lenRD Try.underlying22 rfl (Le.old _ _)) ?_
 refine RBS rfl rfl rfl (.bool false) (by simp; omega) ?_
 refine RM rfl ?_
 refine RQ (ok_move rfl) ?_
 refine RQ (ok_lenRD Try.underlying22 rfl (Le.old _ _)) ?_
 refine RQ (ok_bin rfl rfl rfl) ?_; refine RZ (.bool false) (by simp; omega) ?_
 refine RP rfl rfl ?_
 refine RN ?_
 refine A.no rfl ?_
 refine A.skip ?_
 refine EN ?_
 refine GS ?_
 refine TL ?_
 refine RM rfl ?_
 refine RS (ok_call (refCheck_fn us hf (Nat.le_trans h1 (by decide))) (Args.cons rfl (Le.old _ _) Args.nil)) ?_
 refine RM rfl ?_
 refine RS (ok_call (refCheck_fn vs hg (Nat.le_trans h2 (by decide))) (Args.cons rfl (Le.old _ _) Args.nil)) ?_
 refine RA rfl ?_
 refine RA rfl ?_
 refine RN ?_
 refine A.dup (k := 1000005) (k' := 1000305) rfl (fun _ _ _ _ h => h) ?_
 refine A.regsLH _ (fun B => (OldH.p (t := 0) rfl (OldH.p (t := 1) rfl (OldH.same (t := 5) rfl (OldH.same (t := 7) rfl (OldH.same (t := 8) rfl (OldH.p (t := 1000005) rfl (OldH.same (t := 1000305) rfl OldH.nil)))))))) 8 [6] (by kernel_rfl) (by kernel_rfl) (by kernel_rfl) (by kernel_rfl) (fun B => [(0, old w₀.heap.size (rowD us.length (usR us))), (1, old w₀.heap.size (rowD vs.length (usR vs))), (1000005, blk b5 31 (usV u)), (7, .v (.int .i64 (chkU us))), (8, .v (.int .i64 (chkU vs))), (5, .v (.pointer (some ⟨b5, 0, none⟩))), (9, freshV B [b5] 35 [.slice none 0 0]), (10, .v (.int .i64 (chkU us)))]) (fun B hB => ?_) (fun B hB => ?_)
 ·refine RM rfl ?_
  refine RS (ok_call (of11_fn us.length (usR us)) (Args.cons rfl ((Le.old _ _).trans (Le.old _ _)) Args.nil)) ?_
  refine RS (ok_loadA (s := 1000305) (by decide) Try.underlying31 rfl (size31.of (usV_length hu)) rfl rfl) ?_
  refine RS (ok_call (Add_bad us u hf hu (Nat.le_trans h1 (by decide)) (by rw [if_pos hc]; exact hc)) (A2 rfl rfl)) ?_; refine RZ (.tuple #[aggV [.slice none 0 0], .int .i64 (chkU us)]) (by rw [if_pos hc]) ?_
  refine RM rfl ?_
  refine RS (ok_extractV (xs := [_, _]) rfl rfl) ?_
  refine RS (ok_extractV (xs := [_, _]) rfl rfl) ?_
  refine RS (ok_allocF [b5] zero35 (Named.cons (s := 1000305) (by decide) rfl Named.nil)) ?_
  refine RN ?_
  intro S hS
  simp only [subs, List.map_cons, List.map_nil, List.cons_append, List.nil_append, List.mem_cons, List.not_mem_nil, or_false] at hS
  rcases hS with rfl | rfl
  ·refine ⟨1, Nat.le_of_ble_eq_true (by kernel_rfl), _, (KC 0 rfl (KC 1 rfl (KC 5 rfl (KC 7 rfl (KC 8 rfl (KC 9 rfl (KC 33 rfl (KC 34 rfl (KC 35 rfl (KC 36 rfl (KC 37 rfl (KC 38 rfl (KC 39 rfl (KC 1000005 rfl (KC 1000305 rfl KN))))))))))))))), by kernel_rfl, _, rfl, _, eff_storeFF (n := 147) (size35.of (rfl)) (Nat.le_refl _) rfl rfl (rfl) (rfl) (fun b hb => (LeftS.cons (t := 0) rfl (Surv.old hb) (LeftS.cons (t := 1) rfl (Surv.old hb) (LV 5 rfl (LV 7 rfl (LV 8 rfl (LV 33 rfl (LeftS.cons (t := 34) rfl (Surv.old hb) (LV 36 rfl (LV 37 rfl (LV 38 rfl (LV 39 rfl (LeftS.cons (t := 1000005) rfl (Surv.old hb) LN))))))))))))), ?_⟩
   refine AnyT.step 9 [] (by kernel_rfl) ?_
   refine NextT.pure (by kernel_rfl) rfl rfl rfl (ok_assign rfl) ?_ ?_
   ·refine AnyT.last (by kernel_rfl) ?_
    exact (SubL.cons (t := 0) rfl (Le.old _ _) (SubL.cons (t := 1) rfl (Le.old _ _) (SubL.cons (t := 1000005) rfl (Le.old _ _) (SubL.cons (t := 7) rfl (Le.refl _) (SubL.cons (t := 8) rfl (Le.refl _) (SubL.cons (t := 5) rfl (Le.refl _) (SubL.cons (t := 9) rfl (Le.refl _) (SubL.cons (t := 10) rfl (Le.refl _) SubL.nil))))))))
   exact trivial
  ·refine ⟨2, Nat.le_of_ble_eq_true (by kernel_rfl), _, (KC 0 rfl (KC 1 rfl (KC 5 rfl (KC 7 rfl (KC 8 rfl (KC 9 rfl (KC 33 rfl (KC 34 rfl (KC 35 rfl (KC 36 rfl (KC 37 rfl (KC 38 rfl (KC 1000005 rfl (KC 1000305 rfl KN)))))))))))))), by kernel_rfl, _, rfl, _, eff_storeFF (n := 147) (size35.of (rfl)) (Nat.le_refl _) rfl rfl (rfl) (rfl) (fun b hb => (LeftS.cons (t := 0) rfl (Surv.old hb) (LeftS.cons (t := 1) rfl (Surv.old hb) (LV 5 rfl (LV 7 rfl (LV 8 rfl (LV 33 rfl (LeftS.cons (t := 34) rfl (Surv.old hb) (LV 36 rfl (LV 37 rfl (LV 38 rfl (LeftS.cons (t := 1000005) rfl (Surv.old hb) LN)))))))))))), ?_⟩
   refine AnyT.step 6 [] (by kernel_rfl) ?_
   refine NextT.pure (by kernel_rfl) rfl rfl rfl (ok_extractV (xs := [_, _]) rfl rfl) ?_ ?_
   ·refine AnyT.step 9 [] (by kernel_rfl) ?_
    refine NextT.pure (by kernel_rfl) rfl rfl rfl (ok_assign rfl) ?_ ?_
    ·refine AnyT.last (by kernel_rfl) ?_
     exact (SubL.cons (t := 0) rfl (Le.old _ _) (SubL.cons (t := 1) rfl (Le.old _ _) (SubL.cons (t := 1000005) rfl (Le.old _ _) (SubL.cons (t := 7) rfl (Le.refl _) (SubL.cons (t := 8) rfl (Le.refl _) (SubL.cons (t := 5) rfl (Le.refl _) (SubL.cons (t := 9) rfl (Le.refl _) (SubL.cons (t := 10) rfl (Le.refl _) SubL.nil))))))))
    exact trivial
   exact trivial
 ·refine A.openFreshV (t := 9) (k := 1000009) rfl fun b9 hBr9 hLt9 => ?_
  have hBb9 : w₀.heap.size ≤ b9 := by omega
  have hlt_b5_b9 := hLt9 b5 (by simp)
  refine GS ?_
  refine TN 8 ?_
  refine RM rfl ?_
  refine RS (ok_call (of11_fn us.length (usR us)) (Args.cons rfl (Le.old _ _) Args.nil)) ?_
  refine RM rfl ?_
  refine RS (ok_call (of11_fn vs.length (usR vs)) (Args.cons rfl (Le.old _ _) Args.nil)) ?_
  refine RS (ok_call (Merge_bad us vs hf hg (Nat.le_trans h1 (by decide)) (Nat.le_trans h2 (by decide)) (by rw [if_pos hc]; exact hc)) (A2 rfl rfl)) ?_; refine RZ (.tuple #[aggV [.slice none 0 0], .int .i64 (chkU us)]) (by rw [if_pos hc]) ?_
  refine RM rfl ?_
  refine RS (ok_extractV (xs := [_, _]) rfl rfl) ?_
  refine RS (ok_extractV (xs := [_, _]) rfl rfl) ?_
  refine RN ?_
  refine ⟨_, _, eff_alloc (n := 147) (d := 11) (k := 1000011) zero35 (by decide), fun b11 hb11 => ?_⟩
  have hBb11 := hb11.1
  have hlt_b9_b11 : b9 < b11 := hb11.2 1000009 _ _ _ rfl
  refine TF 9 ?_
  refine RN ?_
  refine ⟨_, eff_storeA (n := 147) (s := 1000011) (size35.of (rfl)) rfl rfl (rfl) hBb11 rfl (rfl) (LO 0 rfl (LO 1 rfl (LV 5 rfl (LV 7 rfl (LV 8 rfl (LV 9 rfl (LV 10 rfl (LV 11 rfl (LV 47 rfl (LT 1000005 rfl (LB 1000009 rfl LN))))))))))), ?_⟩
  refine TL ?_
  refine RA rfl ?_
  refine RN ?_
  refine A.sub (KC 0 rfl (KC 1 rfl (KC 5 rfl (KC 7 rfl (KC 8 rfl (KC 9 rfl (KC 10 rfl (KC 11 rfl (KC 12 rfl (KC 1000005 rfl (KC 1000009 rfl (KC 1000011 rfl KN)))))))))))) ?_
  refine GS ?_
  refine TL ?_
  refine RM rfl ?_
  refine RS (ok_call (of11_fn us.length (usR us)) (Args.cons rfl (Le.old _ _) Args.nil)) ?_
  refine RS (ok_call (Text_bad us hf (Nat.le_trans h1 (by decide)) hc) (A1 rfl)) ?_
  refine RM rfl ?_
  refine RS (ok_extractV (xs := [_, _]) rfl rfl) ?_
  refine RS (ok_extractV (xs := [_, _]) rfl rfl) ?_
  refine RA rfl ?_
  refine RA rfl ?_
  refine RN ?_
  refine GS ?_
  refine TL ?_
  refine RM rfl ?_
  refine RS (ok_call (of11_fn us.length (usR us)) (Args.cons rfl (Le.old _ _) Args.nil)) ?_
  refine RS (ok_call (Repeats_bad us hf (Nat.le_trans h1 (by decide)) hc) (A1 rfl)) ?_
  refine RM rfl ?_
  refine RS (ok_extractV (xs := [_, _, _]) rfl rfl) ?_
  refine RS (ok_extractV (xs := [_, _, _]) rfl rfl) ?_
  refine RS (ok_extractV (xs := [_, _, _]) rfl rfl) ?_
  refine RA rfl ?_
  refine RA rfl ?_
  refine RA rfl ?_
  refine RN ?_
  refine GS ?_
  refine TL ?_
  refine RM rfl ?_
  refine RM rfl ?_
  refine RA rfl ?_
  refine RA rfl ?_
  refine RN ?_
  refine A.seq ?_
  refine GS ?_
  refine TL ?_
  refine RM rfl ?_
  refine RBS rfl rfl rfl (.bool false) (by simpa using hc) ?_
  refine RN ?_
  refine A.no rfl ?_
  refine A.skip ?_
  refine EN ?_
  refine A.seq ?_
  refine GS ?_
  refine TL ?_
  refine RM rfl ?_
  refine RS (ok_call (of11_fn us.length (usR us)) (Args.cons rfl (Le.old _ _) Args.nil)) ?_
  refine RS (ok_call (Check_fn us hf (Nat.le_trans h1 (by decide))) (A1 rfl)) ?_
  refine RM rfl ?_
  refine RBS rfl rfl rfl (.bool false) (by simp) ?_
  refine RM rfl ?_
  refine RQ (ok_move rfl) ?_
  refine RQ (ok_move rfl) ?_
  refine RQ (ok_bin rfl rfl rfl) ?_; refine RZ (.bool false) (by simp) ?_
  refine RP rfl rfl ?_
  refine RM rfl ?_
  refine RQ (ok_move rfl) ?_
  refine RQ (ok_move rfl) ?_
  refine RQ (ok_bin rfl rfl rfl) ?_; refine RZ (.bool false) (by simp) ?_
  refine RP rfl rfl ?_
  refine RM rfl ?_
  refine RQ (ok_move rfl) ?_
  refine RQ (ok_move rfl) ?_
  refine RQ (ok_bin rfl rfl rfl) ?_; refine RZ (.bool false) (by simp) ?_
  refine RP rfl rfl ?_
  refine RM rfl ?_
  refine RQ (ok_move rfl) ?_
  refine RQ (ok_bin rfl rfl rfl) ?_; refine RZ (.bool true) (by simpa using hc) ?_
  refine RQ (ok_move rfl) ?_
  refine RQ (ok_move rfl) ?_
  refine RQ (ok_move rfl) ?_
  refine RQ (ok_move rfl) ?_
  refine RQ (ok_neqT0 (l := []) rfl rfl) ?_; refine RZ (.bool false) (by rfl) ?_
  refine RQ (ok_pick rfl rfl) ?_
  refine RQ (ok_pick rfl rfl) ?_
  refine RP rfl rfl ?_
  refine RN ?_
  refine A.sub (KC 0 rfl (KC 1 rfl (KC 5 rfl (KC 9 rfl (KC 11 rfl (KC 18 rfl (KC 19 rfl (KC 99 rfl (KC 1000005 rfl (KC 1000009 rfl (KC 1000011 rfl KN))))))))))) ?_
  refine A.no rfl ?_
  refine A.skip ?_
  refine EN ?_
  refine A.seq ?_
  refine GD ?_
  refine TL ?_
  refine RM rfl ?_
  refine RBS rfl rfl rfl (.bool false) (by simpa using hc) ?_
  refine RM rfl ?_
  refine RK ?_
  refine RK ?_
  refine RK ?_
  refine RK ?_
  refine RK ?_
  refine RK ?_
  refine RK ?_
  refine RK ?_
  refine RK ?_
  refine RP rfl rfl ?_
  refine RM rfl ?_
  refine RQ (ok_move rfl) ?_
  refine RQ (ok_bin rfl rfl rfl) ?_; refine RZ (.bool true) (by simpa using hc) ?_
  refine RQ (ok_move rfl) ?_
  refine RQ (ok_field field35_0 (by decide) rfl) ?_
  refine RQ (ok_loadV (s := 1000009) (by decide) Try.underlying22 rfl rfl rfl (rfl)) ?_
  refine RQ (ok_lenV Try.underlying22 rfl) ?_
  refine RQ (ok_bin rfl rfl rfl) ?_; refine RZ (.bool false) (by rfl) ?_
  refine RQ (ok_pick rfl rfl) ?_
  refine RP rfl rfl ?_
  refine RN ?_
  refine A.no rfl ?_
  refine A.skip ?_
  refine EN ?_
  refine GD ?_
  refine TL ?_
  refine RM rfl ?_
  refine RBS rfl rfl rfl (.bool true) (by simpa using hc) ?_
  refine RM rfl ?_
  refine RQ (ok_field field35_0 (by decide) rfl) ?_
  refine RQ (ok_loadV (s := 1000011) (by decide) Try.underlying22 rfl rfl rfl (rfl)) ?_
  refine RQ (ok_lenV Try.underlying22 rfl) ?_
  refine RQ (ok_bin rfl rfl rfl) ?_; refine RZ (.bool true) (by rfl) ?_
  refine RP rfl rfl ?_
  refine RM rfl ?_
  refine RK ?_
  refine RK ?_
  refine RK ?_
  refine RunK.skippedU rfl rfl rfl rfl ?_
  refine RunK.skippedU rfl rfl rfl rfl ?_
  refine RunK.skippedU rfl rfl rfl rfl ?_
  refine RunK.skippedU rfl rfl rfl rfl ?_
  refine RunK.skippedU rfl rfl rfl rfl ?_
  refine RunK.skippedU rfl rfl rfl rfl ?_
  refine RunK.skippedU rfl rfl rfl rfl ?_
  refine RK ?_
  refine RP rfl rfl ?_
  refine RM rfl ?_
  refine RQ (ok_call lives11_fn Args.nil) ?_
  refine RP rfl rfl ?_
  refine RA rfl ?_
  refine RN ?_
  refine A.sub (KC 6 rfl (KC 1000005 rfl (KC 1000009 rfl (KC 1000011 rfl KN)))) ?_
  refine A.ret ?_
  exact End.ret1 rfl rfl (by first | exact Le.refl _ | exact Le.old _ _)
set_option maxHeartbeats 4000000 in
theorem LErr_gg (us vs : List Us) (u : Us) (hf : Fits us) (hg : Fits vs) (hu : u.Fit) (h1 : us.length ≤ 60) (h2 : vs.length ≤ 60) (hc : chkU us = 0) (hcu : chkU [u] = 0) (hcv : chkU vs = 0) : Fn Try.prog 3 [rowD us.length (usR us), rowD vs.length (usR vs), .v (aggV (usV u))] (.v (.bool true)) := by
 refine Fn.of Try.func3 rfl (by kernel_rfl) Try.ntmps3 (by simp) (fun w => [(0, old w.heap.size (rowD us.length (usR us))), (1, old w.heap.size (rowD vs.length (usR vs))), (2, .v (aggV (usV u)))]) (fun w => (Start.old rfl (Start.old rfl (Start.v rfl Start.nil)))) fun w₀ => ?_
 refine GS ?_
 refine TN 0 ?_
 refine RN ?_
 refine ⟨_, _, eff_box (n := 147) (d := 5) (k := 1000005) rfl (by decide), fun b5 hb5 => ?_⟩
 have hBb5 := hb5.1
 refine TL ?_
 refine RA rfl ?_
 refine RN ?_
 refine A.seq ?_
 refine GS ?_
 refine TL ?_
 refine RM rfl ?_
 refine RS (ok_lenRD Try.underlying22 rfl (Le.old _ _)) ?_
 refine RBS rfl rfl rfl (.bool false) (by simp; omega) ?_
 refine RM rfl ?_
 refine RQ (ok_move rfl) ?_
 refine RQ (ok_lenRD Try.underlying22 rfl (Le.old _ _)) ?_
 refine RQ (ok_bin rfl rfl rfl) ?_; refine RZ (.bool false) (by simp; omega) ?_
 refine RP rfl rfl ?_
 refine RN ?_
 refine A.no rfl ?_
 refine A.skip ?_
 refine EN ?_
 refine GS ?_
 refine TL ?_
 refine RM rfl ?_
 refine RS (ok_call (refCheck_fn us hf (Nat.le_trans h1 (by decide))) (Args.cons rfl (Le.old _ _) Args.nil)) ?_; refine RZ (.int .i64 0) (congrArg (Value.int .i64) hc) ?_
 refine RM rfl ?_
 refine RS (ok_call (refCheck_fn vs hg (Nat.le_trans h2 (by decide))) (Args.cons rfl (Le.old _ _) Args.nil)) ?_; refine RZ (.int .i64 0) (congrArg (Value.int .i64) hcv) ?_
 refine RA rfl ?_
 refine RA rfl ?_
 refine RN ?_
 refine A.dup (k := 1000005) (k' := 1000305) rfl (fun _ _ _ _ h => h) ?_
 refine A.regsLH _ (fun B => (OldH.p (t := 0) rfl (OldH.p (t := 1) rfl (OldH.same (t := 5) rfl (OldH.same (t := 7) rfl (OldH.same (t := 8) rfl (OldH.p (t := 1000005) rfl (OldH.same (t := 1000305) rfl OldH.nil)))))))) 8 [6] (by kernel_rfl) (by kernel_rfl) (by kernel_rfl) (by kernel_rfl) (fun B => [(0, old w₀.heap.size (rowD us.length (usR us))), (1, old w₀.heap.size (rowD vs.length (usR vs))), (1000005, blk b5 31 (usV u)), (7, .v (.int .i64 0)), (8, .v (.int .i64 0)), (5, .v (.pointer (some ⟨b5, 0, none⟩))), (9, freshN B [b5] 35 31 (us.length + 1) (usR (us ++ [u]))), (10, .v (.int .i64 0))]) (fun B hB => ?_) (fun B hB => ?_)
 ·refine RM rfl ?_
  refine RS (ok_call (of11_fn us.length (usR us)) (Args.cons rfl ((Le.old _ _).trans (Le.old _ _)) Args.nil)) ?_
  refine RS (ok_loadA (s := 1000305) (by decide) Try.underlying31 rfl (size31.of (usV_length hu)) rfl rfl) ?_
  refine RS (ok_callB (Add_okB us u hf hu (Nat.le_trans h1 (by decide)) hc hcu (by omega)) newD_mono (A2 rfl rfl)) ?_
  refine RM rfl ?_
  refine RS (ok_extractN (f := fun b => [aggV [.slice (some ⟨b, 0, none⟩) (us.length + 1) (us.length + 1)], .int .i64 0]) rfl (fun _ => rfl)) ?_
  refine RS (ok_extractC (f := fun b => [aggV [.slice (some ⟨b, 0, none⟩) (us.length + 1) (us.length + 1)], .int .i64 0]) rfl (fun _ => rfl)) ?_
  refine RS (ok_allocF [b5] zero35 (Named.cons (s := 1000305) (by decide) rfl Named.nil)) ?_
  refine RN ?_
  intro S hS
  simp only [subs, List.map_cons, List.map_nil, List.cons_append, List.nil_append, List.mem_cons, List.not_mem_nil, or_false] at hS
  rcases hS with rfl | rfl
  ·refine ⟨1, Nat.le_of_ble_eq_true (by kernel_rfl), _, (KC 0 rfl (KC 1 rfl (KC 5 rfl (KC 7 rfl (KC 8 rfl (KC 9 rfl (KC 33 rfl (KC 34 rfl (KC 35 rfl (KC 36 rfl (KC 37 rfl (KC 38 rfl (KC 39 rfl (KC 1000005 rfl (KC 1000305 rfl KN))))))))))))))), by kernel_rfl, _, rfl, _, eff_storeFM (n := 147) size35 (Nat.le_refl _) rfl rfl rfl (by decide) (Nat.le_refl _) (fun b hb => (LeftS.cons (t := 0) rfl (Surv.old hb) (LeftS.cons (t := 1) rfl (Surv.old hb) (LV 5 rfl (LV 7 rfl (LV 8 rfl (LeftS.cons (t := 33) rfl (Surv.newD (by decide)) (LeftS.cons (t := 34) rfl (Surv.old hb) (LV 36 rfl (LV 39 rfl (LeftS.cons (t := 1000005) rfl (Surv.old hb) LN))))))))))), ?_⟩
   refine AnyT.step 9 [] (by kernel_rfl) ?_
   refine NextT.pure (by kernel_rfl) rfl rfl rfl (ok_assign rfl) ?_ ?_
   ·refine AnyT.last (by kernel_rfl) ?_
    exact (SubL.cons (t := 0) rfl (Le.old _ _) (SubL.cons (t := 1) rfl (Le.old _ _) (SubL.cons (t := 1000005) rfl (Le.old _ _) (SubL.cons (t := 7) rfl (Le.refl _) (SubL.cons (t := 8) rfl (Le.refl _) (SubL.cons (t := 5) rfl (Le.refl _) (SubL.cons (t := 9) rfl (Le.refl _) (SubL.cons (t := 10) rfl (Le.refl _) SubL.nil))))))))
   exact trivial
  ·refine ⟨2, Nat.le_of_ble_eq_true (by kernel_rfl), _, (KC 0 rfl (KC 1 rfl (KC 5 rfl (KC 7 rfl (KC 8 rfl (KC 9 rfl (KC 33 rfl (KC 34 rfl (KC 35 rfl (KC 36 rfl (KC 37 rfl (KC 38 rfl (KC 1000005 rfl (KC 1000305 rfl KN)))))))))))))), by kernel_rfl, _, rfl, _, eff_storeFM (n := 147) size35 (Nat.le_refl _) rfl rfl rfl (by decide) (Nat.le_refl _) (fun b hb => (LeftS.cons (t := 0) rfl (Surv.old hb) (LeftS.cons (t := 1) rfl (Surv.old hb) (LV 5 rfl (LV 7 rfl (LV 8 rfl (LeftS.cons (t := 33) rfl (Surv.newD (by decide)) (LeftS.cons (t := 34) rfl (Surv.old hb) (LV 36 rfl (LeftS.cons (t := 1000005) rfl (Surv.old hb) LN)))))))))), ?_⟩
   refine AnyT.step 6 [] (by kernel_rfl) ?_
   refine NextT.pure (by kernel_rfl) rfl rfl rfl (ok_extractC (f := fun b => [aggV [.slice (some ⟨b, 0, none⟩) (us.length + 1) (us.length + 1)], .int .i64 0]) rfl (fun _ => rfl)) ?_ ?_
   ·refine AnyT.step 9 [] (by kernel_rfl) ?_
    refine NextT.pure (by kernel_rfl) rfl rfl rfl (ok_assign rfl) ?_ ?_
    ·refine AnyT.last (by kernel_rfl) ?_
     exact (SubL.cons (t := 0) rfl (Le.old _ _) (SubL.cons (t := 1) rfl (Le.old _ _) (SubL.cons (t := 1000005) rfl (Le.old _ _) (SubL.cons (t := 7) rfl (Le.refl _) (SubL.cons (t := 8) rfl (Le.refl _) (SubL.cons (t := 5) rfl (Le.refl _) (SubL.cons (t := 9) rfl (Le.refl _) (SubL.cons (t := 10) rfl (Le.refl _) SubL.nil))))))))
    exact trivial
   exact trivial
 ·refine A.openFreshN (t := 9) (k := 1000009) (k' := 1000309) rfl fun b9 c9 hBr9 hCr9 hLt9 => ?_
  have hBb9 : w₀.heap.size ≤ b9 := by omega
  have hlt_b5_b9 := hLt9 b5 (by simp)
  refine GS ?_
  refine TN 4 ?_
  refine RM rfl ?_
  refine RS (ok_call (of11_fn us.length (usR us)) (Args.cons rfl (Le.old _ _) Args.nil)) ?_
  refine RM rfl ?_
  refine RS (ok_call (of11_fn vs.length (usR vs)) (Args.cons rfl (Le.old _ _) Args.nil)) ?_
  refine RN ?_
  refine ⟨_, _, eff_name (n := 147) (d := 45) (k := 1000045) rfl rfl (fun B' => ok_callB (Merge_okB us vs hf hg (Nat.le_trans h1 (by decide)) (Nat.le_trans h2 (by decide)) hc hcv (by omega)) newD_mono (A2 rfl rfl)) (by decide) (by decide), fun b45 hb45 => ?_⟩
  have hBb45 := hb45.1
  have hlt_b5_b45 : b5 < b45 := hb45.2 1000005 _ _ _ rfl
  have hlt_b9_b45 : b9 < b45 := hb45.2 1000009 _ _ _ rfl
  have hlt_c9_b45 : c9 < b45 := hb45.2 1000309 _ _ _ rfl
  refine TN 8 ?_
  refine RM rfl ?_
  refine RS (ok_extractV (xs := [_, _]) rfl rfl) ?_
  refine RS (ok_extractV (xs := [_, _]) rfl rfl) ?_
  refine RN ?_
  refine ⟨_, _, eff_alloc (n := 147) (d := 11) (k := 1000011) zero35 (by decide), fun b11 hb11 => ?_⟩
  have hBb11 := hb11.1
  have hlt_b9_b11 : b9 < b11 := hb11.2 1000009 _ _ _ rfl
  refine TF 9 ?_
  refine RN ?_
  refine ⟨_, eff_storeA (n := 147) (s := 1000011) (size35.of (rfl)) rfl rfl (rfl) hBb11 rfl (rfl) (LO 0 rfl (LO 1 rfl (LV 5 rfl (LV 7 rfl (LV 8 rfl (LV 9 rfl (LV 10 rfl (LV 11 rfl (LV 47 rfl (LT 1000005 rfl (LB 1000009 rfl (LT 1000045 rfl (LT 1000309 rfl LN))))))))))))), ?_⟩
  refine TL ?_
  refine RA rfl ?_
  refine RN ?_
  refine A.sub (KC 0 rfl (KC 1 rfl (KC 5 rfl (KC 7 rfl (KC 8 rfl (KC 9 rfl (KC 10 rfl (KC 11 rfl (KC 12 rfl (KC 1000005 rfl (KC 1000009 rfl (KC 1000011 rfl (KC 1000045 rfl (KC 1000309 rfl KN)))))))))))))) ?_
  refine GS ?_
  refine TL ?_
  refine RM rfl ?_
  refine RS (ok_call (of11_fn us.length (usR us)) (Args.cons rfl (Le.old _ _) Args.nil)) ?_
  refine RS (ok_call (Text_ok us hf (Nat.le_trans h1 (by decide)) hc (by omega)) (A1 rfl)) ?_
  refine RM rfl ?_
  refine RS (ok_extractV (xs := [_, _]) rfl rfl) ?_
  refine RS (ok_extractV (xs := [_, _]) rfl rfl) ?_
  refine RA rfl ?_
  refine RA rfl ?_
  refine RN ?_
  refine GS ?_
  refine TL ?_
  refine RM rfl ?_
  refine RS (ok_call (of11_fn us.length (usR us)) (Args.cons rfl (Le.old _ _) Args.nil)) ?_
  refine RS (ok_call (Repeats_fn us hf (Nat.le_trans h1 (by decide)) hc) (A1 rfl)) ?_
  refine RM rfl ?_
  refine RS (ok_extractV (xs := [_, _, _]) rfl rfl) ?_
  refine RS (ok_extractV (xs := [_, _, _]) rfl rfl) ?_
  refine RS (ok_extractV (xs := [_, _, _]) rfl rfl) ?_
  refine RA rfl ?_
  refine RA rfl ?_
  refine RA rfl ?_
  refine RN ?_
  refine GS ?_
  refine TL ?_
  refine RM rfl ?_
  refine RM rfl ?_
  refine RA rfl ?_
  refine RA rfl ?_
  refine RN ?_
  refine A.seq ?_
  refine GS ?_
  refine TL ?_
  refine RM rfl ?_
  refine RBS rfl rfl rfl (.bool true) (by rfl) ?_
  refine RN ?_
  refine A.yes rfl ?_
  refine GS ?_
  refine TL ?_
  refine RM rfl ?_
  refine RA rfl ?_
  refine RN ?_
  refine A.sub (KC 0 rfl (KC 1 rfl (KC 5 rfl (KC 7 rfl (KC 9 rfl (KC 10 rfl (KC 11 rfl (KC 12 rfl (KC 13 rfl (KC 14 rfl (KC 17 rfl (KC 19 rfl (KC 1000005 rfl (KC 1000009 rfl (KC 1000011 rfl (KC 1000045 rfl (KC 1000309 rfl KN))))))))))))))))) ?_
  refine GE ?_
  refine TL ?_
  refine RS (ok_loadA (s := 1000005) (by decide) Try.underlying31 rfl (size31.of (usV_length hu)) rfl rfl) ?_
  refine RS (ok_build1K Try.underlying22 infoU rfl (by decide) (by decide) rfl (usV_length hu)) ?_
  refine RS (ok_call (refCheck_fn [u] (fit_one hu) (show 1 ≤ 1099511627776 by decide)) (Args.cons rfl (oneP_rowD.trans (Le.eq (congrArg (rowD 1) (usR_one u).symm))) Args.nil)) ?_; refine RZ (.int .i64 0) (congrArg (Value.int .i64) hcu) ?_
  refine RA rfl ?_
  refine RN ?_
  refine EN ?_
  refine A.seq ?_
  refine GS ?_
  refine TL ?_
  refine RM rfl ?_
  refine RS (ok_call (of11_fn us.length (usR us)) (Args.cons rfl (Le.old _ _) Args.nil)) ?_
  refine RS (ok_call (Check_fn us hf (Nat.le_trans h1 (by decide))) (A1 rfl)) ?_; refine RZ (.int .i64 0) (congrArg (Value.int .i64) hc) ?_
  refine RM rfl ?_
  refine RBS rfl rfl rfl (.bool false) (by simp) ?_
  refine RM rfl ?_
  refine RQ (ok_move rfl) ?_
  refine RQ (ok_move rfl) ?_
  refine RQ (ok_bin rfl rfl rfl) ?_; refine RZ (.bool false) (by simp) ?_
  refine RP rfl rfl ?_
  refine RM rfl ?_
  refine RQ (ok_move rfl) ?_
  refine RQ (ok_move rfl) ?_
  refine RQ (ok_bin rfl rfl rfl) ?_; refine RZ (.bool false) (by simp) ?_
  refine RP rfl rfl ?_
  refine RM rfl ?_
  refine RQ (ok_move rfl) ?_
  refine RQ (ok_move rfl) ?_
  refine RQ (ok_bin rfl rfl rfl) ?_; refine RZ (.bool false) (by simp) ?_
  refine RP rfl rfl ?_
  refine RM rfl ?_
  refine RQ (ok_move rfl) ?_
  refine RQ (ok_bin rfl rfl rfl) ?_; refine RZ (.bool false) (by rfl) ?_
  refine RQ (ok_move rfl) ?_
  refine RK ?_
  refine RK ?_
  refine RunK.skippedU rfl rfl rfl rfl ?_
  refine RunK.skippedU rfl rfl rfl rfl ?_
  refine RK ?_
  refine RQ (ok_pick rfl rfl) ?_
  refine RP rfl rfl ?_
  refine RN ?_
  refine A.sub (KC 0 rfl (KC 1 rfl (KC 5 rfl (KC 9 rfl (KC 11 rfl (KC 18 rfl (KC 19 rfl (KC 99 rfl (KC 1000005 rfl (KC 1000009 rfl (KC 1000011 rfl (KC 1000045 rfl (KC 1000309 rfl KN))))))))))))) ?_
  refine A.no rfl ?_
  refine A.skip ?_
  refine EN ?_
  refine A.seq ?_
  refine A.regsX [⟨false, true, none⟩, ⟨false, true, none⟩, ⟨false, true, none⟩, ⟨false, true, none⟩, ⟨false, false, some 9⟩, ⟨false, true, none⟩, ⟨false, false, some 9⟩, ⟨false, true, none⟩, ⟨false, false, some 9⟩, ⟨true, false, none⟩, ⟨false, true, none⟩, ⟨false, true, none⟩, ⟨false, true, none⟩, ⟨false, true, none⟩, ⟨false, true, none⟩, ⟨false, true, none⟩, ⟨false, true, none⟩, ⟨false, true, none⟩, ⟨false, true, none⟩, ⟨false, true, none⟩, ⟨false, true, none⟩, ⟨false, true, none⟩, ⟨false, true, none⟩] _ (fun B => (OldH.p (t := 0) rfl (OldH.p (t := 1) rfl (OldH.same (t := 5) rfl (OldH.same (t := 9) rfl (OldH.same (t := 11) rfl (OldH.same (t := 18) rfl (OldH.same (t := 19) rfl (OldH.same (t := 99) rfl (OldH.same (t := 1000005) rfl (OldH.same (t := 1000009) rfl (OldH.same (t := 1000011) rfl (OldH.same (t := 1000045) rfl (OldH.same (t := 1000309) rfl OldH.nil)))))))))))))) (by kernel_rfl) (by kernel_rfl) (by kernel_rfl) (by kernel_rfl) (fun B hlt => (StaysL.cons (k := 0) (Stays.old _ _) (StaysL.cons (k := 1) (Stays.old _ _) (StaysL.cons (k := 5) (Stays.v _ _) (StaysL.cons (k := 9) (Stays.v _ _) (StaysL.cons (k := 11) (Stays.v _ _) (StaysL.cons (k := 18) (Stays.v _ _) (StaysL.cons (k := 19) (Stays.v _ _) (StaysL.cons (k := 99) (Stays.v _ _) (StaysL.cons (k := 1000005) (Stays.blk (hlt 1000005 _ _ _ rfl)) (StaysL.cons (k := 1000009) (Stays.blk (hlt 1000009 _ _ _ rfl)) (StaysL.cons (k := 1000011) (Stays.blk (hlt 1000011 _ _ _ rfl)) (StaysL.cons (k := 1000045) (Stays.blk (hlt 1000045 _ _ _ rfl)) (StaysL.cons (k := 1000309) (Stays.blk (hlt 1000309 _ _ _ rfl)) StaysL.nil)))))))))))))) (fun B hB hlt => ?_)
  refine RunX.step rfl rfl (ok_move rfl) (fun _ => Stays.v _ _) ?_
  refine RunX.step rfl rfl (ok_bin rfl rfl rfl) (fun _ => Stays.v _ _) ?_; refine RunX.as (.bool true) (by rfl) ?_
  refine RunX.step rfl rfl (ok_move rfl) (fun _ => Stays.v _ _) ?_
  refine RunX.guarded rfl rfl rfl rfl (OpOk.hdBlkO (ok_loadA (s := 1000009) (by decide) Try.underlying35 rfl (size35.of (rfl)) rfl rfl) (k := 1000309) (by decide) rfl (hlt 1000309 _ _ _ rfl) (Nat.le_refl _)) (fun _ => Stays.old _ _) ?_
  refine RunX.guarded rfl rfl rfl rfl (ok_build0P Try.underlying22 infoU) (fun h => by cases h) ?_
  refine RunX.guarded rfl rfl rfl rfl (ok_move rfl) (fun _ => Stays.old _ _) ?_
  refine RunX.guarded rfl rfl rfl rfl (ok_append0P Try.underlying22 infoU (by decide) (by decide) rfl rfl rfl ((Le.old _ _).trans (Le.old _ _)) (usR_length hf) (by omega)) (fun h => by cases h) ?_
  refine RunX.guarded rfl rfl rfl rfl (ok_loadA (s := 1000005) (by decide) Try.underlying31 rfl (size31.of (usV_length hu)) rfl rfl) (fun _ => Stays.v _ _) ?_
  refine RunX.guarded rfl rfl rfl rfl (ok_build1K Try.underlying22 infoU rfl (by decide) (by decide) rfl (usV_length hu)) (fun h => by cases h) ?_
  refine RunX.effg rfl rfl rfl rfl (okx_appendP Try.underlying22 infoU (by decide) (by decide) rfl rfl rfl oneP_rowD (usV_one u) ((usV_length hu).trans (Nat.one_mul 20).symm) (by omega)) (fun h => by cases h) ?_
  refine RunX.guarded rfl rfl rfl rfl (ok_call (same11_fn (us ++ [u]) (hf.append (fit_one hu)) (by rw [List.length_append]; exact Nat.le_trans (Nat.add_le_add_right h1 1) (by decide))) (Args.cons rfl ((Le.old _ _).trans (Le.eq (by rw [List.length_append]; rfl))) (Args.cons rfl (ownP_rowD.trans (Le.eq (by rw [usR_append, usR_one, List.length_append]; rfl))) Args.nil))) (fun _ => Stays.v _ _) ?_
  refine RunX.guarded rfl rfl rfl rfl (ok_not rfl) (fun _ => Stays.v _ _) ?_
  refine RunX.step rfl rfl (ok_pick rfl rfl) (fun _ => Stays.v _ _) ?_
  refine RunX.step rfl rfl (ok_move rfl) (fun _ => Stays.v _ _) ?_
  refine RunX.guarded rfl rfl rfl rfl (ok_move rfl) (fun _ => Stays.v _ _) ?_
  refine RunX.guarded rfl rfl rfl rfl (ok_bin rfl rfl rfl) (fun _ => Stays.v _ _) ?_; refine RunX.as (.bool false) (by rfl) ?_
  refine RunX.guarded rfl rfl rfl rfl (ok_move rfl) (fun _ => Stays.v _ _) ?_
  refine RunX.skipped rfl rfl rfl rfl rfl ?_
  refine RunX.skipped rfl rfl rfl rfl rfl ?_
  refine RunX.skipped rfl rfl rfl rfl rfl ?_
  refine RunX.skipped rfl rfl rfl rfl rfl ?_
  refine RunX.guarded rfl rfl rfl rfl (ok_pick rfl rfl) (fun _ => Stays.v _ _) ?_
  refine RunX.step rfl rfl (ok_pick rfl rfl) (fun _ => Stays.v _ _) ?_
  refine RunX.last (KC 0 rfl (KC 1 rfl (KC 11 rfl (KC 19 rfl (KC 122 rfl (KC 1000005 rfl (KC 1000009 rfl (KC 1000011 rfl (KC 1000045 rfl (KC 1000309 rfl KN)))))))))) (by kernel_rfl) ?_
  refine A.subL (SubL.cons (t := 0) rfl (Le.old _ _) (SubL.cons (t := 1) rfl (Le.old _ _) (SubL.cons (t := 11) rfl (Le.refl _) (SubL.cons (t := 19) rfl (Le.refl _) (SubL.cons (t := 122) rfl (Le.refl _) (SubL.cons (t := 1000005) rfl (Le.refl _) (SubL.cons (t := 1000009) rfl (Le.refl _) (SubL.cons (t := 1000011) rfl (Le.refl _) (SubL.cons (t := 1000045) rfl (Le.refl _) (SubL.cons (t := 1000309) rfl (Le.refl _) SubL.nil)))))))))) ?_
  refine A.no rfl ?_
  refine A.skip ?_
  refine EN ?_
  refine A.regsX [⟨false, true, none⟩, ⟨false, true, none⟩, ⟨false, true, none⟩, ⟨false, true, none⟩, ⟨false, true, none⟩, ⟨false, true, none⟩, ⟨false, true, none⟩, ⟨false, true, none⟩, ⟨false, true, none⟩, ⟨false, true, none⟩, ⟨false, true, none⟩, ⟨false, true, none⟩, ⟨false, true, none⟩, ⟨false, false, some 17⟩, ⟨false, true, none⟩, ⟨false, false, some 17⟩, ⟨false, true, none⟩, ⟨true, false, none⟩, ⟨false, true, none⟩, ⟨false, true, none⟩, ⟨false, true, none⟩, ⟨false, true, none⟩, ⟨false, true, none⟩, ⟨false, true, none⟩, ⟨false, true, none⟩] _ (fun B => (OldH.p (t := 0) rfl (OldH.p (t := 1) rfl (OldH.same (t := 11) rfl (OldH.same (t := 19) rfl (OldH.same (t := 122) rfl (OldH.same (t := 1000005) rfl (OldH.same (t := 1000009) rfl (OldH.same (t := 1000011) rfl (OldH.same (t := 1000045) rfl (OldH.same (t := 1000309) rfl OldH.nil))))))))))) (by kernel_rfl) (by kernel_rfl) (by kernel_rfl) (by kernel_rfl) (fun B hlt => (StaysL.cons (k := 0) (Stays.old _ _) (StaysL.cons (k := 1) (Stays.old _ _) (StaysL.cons (k := 11) (Stays.v _ _) (StaysL.cons (k := 19) (Stays.v _ _) (StaysL.cons (k := 122) (Stays.v _ _) (StaysL.cons (k := 1000005) (Stays.blk (hlt 1000005 _ _ _ rfl)) (StaysL.cons (k := 1000009) (Stays.blk (hlt 1000009 _ _ _ rfl)) (StaysL.cons (k := 1000011) (Stays.blk (hlt 1000011 _ _ _ rfl)) (StaysL.cons (k := 1000045) (Stays.blk (hlt 1000045 _ _ _ rfl)) (StaysL.cons (k := 1000309) (Stays.blk (hlt 1000309 _ _ _ rfl)) StaysL.nil))))))))))) (fun B hB hlt => ?_)
  refine RunX.step rfl rfl (ok_move rfl) (fun _ => Stays.v _ _) ?_
  refine RunX.step rfl rfl (ok_bin rfl rfl rfl) (fun _ => Stays.v _ _) ?_; refine RunX.as (.bool false) (by rfl) ?_
  refine RunX.step rfl rfl (ok_move rfl) (fun _ => Stays.v _ _) ?_
  refine RunX.skipped rfl rfl rfl rfl rfl ?_
  refine RunX.skipped rfl rfl rfl rfl rfl ?_
  refine RunX.skipped rfl rfl rfl rfl rfl ?_
  refine RunX.skipped rfl rfl rfl rfl rfl ?_
  refine RunX.step rfl rfl (ok_pick rfl rfl) (fun _ => Stays.v _ _) ?_
  refine RunX.step rfl rfl (ok_move rfl) (fun _ => Stays.v _ _) ?_
  refine RunX.guarded rfl rfl rfl rfl (ok_move rfl) (fun _ => Stays.v _ _) ?_
  refine RunX.guarded rfl rfl rfl rfl (ok_bin rfl rfl rfl) (fun _ => Stays.v _ _) ?_; refine RunX.as (.bool true) (by rfl) ?_
  refine RunX.guarded rfl rfl rfl rfl (ok_move rfl) (fun _ => Stays.v _ _) ?_
  refine RunX.guarded rfl rfl rfl rfl (OpOk.hdBlkO (ok_loadA (s := 1000011) (by decide) Try.underlying35 rfl (size35.of (rfl)) rfl rfl) (k := 1000045) (by decide) rfl (hlt 1000045 _ _ _ rfl) (Nat.le_refl _)) (fun _ => Stays.old _ _) ?_
  refine RunX.guarded rfl rfl rfl rfl (ok_build0P Try.underlying22 infoU) (fun h => by cases h) ?_
  refine RunX.guarded rfl rfl rfl rfl (ok_move rfl) (fun _ => Stays.old _ _) ?_
  refine RunX.guarded rfl rfl rfl rfl (ok_append0P Try.underlying22 infoU (by decide) (by decide) rfl rfl rfl ((Le.old _ _).trans (Le.old _ _)) (usR_length hf) (by omega)) (fun h => by cases h) ?_
  refine RunX.guarded rfl rfl rfl rfl (ok_move rfl) (fun _ => Stays.old _ _) ?_
  refine RunX.effg rfl rfl rfl rfl (okx_appendP Try.underlying22 infoU (by decide) (by decide) rfl rfl rfl ((Le.old _ _).trans (Le.old _ _)) (usR_one' vs) (usR_length hg) (by omega)) (fun h => by cases h) ?_
  refine RunX.guarded rfl rfl rfl rfl (ok_call (same11_fn (us ++ vs) (hf.append hg) (by rw [List.length_append]; omega)) (Args.cons rfl ((Le.old _ _).trans (Le.eq (by rw [List.length_append]))) (Args.cons rfl (ownP_rowD.trans (Le.eq (by rw [usR_append, List.length_append]))) Args.nil))) (fun _ => Stays.v _ _) ?_
  refine RunX.guarded rfl rfl rfl rfl (ok_pick rfl rfl) (fun _ => Stays.v _ _) ?_
  refine RunX.step rfl rfl (ok_pick rfl rfl) (fun _ => Stays.v _ _) ?_
  refine RunX.step rfl rfl (ok_move rfl) (fun _ => Stays.v _ _) ?_
  refine RunX.guarded rfl rfl rfl rfl (ok_call lives11_fn Args.nil) (fun _ => Stays.v _ _) ?_
  refine RunX.step rfl rfl (ok_pick rfl rfl) (fun _ => Stays.v _ _) ?_
  refine RunX.step rfl rfl (ok_assign rfl) (fun _ => Stays.v _ _) ?_
  refine RunX.last (KC 6 rfl (KC 1000005 rfl (KC 1000009 rfl (KC 1000011 rfl (KC 1000045 rfl (KC 1000309 rfl KN)))))) (by kernel_rfl) ?_
  refine A.subL (SubL.cons (t := 6) rfl (Le.refl _) (SubL.cons (t := 1000005) rfl (Le.refl _) (SubL.cons (t := 1000009) rfl (Le.refl _) (SubL.cons (t := 1000011) rfl (Le.refl _) (SubL.cons (t := 1000045) rfl (Le.refl _) (SubL.cons (t := 1000309) rfl (Le.refl _) SubL.nil)))))) ?_
  refine A.ret ?_
  exact End.ret1 rfl rfl (by first | exact Le.refl _ | exact Le.old _ _)
set_option maxHeartbeats 4000000 in
theorem LErr_gb (us vs : List Us) (u : Us) (hf : Fits us) (hg : Fits vs) (hu : u.Fit) (h1 : us.length ≤ 60) (h2 : vs.length ≤ 60) (hc : chkU us = 0) (hcu : chkU [u] = 0) (hcv : chkU vs ≠ 0) : Fn Try.prog 3 [rowD us.length (usR us), rowD vs.length (usR vs), .v (aggV (usV u))] (.v (.bool true)) := by
 refine Fn.of Try.func3 rfl (by kernel_rfl) Try.ntmps3 (by simp) (fun w => [(0, old w.heap.size (rowD us.length (usR us))), (1, old w.heap.size (rowD vs.length (usR vs))), (2, .v (aggV (usV u)))]) (fun w => (Start.old rfl (Start.old rfl (Start.v rfl Start.nil)))) fun w₀ => ?_
 refine GS ?_
 refine TN 0 ?_
 refine RN ?_
 refine ⟨_, _, eff_box (n := 147) (d := 5) (k := 1000005) rfl (by decide), fun b5 hb5 => ?_⟩
 have hBb5 := hb5.1
 refine TL ?_
 refine RA rfl ?_
 refine RN ?_
 refine A.seq ?_
 refine GS ?_
 refine TL ?_
 refine RM rfl ?_
 refine RS (ok_lenRD Try.underlying22 rfl (Le.old _ _)) ?_
 refine RBS rfl rfl rfl (.bool false) (by simp; omega) ?_
 refine RM rfl ?_
 refine RQ (ok_move rfl) ?_
 refine RQ (ok_lenRD Try.underlying22 rfl (Le.old _ _)) ?_
 refine RQ (ok_bin rfl rfl rfl) ?_; refine RZ (.bool false) (by simp; omega) ?_
 refine RP rfl rfl ?_
 refine RN ?_
 refine A.no rfl ?_
 refine A.skip ?_
 refine EN ?_
 refine GS ?_
 refine TL ?_
 refine RM rfl ?_
 refine RS (ok_call (refCheck_fn us hf (Nat.le_trans h1 (by decide))) (Args.cons rfl (Le.old _ _) Args.nil)) ?_; refine RZ (.int .i64 0) (congrArg (Value.int .i64) hc) ?_
 refine RM rfl ?_
 refine RS (ok_call (refCheck_fn vs hg (Nat.le_trans h2 (by decide))) (Args.cons rfl (Le.old _ _) Args.nil)) ?_
 refine RA rfl ?_
 refine RA rfl ?_
 refine RN ?_
 refine A.dup (k := 1000005) (k' := 1000305) rfl (fun _ _ _ _ h => h) ?_
 refine A.regsLH _ (fun B => (OldH.p (t := 0) rfl (OldH.p (t := 1) rfl (OldH.same (t := 5) rfl (OldH.same (t := 7) rfl (OldH.same (t := 8) rfl (OldH.p (t := 1000005) rfl (OldH.same (t := 1000305) rfl OldH.nil)))))))) 8 [6] (by kernel_rfl) (by kernel_rfl) (by kernel_rfl) (by kernel_rfl) (fun B => [(0, old w₀.heap.size (rowD us.length (usR us))), (1, old w₀.heap.size (rowD vs.length (usR vs))), (1000005, blk b5 31 (usV u)), (7, .v (.int .i64 0)), (8, .v (.int .i64 (chkU vs))), (5, .v (.pointer (some ⟨b5, 0, none⟩))), (9, freshN B [b5] 35 31 (us.length + 1) (usR (us ++ [u]))), (10, .v (.int .i64 0))]) (fun B hB => ?_) (fun B hB => ?_)
 ·refine RM rfl ?_
  refine RS (ok_call (of11_fn us.length (usR us)) (Args.cons rfl ((Le.old _ _).trans (Le.old _ _)) Args.nil)) ?_
  refine RS (ok_loadA (s := 1000305) (by decide) Try.underlying31 rfl (size31.of (usV_length hu)) rfl rfl) ?_
  refine RS (ok_callB (Add_okB us u hf hu (Nat.le_trans h1 (by decide)) hc hcu (by omega)) newD_mono (A2 rfl rfl)) ?_
  refine RM rfl ?_
  refine RS (ok_extractN (f := fun b => [aggV [.slice (some ⟨b, 0, none⟩) (us.length + 1) (us.length + 1)], .int .i64 0]) rfl (fun _ => rfl)) ?_
  refine RS (ok_extractC (f := fun b => [aggV [.slice (some ⟨b, 0, none⟩) (us.length + 1) (us.length + 1)], .int .i64 0]) rfl (fun _ => rfl)) ?_
  refine RS (ok_allocF [b5] zero35 (Named.cons (s := 1000305) (by decide) rfl Named.nil)) ?_
  refine RN ?_
  intro S hS
  simp only [subs, List.map_cons, List.map_nil, List.cons_append, List.nil_append, List.mem_cons, List.not_mem_nil, or_false] at hS
  rcases hS with rfl | rfl
  ·refine ⟨1, Nat.le_of_ble_eq_true (by kernel_rfl), _, (KC 0 rfl (KC 1 rfl (KC 5 rfl (KC 7 rfl (KC 8 rfl (KC 9 rfl (KC 33 rfl (KC 34 rfl (KC 35 rfl (KC 36 rfl (KC 37 rfl (KC 38 rfl (KC 39 rfl (KC 1000005 rfl (KC 1000305 rfl KN))))))))))))))), by kernel_rfl, _, rfl, _, eff_storeFM (n := 147) size35 (Nat.le_refl _) rfl rfl rfl (by decide) (Nat.le_refl _) (fun b hb => (LeftS.cons (t := 0) rfl (Surv.old hb) (LeftS.cons (t := 1) rfl (Surv.old hb) (LV 5 rfl (LV 7 rfl (LV 8 rfl (LeftS.cons (t := 33) rfl (Surv.newD (by decide)) (LeftS.cons (t := 34) rfl (Surv.old hb) (LV 36 rfl (LV 39 rfl (LeftS.cons (t := 1000005) rfl (Surv.old hb) LN))))))))))), ?_⟩
   refine AnyT.step 9 [] (by kernel_rfl) ?_
   refine NextT.pure (by kernel_rfl) rfl rfl rfl (ok_assign rfl) ?_ ?_
   ·refine AnyT.last (by kernel_rfl) ?_
    exact (SubL.cons (t := 0) rfl (Le.old _ _) (SubL.cons (t := 1) rfl (Le.old _ _) (SubL.cons (t := 1000005) rfl (Le.old _ _) (SubL.cons (t := 7) rfl (Le.refl _) (SubL.cons (t := 8) rfl (Le.refl _) (SubL.cons (t := 5) rfl (Le.refl _) (SubL.cons (t := 9) rfl (Le.refl _) (SubL.cons (t := 10) rfl (Le.refl _) SubL.nil))))))))
   exact trivial
  ·refine ⟨2, Nat.le_of_ble_eq_true (by kernel_rfl), _, (KC 0 rfl (KC 1 rfl (KC 5 rfl (KC 7 rfl (KC 8 rfl (KC 9 rfl (KC 33 rfl (KC 34 rfl (KC 35 rfl (KC 36 rfl (KC 37 rfl (KC 38 rfl (KC 1000005 rfl (KC 1000305 rfl KN)))))))))))))), by kernel_rfl, _, rfl, _, eff_storeFM (n := 147) size35 (Nat.le_refl _) rfl rfl rfl (by decide) (Nat.le_refl _) (fun b hb => (LeftS.cons (t := 0) rfl (Surv.old hb) (LeftS.cons (t := 1) rfl (Surv.old hb) (LV 5 rfl (LV 7 rfl (LV 8 rfl (LeftS.cons (t := 33) rfl (Surv.newD (by decide)) (LeftS.cons (t := 34) rfl (Surv.old hb) (LV 36 rfl (LeftS.cons (t := 1000005) rfl (Surv.old hb) LN)))))))))), ?_⟩
   refine AnyT.step 6 [] (by kernel_rfl) ?_
   refine NextT.pure (by kernel_rfl) rfl rfl rfl (ok_extractC (f := fun b => [aggV [.slice (some ⟨b, 0, none⟩) (us.length + 1) (us.length + 1)], .int .i64 0]) rfl (fun _ => rfl)) ?_ ?_
   ·refine AnyT.step 9 [] (by kernel_rfl) ?_
    refine NextT.pure (by kernel_rfl) rfl rfl rfl (ok_assign rfl) ?_ ?_
    ·refine AnyT.last (by kernel_rfl) ?_
     exact (SubL.cons (t := 0) rfl (Le.old _ _) (SubL.cons (t := 1) rfl (Le.old _ _) (SubL.cons (t := 1000005) rfl (Le.old _ _) (SubL.cons (t := 7) rfl (Le.refl _) (SubL.cons (t := 8) rfl (Le.refl _) (SubL.cons (t := 5) rfl (Le.refl _) (SubL.cons (t := 9) rfl (Le.refl _) (SubL.cons (t := 10) rfl (Le.refl _) SubL.nil))))))))
    exact trivial
   exact trivial
 ·refine A.openFreshN (t := 9) (k := 1000009) (k' := 1000309) rfl fun b9 c9 hBr9 hCr9 hLt9 => ?_
  have hBb9 : w₀.heap.size ≤ b9 := by omega
  have hlt_b5_b9 := hLt9 b5 (by simp)
  refine GS ?_
  refine TN 8 ?_
  refine RM rfl ?_
  refine RS (ok_call (of11_fn us.length (usR us)) (Args.cons rfl (Le.old _ _) Args.nil)) ?_
  refine RM rfl ?_
  refine RS (ok_call (of11_fn vs.length (usR vs)) (Args.cons rfl (Le.old _ _) Args.nil)) ?_
  refine RS (ok_call (Merge_bad us vs hf hg (Nat.le_trans h1 (by decide)) (Nat.le_trans h2 (by decide)) (by rw [if_neg (fun h => h hc)]; exact hcv)) (A2 rfl rfl)) ?_; refine RZ (.tuple #[aggV [.slice none 0 0], .int .i64 (chkU vs)]) (by rw [if_neg (fun h => h hc)]) ?_
  refine RM rfl ?_
  refine RS (ok_extractV (xs := [_, _]) rfl rfl) ?_
  refine RS (ok_extractV (xs := [_, _]) rfl rfl) ?_
  refine RN ?_
  refine ⟨_, _, eff_alloc (n := 147) (d := 11) (k := 1000011) zero35 (by decide), fun b11 hb11 => ?_⟩
  have hBb11 := hb11.1
  have hlt_b9_b11 : b9 < b11 := hb11.2 1000009 _ _ _ rfl
  refine TF 9 ?_
  refine RN ?_
  refine ⟨_, eff_storeA (n := 147) (s := 1000011) (size35.of (rfl)) rfl rfl (rfl) hBb11 rfl (rfl) (LO 0 rfl (LO 1 rfl (LV 5 rfl (LV 7 rfl (LV 8 rfl (LV 9 rfl (LV 10 rfl (LV 11 rfl (LV 47 rfl (LT 1000005 rfl (LB 1000009 rfl (LT 1000309 rfl LN)))))))))))), ?_⟩
  refine TL ?_
  refine RA rfl ?_
  refine RN ?_
  refine A.sub (KC 0 rfl (KC 1 rfl (KC 5 rfl (KC 7 rfl (KC 8 rfl (KC 9 rfl (KC 10 rfl (KC 11 rfl (KC 12 rfl (KC 1000005 rfl (KC 1000009 rfl (KC 1000011 rfl (KC 1000309 rfl KN))))))))))))) ?_
  refine GS ?_
  refine TL ?_
  refine RM rfl ?_
  refine RS (ok_call (of11_fn us.length (usR us)) (Args.cons rfl (Le.old _ _) Args.nil)) ?_
  refine RS (ok_call (Text_ok us hf (Nat.le_trans h1 (by decide)) hc (by omega)) (A1 rfl)) ?_
  refine RM rfl ?_
  refine RS (ok_extractV (xs := [_, _]) rfl rfl) ?_
  refine RS (ok_extractV (xs := [_, _]) rfl rfl) ?_
  refine RA rfl ?_
  refine RA rfl ?_
  refine RN ?_
  refine GS ?_
  refine TL ?_
  refine RM rfl ?_
  refine RS (ok_call (of11_fn us.length (usR us)) (Args.cons rfl (Le.old _ _) Args.nil)) ?_
  refine RS (ok_call (Repeats_fn us hf (Nat.le_trans h1 (by decide)) hc) (A1 rfl)) ?_
  refine RM rfl ?_
  refine RS (ok_extractV (xs := [_, _, _]) rfl rfl) ?_
  refine RS (ok_extractV (xs := [_, _, _]) rfl rfl) ?_
  refine RS (ok_extractV (xs := [_, _, _]) rfl rfl) ?_
  refine RA rfl ?_
  refine RA rfl ?_
  refine RA rfl ?_
  refine RN ?_
  refine GS ?_
  refine TL ?_
  refine RM rfl ?_
  refine RM rfl ?_
  refine RA rfl ?_
  refine RA rfl ?_
  refine RN ?_
  refine A.seq ?_
  refine GS ?_
  refine TL ?_
  refine RM rfl ?_
  refine RBS rfl rfl rfl (.bool true) (by rfl) ?_
  refine RN ?_
  refine A.yes rfl ?_
  refine GS ?_
  refine TL ?_
  refine RM rfl ?_
  refine RA rfl ?_
  refine RN ?_
  refine A.sub (KC 0 rfl (KC 1 rfl (KC 5 rfl (KC 7 rfl (KC 9 rfl (KC 10 rfl (KC 11 rfl (KC 12 rfl (KC 13 rfl (KC 14 rfl (KC 17 rfl (KC 19 rfl (KC 1000005 rfl (KC 1000009 rfl (KC 1000011 rfl (KC 1000309 rfl KN)))))))))))))))) ?_
  refine GE ?_
  refine TL ?_
  refine RS (ok_loadA (s := 1000005) (by decide) Try.underlying31 rfl (size31.of (usV_length hu)) rfl rfl) ?_
  refine RS (ok_build1K Try.underlying22 infoU rfl (by decide) (by decide) rfl (usV_length hu)) ?_
  refine RS (ok_call (refCheck_fn [u] (fit_one hu) (show 1 ≤ 1099511627776 by decide)) (Args.cons rfl (oneP_rowD.trans (Le.eq (congrArg (rowD 1) (usR_one u).symm))) Args.nil)) ?_; refine RZ (.int .i64 0) (congrArg (Value.int .i64) hcu) ?_
  refine RA rfl ?_
  refine RN ?_
  refine EN ?_
  refine A.seq ?_
  refine GS ?_
  refine TL ?_
  refine RM rfl ?_
  refine RS (ok_call (of11_fn us.length (usR us)) (Args.cons rfl (Le.old _ _) Args.nil)) ?_
  refine RS (ok_call (Check_fn us hf (Nat.le_trans h1 (by decide))) (A1 rfl)) ?_; refine RZ (.int .i64 0) (congrArg (Value.int .i64) hc) ?_
  refine RM rfl ?_
  refine RBS rfl rfl rfl (.bool false) (by simp) ?_
  refine RM rfl ?_
  refine RQ (ok_move rfl) ?_
  refine RQ (ok_move rfl) ?_
  refine RQ (ok_bin rfl rfl rfl) ?_; refine RZ (.bool false) (by simp) ?_
  refine RP rfl rfl ?_
  refine RM rfl ?_
  refine RQ (ok_move rfl) ?_
  refine RQ (ok_move rfl) ?_
  refine RQ (ok_bin rfl rfl rfl) ?_; refine RZ (.bool false) (by simp) ?_
  refine RP rfl rfl ?_
  refine RM rfl ?_
  refine RQ (ok_move rfl) ?_
  refine RQ (ok_move rfl) ?_
  refine RQ (ok_bin rfl rfl rfl) ?_; refine RZ (.bool false) (by simp) ?_
  refine RP rfl rfl ?_
  refine RM rfl ?_
  refine RQ (ok_move rfl) ?_
  refine RQ (ok_bin rfl rfl rfl) ?_; refine RZ (.bool false) (by rfl) ?_
  refine RQ (ok_move rfl) ?_
  refine RK ?_
  refine RK ?_
  refine RunK.skippedU rfl rfl rfl rfl ?_
  refine RunK.skippedU rfl rfl rfl rfl ?_
  refine RK ?_
  refine RQ (ok_pick rfl rfl) ?_
  refine RP rfl rfl ?_
  refine RN ?_
  refine A.sub (KC 0 rfl (KC 1 rfl (KC 5 rfl (KC 9 rfl (KC 11 rfl (KC 18 rfl (KC 19 rfl (KC 99 rfl (KC 1000005 rfl (KC 1000009 rfl (KC 1000011 rfl (KC 1000309 rfl KN)))))))))))) ?_
  refine A.no rfl ?_
  refine A.skip ?_
  refine EN ?_
  refine A.seq ?_
  refine A.regsX [⟨false, true, none⟩, ⟨false, true, none⟩, ⟨false, true, none⟩, ⟨false, true, none⟩, ⟨false, false, some 9⟩, ⟨false, true, none⟩, ⟨false, false, some 9⟩, ⟨false, true, none⟩, ⟨false, false, some 9⟩, ⟨true, false, none⟩, ⟨false, true, none⟩, ⟨false, true, none⟩, ⟨false, true, none⟩, ⟨false, true, none⟩, ⟨false, true, none⟩, ⟨false, true, none⟩, ⟨false, true, none⟩, ⟨false, true, none⟩, ⟨false, true, none⟩, ⟨false, true, none⟩, ⟨false, true, none⟩, ⟨false, true, none⟩, ⟨false, true, none⟩] _ (fun B => (OldH.p (t := 0) rfl (OldH.p (t := 1) rfl (OldH.same (t := 5) rfl (OldH.same (t := 9) rfl (OldH.same (t := 11) rfl (OldH.same (t := 18) rfl (OldH.same (t := 19) rfl (OldH.same (t := 99) rfl (OldH.same (t := 1000005) rfl (OldH.same (t := 1000009) rfl (OldH.same (t := 1000011) rfl (OldH.same (t := 1000309) rfl OldH.nil))))))))))))) (by kernel_rfl) (by kernel_rfl) (by kernel_rfl) (by kernel_rfl) (fun B hlt => (StaysL.cons (k := 0) (Stays.old _ _) (StaysL.cons (k := 1) (Stays.old _ _) (StaysL.cons (k := 5) (Stays.v _ _) (StaysL.cons (k := 9) (Stays.v _ _) (StaysL.cons (k := 11) (Stays.v _ _) (StaysL.cons (k := 18) (Stays.v _ _) (StaysL.cons (k := 19) (Stays.v _ _) (StaysL.cons (k := 99) (Stays.v _ _) (StaysL.cons (k := 1000005) (Stays.blk (hlt 1000005 _ _ _ rfl)) (StaysL.cons (k := 1000009) (Stays.blk (hlt 1000009 _ _ _ rfl)) (StaysL.cons (k := 1000011) (Stays.blk (hlt 1000011 _ _ _ rfl)) (StaysL.cons (k := 1000309) (Stays.blk (hlt 1000309 _ _ _ rfl)) StaysL.nil))))))))))))) (fun B hB hlt => ?_)
  refine RunX.step rfl rfl (ok_move rfl) (fun _ => Stays.v _ _) ?_
  refine RunX.step rfl rfl (ok_bin rfl rfl rfl) (fun _ => Stays.v _ _) ?_; refine RunX.as (.bool true) (by rfl) ?_
  refine RunX.step rfl rfl (ok_move rfl) (fun _ => Stays.v _ _) ?_
  refine RunX.guarded rfl rfl rfl rfl (OpOk.hdBlkO (ok_loadA (s := 1000009) (by decide) Try.underlying35 rfl (size35.of (rfl)) rfl rfl) (k := 1000309) (by decide) rfl (hlt 1000309 _ _ _ rfl) (Nat.le_refl _)) (fun _ => Stays.old _ _) ?_
  refine RunX.guarded rfl rfl rfl rfl (ok_build0P Try.underlying22 infoU) (fun h => by cases h) ?_
  refine RunX.guarded rfl rfl rfl rfl (ok_move rfl) (fun _ => Stays.old _ _) ?_
  refine RunX.guarded rfl rfl rfl rfl (ok_append0P Try.underlying22 infoU (by decide) (by decide) rfl rfl rfl ((Le.old _ _).trans (Le.old _ _)) (usR_length hf) (by omega)) (fun h => by cases h) ?_
  refine RunX.guarded rfl rfl rfl rfl (ok_loadA (s := 1000005) (by decide) Try.underlying31 rfl (size31.of (usV_length hu)) rfl rfl) (fun _ => Stays.v _ _) ?_
  refine RunX.guarded rfl rfl rfl rfl (ok_build1K Try.underlying22 infoU rfl (by decide) (by decide) rfl (usV_length hu)) (fun h => by cases h) ?_
  refine RunX.effg rfl rfl rfl rfl (okx_appendP Try.underlying22 infoU (by decide) (by decide) rfl rfl rfl oneP_rowD (usV_one u) ((usV_length hu).trans (Nat.one_mul 20).symm) (by omega)) (fun h => by cases h) ?_
  refine RunX.guarded rfl rfl rfl rfl (ok_call (same11_fn (us ++ [u]) (hf.append (fit_one hu)) (by rw [List.length_append]; exact Nat.le_trans (Nat.add_le_add_right h1 1) (by decide))) (Args.cons rfl ((Le.old _ _).trans (Le.eq (by rw [List.length_append]; rfl))) (Args.cons rfl (ownP_rowD.trans (Le.eq (by rw [usR_append, usR_one, List.length_append]; rfl))) Args.nil))) (fun _ => Stays.v _ _) ?_
  refine RunX.guarded rfl rfl rfl rfl (ok_not rfl) (fun _ => Stays.v _ _) ?_
  refine RunX.step rfl rfl (ok_pick rfl rfl) (fun _ => Stays.v _ _) ?_
  refine RunX.step rfl rfl (ok_move rfl) (fun _ => Stays.v _ _) ?_
  refine RunX.guarded rfl rfl rfl rfl (ok_move rfl) (fun _ => Stays.v _ _) ?_
  refine RunX.guarded rfl rfl rfl rfl (ok_bin rfl rfl rfl) (fun _ => Stays.v _ _) ?_; refine RunX.as (.bool false) (by rfl) ?_
  refine RunX.guarded rfl rfl rfl rfl (ok_move rfl) (fun _ => Stays.v _ _) ?_
  refine RunX.skipped rfl rfl rfl rfl rfl ?_
  refine RunX.skipped rfl rfl rfl rfl rfl ?_
  refine RunX.skipped rfl rfl rfl rfl rfl ?_
  refine RunX.skipped rfl rfl rfl rfl rfl ?_
  refine RunX.guarded rfl rfl rfl rfl (ok_pick rfl rfl) (fun _ => Stays.v _ _) ?_
  refine RunX.step rfl rfl (ok_pick rfl rfl) (fun _ => Stays.v _ _) ?_
  refine RunX.last (KC 0 rfl (KC 1 rfl (KC 11 rfl (KC 19 rfl (KC 122 rfl (KC 1000005 rfl (KC 1000009 rfl (KC 1000011 rfl (KC 1000309 rfl KN))))))))) (by kernel_rfl) ?_
  refine A.subL (SubL.cons (t := 0) rfl (Le.old _ _) (SubL.cons (t := 1) rfl (Le.old _ _) (SubL.cons (t := 11) rfl (Le.refl _) (SubL.cons (t := 19) rfl (Le.refl _) (SubL.cons (t := 122) rfl (Le.refl _) (SubL.cons (t := 1000005) rfl (Le.refl _) (SubL.cons (t := 1000009) rfl (Le.refl _) (SubL.cons (t := 1000011) rfl (Le.refl _) (SubL.cons (t := 1000309) rfl (Le.refl _) SubL.nil))))))))) ?_
  refine A.no rfl ?_
  refine A.skip ?_
  refine EN ?_
  refine GD ?_
  refine TL ?_
  refine RM rfl ?_
  refine RBS rfl rfl rfl (.bool true) (by simpa using hcv) ?_
  refine RM rfl ?_
  refine RQ (ok_field field35_0 (by decide) rfl) ?_
  refine RQ (ok_loadV (s := 1000011) (by decide) Try.underlying22 rfl rfl rfl (rfl)) ?_
  refine RQ (ok_lenV Try.underlying22 rfl) ?_
  refine RQ (ok_bin rfl rfl rfl) ?_; refine RZ (.bool true) (by rfl) ?_
  refine RP rfl rfl ?_
  refine RM rfl ?_
  refine RK ?_
  refine RK ?_
  refine RK ?_
  refine RunK.skippedU rfl rfl rfl rfl ?_
  refine RunK.skippedU rfl rfl rfl rfl ?_
  refine RunK.skippedU rfl rfl rfl rfl ?_
  refine RunK.skippedU rfl rfl rfl rfl ?_
  refine RunK.skippedU rfl rfl rfl rfl ?_
  refine RunK.skippedU rfl rfl rfl rfl ?_
  refine RunK.skippedU rfl rfl rfl rfl ?_
  refine RK ?_
  refine RP rfl rfl ?_
  refine RM rfl ?_
  refine RQ (ok_call lives11_fn Args.nil) ?_
  refine RP rfl rfl ?_
  refine RA rfl ?_
  refine RN ?_
  refine A.sub (KC 6 rfl (KC 1000005 rfl (KC 1000009 rfl (KC 1000011 rfl (KC 1000309 rfl KN))))) ?_
  refine A.ret ?_
  exact End.ret1 rfl rfl (by first | exact Le.refl _ | exact Le.old _ _)
set_option maxHeartbeats 4000000 in
theorem LErr_bg (us vs : List Us) (u : Us) (hf : Fits us) (hg : Fits vs) (hu : u.Fit) (h1 : us.length ≤ 60) (h2 : vs.length ≤ 60) (hc : chkU us = 0) (hcu : chkU [u] ≠ 0) (hcv : chkU vs = 0) : Fn Try.prog 3 [rowD us.length (usR us), rowD vs.length (usR vs), .v (aggV (usV u))] (.v (.bool true)) := by
 refine Fn.of Try.func3 rfl (by kernel_rfl) Try.ntmps3 (by simp) (fun w => [(0, old w.heap.size (rowD us.length (usR us))), (1, old w.heap.size (rowD vs.length (usR vs))), (2, .v (aggV (usV u)))]) (fun w => (Start.old rfl (Start.old rfl (Start.v rfl Start.nil)))) fun w₀ => ?_
 refine GS ?_
 refine TN 0 ?_
 refine RN ?_
 refine ⟨_, _, eff_box (n := 147) (d := 5) (k := 1000005) rfl (by decide), fun b5 hb5 => ?_⟩
 have hBb5 := hb5.1
 refine TL ?_
 refine RA rfl ?_
 refine RN ?_
 refine A.seq ?_
 refine GS ?_
 refine TL ?_
 refine RM rfl ?_
 refine RS (ok_lenRD Try.underlying22 rfl (Le.old _ _)) ?_
 refine RBS rfl rfl rfl (.bool false) (by simp; omega) ?_
 refine RM rfl ?_
 refine RQ (ok_move rfl) ?_
 refine RQ (ok_lenRD Try.underlying22 rfl (Le.old _ _)) ?_
 refine RQ (ok_bin rfl rfl rfl) ?_; refine RZ (.bool false) (by simp; omega) ?_
 refine RP rfl rfl ?_
 refine RN ?_
 refine A.no rfl ?_
 refine A.skip ?_
 refine EN ?_
 refine GS ?_
 refine TL ?_
 refine RM rfl ?_
 refine RS (ok_call (refCheck_fn us hf (Nat.le_trans h1 (by decide))) (Args.cons rfl (Le.old _ _) Args.nil)) ?_; refine RZ (.int .i64 0) (congrArg (Value.int .i64) hc) ?_
 refine RM rfl ?_
 refine RS (ok_call (refCheck_fn vs hg (Nat.le_trans h2 (by decide))) (Args.cons rfl (Le.old _ _) Args.nil)) ?_; refine RZ (.int .i64 0) (congrArg (Value.int .i64) hcv) ?_
 refine RA rfl ?_
 refine RA rfl ?_
 refine RN ?_
 refine A.dup (k := 1000005) (k' := 1000305) rfl (fun _ _ _ _ h => h) ?_
 refine A.regsLH _ (fun B => (OldH.p (t := 0) rfl (OldH.p (t := 1) rfl (OldH.same (t := 5) rfl (OldH.same (t := 7) rfl (OldH.same (t := 8) rfl (OldH.p (t := 1000005) rfl (OldH.same (t := 1000305) rfl OldH.nil)))))))) 8 [6] (by kernel_rfl) (by kernel_rfl) (by kernel_rfl) (by kernel_rfl) (fun B => [(0, old w₀.heap.size (rowD us.length (usR us))), (1, old w₀.heap.size (rowD vs.length (usR vs))), (1000005, blk b5 31 (usV u)), (7, .v (.int .i64 0)), (8, .v (.int .i64 0)), (5, .v (.pointer (some ⟨b5, 0, none⟩))), (9, freshV B [b5] 35 [.slice none 0 0]), (10, .v (.int .i64 (chkU [u])))]) (fun B hB => ?_) (fun B hB => ?_)
 ·refine RM rfl ?_
  refine RS (ok_call (of11_fn us.length (usR us)) (Args.cons rfl ((Le.old _ _).trans (Le.old _ _)) Args.nil)) ?_
  refine RS (ok_loadA (s := 1000305) (by decide) Try.underlying31 rfl (size31.of (usV_length hu)) rfl rfl) ?_
  refine RS (ok_call (Add_bad us u hf hu (Nat.le_trans h1 (by decide)) (by rw [if_neg (fun h => h hc)]; exact hcu)) (A2 rfl rfl)) ?_; refine RZ (.tuple #[aggV [.slice none 0 0], .int .i64 (chkU [u])]) (by rw [if_neg (fun h => h hc)]) ?_
  refine RM rfl ?_
  refine RS (ok_extractV (xs := [_, _]) rfl rfl) ?_
  refine RS (ok_extractV (xs := [_, _]) rfl rfl) ?_
  refine RS (ok_allocF [b5] zero35 (Named.cons (s := 1000305) (by decide) rfl Named.nil)) ?_
  refine RN ?_
  intro S hS
  simp only [subs, List.map_cons, List.map_nil, List.cons_append, List.nil_append, List.mem_cons, List.not_mem_nil, or_false] at hS
  rcases hS with rfl | rfl
  ·refine ⟨1, Nat.le_of_ble_eq_true (by kernel_rfl), _, (KC 0 rfl (KC 1 rfl (KC 5 rfl (KC 7 rfl (KC 8 rfl (KC 9 rfl (KC 33 rfl (KC 34 rfl (KC 35 rfl (KC 36 rfl (KC 37 rfl (KC 38 rfl (KC 39 rfl (KC 1000005 rfl (KC 1000305 rfl KN))))))))))))))), by kernel_rfl, _, rfl, _, eff_storeFF (n := 147) (size35.of (rfl)) (Nat.le_refl _) rfl rfl (rfl) (rfl) (fun b hb => (LeftS.cons (t := 0) rfl (Surv.old hb) (LeftS.cons (t := 1) rfl (Surv.old hb) (LV 5 rfl (LV 7 rfl (LV 8 rfl (LV 33 rfl (LeftS.cons (t := 34) rfl (Surv.old hb) (LV 36 rfl (LV 37 rfl (LV 38 rfl (LV 39 rfl (LeftS.cons (t := 1000005) rfl (Surv.old hb) LN))))))))))))), ?_⟩
   refine AnyT.step 9 [] (by kernel_rfl) ?_
   refine NextT.pure (by kernel_rfl) rfl rfl rfl (ok_assign rfl) ?_ ?_
   ·refine AnyT.last (by kernel_rfl) ?_
    exact (SubL.cons (t := 0) rfl (Le.old _ _) (SubL.cons (t := 1) rfl (Le.old _ _) (SubL.cons (t := 1000005) rfl (Le.old _ _) (SubL.cons (t := 7) rfl (Le.refl _) (SubL.cons (t := 8) rfl (Le.refl _) (SubL.cons (t := 5) rfl (Le.refl _) (SubL.cons (t := 9) rfl (Le.refl _) (SubL.cons (t := 10) rfl (Le.refl _) SubL.nil))))))))
   exact trivial
  ·refine ⟨2, Nat.le_of_ble_eq_true (by kernel_rfl), _, (KC 0 rfl (KC 1 rfl (KC 5 rfl (KC 7 rfl (KC 8 rfl (KC 9 rfl (KC 33 rfl (KC 34 rfl (KC 35 rfl (KC 36 rfl (KC 37 rfl (KC 38 rfl (KC 1000005 rfl (KC 1000305 rfl KN)))))))))))))), by kernel_rfl, _, rfl, _, eff_storeFF (n := 147) (size35.of (rfl)) (Nat.le_refl _) rfl rfl (rfl) (rfl) (fun b hb => (LeftS.cons (t := 0) rfl (Surv.old hb) (LeftS.cons (t := 1) rfl (Surv.old hb) (LV 5 rfl (LV 7 rfl (LV 8 rfl (LV 33 rfl (LeftS.cons (t := 34) rfl (Surv.old hb) (LV 36 rfl (LV 37 rfl (LV 38 rfl (LeftS.cons (t := 1000005) rfl (Surv.old hb) LN)))))))))))), ?_⟩
   refine AnyT.step 6 [] (by kernel_rfl) ?_
   refine NextT.pure (by kernel_rfl) rfl rfl rfl (ok_extractV (xs := [_, _]) rfl rfl) ?_ ?_
   ·refine AnyT.step 9 [] (by kernel_rfl) ?_
    refine NextT.pure (by kernel_rfl) rfl rfl rfl (ok_assign rfl) ?_ ?_
    ·refine AnyT.last (by kernel_rfl) ?_
     exact (SubL.cons (t := 0) rfl (Le.old _ _) (SubL.cons (t := 1) rfl (Le.old _ _) (SubL.cons (t := 1000005) rfl (Le.old _ _) (SubL.cons (t := 7) rfl (Le.refl _) (SubL.cons (t := 8) rfl (Le.refl _) (SubL.cons (t := 5) rfl (Le.refl _) (SubL.cons (t := 9) rfl (Le.refl _) (SubL.cons (t := 10) rfl (Le.refl _) SubL.nil))))))))
    exact trivial
   exact trivial
 ·refine A.openFreshV (t := 9) (k := 1000009) rfl fun b9 hBr9 hLt9 => ?_
  have hBb9 : w₀.heap.size ≤ b9 := by omega
  have hlt_b5_b9 := hLt9 b5 (by simp)
  refine GS ?_
  refine TN 4 ?_
  refine RM rfl ?_
  refine RS (ok_call (of11_fn us.length (usR us)) (Args.cons rfl (Le.old _ _) Args.nil)) ?_
  refine RM rfl ?_
  refine RS (ok_call (of11_fn vs.length (usR vs)) (Args.cons rfl (Le.old _ _) Args.nil)) ?_
  refine RN ?_
  refine ⟨_, _, eff_name (n := 147) (d := 45) (k := 1000045) rfl rfl (fun B' => ok_callB (Merge_okB us vs hf hg (Nat.le_trans h1 (by decide)) (Nat.le_trans h2 (by decide)) hc hcv (by omega)) newD_mono (A2 rfl rfl)) (by decide) (by decide), fun b45 hb45 => ?_⟩
  have hBb45 := hb45.1
  have hlt_b5_b45 : b5 < b45 := hb45.2 1000005 _ _ _ rfl
  have hlt_b9_b45 : b9 < b45 := hb45.2 1000009 _ _ _ rfl
  refine TN 8 ?_
  refine RM rfl ?_
  refine RS (ok_extractV (xs := [_, _]) rfl rfl) ?_
  refine RS (ok_extractV (xs := [_, _]) rfl rfl) ?_
  refine RN ?_
  refine ⟨_, _, eff_alloc (n := 147) (d := 11) (k := 1000011) zero35 (by decide), fun b11 hb11 => ?_⟩
  have hBb11 := hb11.1
  have hlt_b9_b11 : b9 < b11 := hb11.2 1000009 _ _ _ rfl
  refine TF 9 ?_
  refine RN ?_
  refine ⟨_, eff_storeA (n := 147) (s := 1000011) (size35.of (rfl)) rfl rfl (rfl) hBb11 rfl (rfl) (LO 0 rfl (LO 1 rfl (LV 5 rfl (LV 7 rfl (LV 8 rfl (LV 9 rfl (LV 10 rfl (LV 11 rfl (LV 47 rfl (LT 1000005 rfl (LB 1000009 rfl (LT 1000045 rfl LN)))))))))))), ?_⟩
  refine TL ?_
  refine RA rfl ?_
  refine RN ?_
  refine A.sub (KC 0 rfl (KC 1 rfl (KC 5 rfl (KC 7 rfl (KC 8 rfl (KC 9 rfl (KC 10 rfl (KC 11 rfl (KC 12 rfl (KC 1000005 rfl (KC 1000009 rfl (KC 1000011 rfl (KC 1000045 rfl KN))))))))))))) ?_
  refine GS ?_
  refine TL ?_
  refine RM rfl ?_
  refine RS (ok_call (of11_fn us.length (usR us)) (Args.cons rfl (Le.old _ _) Args.nil)) ?_
  refine RS (ok_call (Text_ok us hf (Nat.le_trans h1 (by decide)) hc (by omega)) (A1 rfl)) ?_
  refine RM rfl ?_
  refine RS (ok_extractV (xs := [_, _]) rfl rfl) ?_
  refine RS (ok_extractV (xs := [_, _]) rfl rfl) ?_
  refine RA rfl ?_
  refine RA rfl ?_
  refine RN ?_
  refine GS ?_
  refine TL ?_
  refine RM rfl ?_
  refine RS (ok_call (of11_fn us.length (usR us)) (Args.cons rfl (Le.old _ _) Args.nil)) ?_
  refine RS (ok_call (Repeats_fn us hf (Nat.le_trans h1 (by decide)) hc) (A1 rfl)) ?_
  refine RM rfl ?_
  refine RS (ok_extractV (xs := [_, _, _]) rfl rfl) ?_
  refine RS (ok_extractV (xs := [_, _, _]) rfl rfl) ?_
  refine RS (ok_extractV (xs := [_, _, _]) rfl rfl) ?_
  refine RA rfl ?_
  refine RA rfl ?_
  refine RA rfl ?_
  refine RN ?_
  refine GS ?_
  refine TL ?_
  refine RM rfl ?_
  refine RM rfl ?_
  refine RA rfl ?_
  refine RA rfl ?_
  refine RN ?_
  refine A.seq ?_
  refine GS ?_
  refine TL ?_
  refine RM rfl ?_
  refine RBS rfl rfl rfl (.bool true) (by rfl) ?_
  refine RN ?_
  refine A.yes rfl ?_
  refine GS ?_
  refine TL ?_
  refine RM rfl ?_
  refine RA rfl ?_
  refine RN ?_
  refine A.sub (KC 0 rfl (KC 1 rfl (KC 5 rfl (KC 7 rfl (KC 9 rfl (KC 10 rfl (KC 11 rfl (KC 12 rfl (KC 13 rfl (KC 14 rfl (KC 17 rfl (KC 19 rfl (KC 1000005 rfl (KC 1000009 rfl (KC 1000011 rfl (KC 1000045 rfl KN)))))))))))))))) ?_
  refine GE ?_
  refine TL ?_
  refine RS (ok_loadA (s := 1000005) (by decide) Try.underlying31 rfl (size31.of (usV_length hu)) rfl rfl) ?_
  refine RS (ok_build1K Try.underlying22 infoU rfl (by decide) (by decide) rfl (usV_length hu)) ?_
  refine RS (ok_call (refCheck_fn [u] (fit_one hu) (show 1 ≤ 1099511627776 by decide)) (Args.cons rfl (oneP_rowD.trans (Le.eq (congrArg (rowD 1) (usR_one u).symm))) Args.nil)) ?_
  refine RA rfl ?_
  refine RN ?_
  refine EN ?_
  refine A.seq ?_
  refine GS ?_
  refine TL ?_
  refine RM rfl ?_
  refine RS (ok_call (of11_fn us.length (usR us)) (Args.cons rfl (Le.old _ _) Args.nil)) ?_
  refine RS (ok_call (Check_fn us hf (Nat.le_trans h1 (by decide))) (A1 rfl)) ?_; refine RZ (.int .i64 0) (congrArg (Value.int .i64) hc) ?_
  refine RM rfl ?_
  refine RBS rfl rfl rfl (.bool false) (by simp) ?_
  refine RM rfl ?_
  refine RQ (ok_move rfl) ?_
  refine RQ (ok_move rfl) ?_
  refine RQ (ok_bin rfl rfl rfl) ?_; refine RZ (.bool false) (by simp) ?_
  refine RP rfl rfl ?_
  refine RM rfl ?_
  refine RQ (ok_move rfl) ?_
  refine RQ (ok_move rfl) ?_
  refine RQ (ok_bin rfl rfl rfl) ?_; refine RZ (.bool false) (by simp) ?_
  refine RP rfl rfl ?_
  refine RM rfl ?_
  refine RQ (ok_move rfl) ?_
  refine RQ (ok_move rfl) ?_
  refine RQ (ok_bin rfl rfl rfl) ?_; refine RZ (.bool false) (by simp) ?_
  refine RP rfl rfl ?_
  refine RM rfl ?_
  refine RQ (ok_move rfl) ?_
  refine RQ (ok_bin rfl rfl rfl) ?_; refine RZ (.bool false) (by rfl) ?_
  refine RQ (ok_move rfl) ?_
  refine RK ?_
  refine RK ?_
  refine RunK.skippedU rfl rfl rfl rfl ?_
  refine RunK.skippedU rfl rfl rfl rfl ?_
  refine RK ?_
  refine RQ (ok_pick rfl rfl) ?_
  refine RP rfl rfl ?_
  refine RN ?_
  refine A.sub (KC 0 rfl (KC 1 rfl (KC 5 rfl (KC 9 rfl (KC 11 rfl (KC 18 rfl (KC 19 rfl (KC 99 rfl (KC 1000005 rfl (KC 1000009 rfl (KC 1000011 rfl (KC 1000045 rfl KN)))))))))))) ?_
  refine A.no rfl ?_
  refine A.skip ?_
  refine EN ?_
  refine A.seq ?_
  refine GD ?_
  refine TL ?_
  refine RM rfl ?_
  refine RBS rfl rfl rfl (.bool false) (by simpa using hcu) ?_
  refine RM rfl ?_
  refine RK ?_
  refine RK ?_
  refine RK ?_
  refine RK ?_
  refine RK ?_
  refine RK ?_
  refine RK ?_
  refine RK ?_
  refine RK ?_
  refine RP rfl rfl ?_
  refine RM rfl ?_
  refine RQ (ok_move rfl) ?_
  refine RQ (ok_bin rfl rfl rfl) ?_; refine RZ (.bool true) (by simpa using hcu) ?_
  refine RQ (ok_move rfl) ?_
  refine RQ (ok_field field35_0 (by decide) rfl) ?_
  refine RQ (ok_loadV (s := 1000009) (by decide) Try.underlying22 rfl rfl rfl (rfl)) ?_
  refine RQ (ok_lenV Try.underlying22 rfl) ?_
  refine RQ (ok_bin rfl rfl rfl) ?_; refine RZ (.bool false) (by rfl) ?_
  refine RQ (ok_pick rfl rfl) ?_
  refine RP rfl rfl ?_
  refine RN ?_
  refine A.no rfl ?_
  refine A.skip ?_
  refine EN ?_
  refine A.regsX [⟨false, true, none⟩, ⟨false, true, none⟩, ⟨false, true, none⟩, ⟨false, true, none⟩, ⟨false, true, none⟩, ⟨false, true, none⟩, ⟨false, true, none⟩, ⟨false, true, none⟩, ⟨false, true, none⟩, ⟨false, true, none⟩, ⟨false, true, none⟩, ⟨false, true, none⟩, ⟨false, true, none⟩, ⟨false, false, some 17⟩, ⟨false, true, none⟩, ⟨false, false, some 17⟩, ⟨false, true, none⟩, ⟨true, false, none⟩, ⟨false, true, none⟩, ⟨false, true, none⟩, ⟨false, true, none⟩, ⟨false, true, none⟩, ⟨false, true, none⟩, ⟨false, true, none⟩, ⟨false, true, none⟩] _ (fun B => (OldH.p (t := 0) rfl (OldH.p (t := 1) rfl (OldH.same (t := 11) rfl (OldH.same (t := 19) rfl (OldH.same (t := 122) rfl (OldH.same (t := 1000005) rfl (OldH.same (t := 1000009) rfl (OldH.same (t := 1000011) rfl (OldH.same (t := 1000045) rfl OldH.nil)))))))))) (by kernel_rfl) (by kernel_rfl) (by kernel_rfl) (by kernel_rfl) (fun B hlt => (StaysL.cons (k := 0) (Stays.old _ _) (StaysL.cons (k := 1) (Stays.old _ _) (StaysL.cons (k := 11) (Stays.v _ _) (StaysL.cons (k := 19) (Stays.v _ _) (StaysL.cons (k := 122) (Stays.v _ _) (StaysL.cons (k := 1000005) (Stays.blk (hlt 1000005 _ _ _ rfl)) (StaysL.cons (k := 1000009) (Stays.blk (hlt 1000009 _ _ _ rfl)) (StaysL.cons (k := 1000011) (Stays.blk (hlt 1000011 _ _ _ rfl)) (StaysL.cons (k := 1000045) (Stays.blk (hlt 1000045 _ _ _ rfl)) StaysL.nil)))))))))) (fun B hB hlt => ?_)
  refine RunX.step rfl rfl (ok_move rfl) (fun _ => Stays.v _ _) ?_
  refine RunX.step rfl rfl (ok_bin rfl rfl rfl) (fun _ => Stays.v _ _) ?_; refine RunX.as (.bool false) (by rfl) ?_
  refine RunX.step rfl rfl (ok_move rfl) (fun _ => Stays.v _ _) ?_
  refine RunX.skipped rfl rfl rfl rfl rfl ?_
  refine RunX.skipped rfl rfl rfl rfl rfl ?_
  refine RunX.skipped rfl rfl rfl rfl rfl ?_
  refine RunX.skipped rfl rfl rfl rfl rfl ?_
  refine RunX.step rfl rfl (ok_pick rfl rfl) (fun _ => Stays.v _ _) ?_
  refine RunX.step rfl rfl (ok_move rfl) (fun _ => Stays.v _ _) ?_
  refine RunX.guarded rfl rfl rfl rfl (ok_move rfl) (fun _ => Stays.v _ _) ?_
  refine RunX.guarded rfl rfl rfl rfl (ok_bin rfl rfl rfl) (fun _ => Stays.v _ _) ?_; refine RunX.as (.bool true) (by rfl) ?_
  refine RunX.guarded rfl rfl rfl rfl (ok_move rfl) (fun _ => Stays.v _ _) ?_
  refine RunX.guarded rfl rfl rfl rfl (OpOk.hdBlkO (ok_loadA (s := 1000011) (by decide) Try.underlying35 rfl (size35.of (rfl)) rfl rfl) (k := 1000045) (by decide) rfl (hlt 1000045 _ _ _ rfl) (Nat.le_refl _)) (fun _ => Stays.old _ _) ?_
  refine RunX.guarded rfl rfl rfl rfl (ok_build0P Try.underlying22 infoU) (fun h => by cases h) ?_
  refine RunX.guarded rfl rfl rfl rfl (ok_move rfl) (fun _ => Stays.old _ _) ?_
  refine RunX.guarded rfl rfl rfl rfl (ok_append0P Try.underlying22 infoU (by decide) (by decide) rfl rfl rfl ((Le.old _ _).trans (Le.old _ _)) (usR_length hf) (by omega)) (fun h => by cases h) ?_
  refine RunX.guarded rfl rfl rfl rfl (ok_move rfl) (fun _ => Stays.old _ _) ?_
  refine RunX.effg rfl rfl rfl rfl (okx_appendP Try.underlying22 infoU (by decide) (by decide) rfl rfl rfl ((Le.old _ _).trans (Le.old _ _)) (usR_one' vs) (usR_length hg) (by omega)) (fun h => by cases h) ?_
  refine RunX.guarded rfl rfl rfl rfl (ok_call (same11_fn (us ++ vs) (hf.append hg) (by rw [List.length_append]; omega)) (Args.cons rfl ((Le.old _ _).trans (Le.eq (by rw [List.length_append]))) (Args.cons rfl (ownP_rowD.trans (Le.eq (by rw [usR_append, List.length_append]))) Args.nil))) (fun _ => Stays.v _ _) ?_
  refine RunX.guarded rfl rfl rfl rfl (ok_pick rfl rfl) (fun _ => Stays.v _ _) ?_
  refine RunX.step rfl rfl (ok_pick rfl rfl) (fun _ => Stays.v _ _) ?_
  refine RunX.step rfl rfl (ok_move rfl) (fun _ => Stays.v _ _) ?_
  refine RunX.guarded rfl rfl rfl rfl (ok_call lives11_fn Args.nil) (fun _ => Stays.v _ _) ?_
  refine RunX.step rfl rfl (ok_pick rfl rfl) (fun _ => Stays.v _ _) ?_
  refine RunX.step rfl rfl (ok_assign rfl) (fun _ => Stays.v _ _) ?_
  refine RunX.last (KC 6 rfl (KC 1000005 rfl (KC 1000009 rfl (KC 1000011 rfl (KC 1000045 rfl KN))))) (by kernel_rfl) ?_
  refine A.subL (SubL.cons (t := 6) rfl (Le.refl _) (SubL.cons (t := 1000005) rfl (Le.refl _) (SubL.cons (t := 1000009) rfl (Le.refl _) (SubL.cons (t := 1000011) rfl (Le.refl _) (SubL.cons (t := 1000045) rfl (Le.refl _) SubL.nil))))) ?_
  refine A.ret ?_
  exact End.ret1 rfl rfl (by first | exact Le.refl _ | exact Le.old _ _)
set_option maxHeartbeats 4000000 in
theorem LErr_bb (us vs : List Us) (u : Us) (hf : Fits us) (hg : Fits vs) (hu : u.Fit) (h1 : us.length ≤ 60) (h2 : vs.length ≤ 60) (hc : chkU us = 0) (hcu : chkU [u] ≠ 0) (hcv : chkU vs ≠ 0) : Fn Try.prog 3 [rowD us.length (usR us), rowD vs.length (usR vs), .v (aggV (usV u))] (.v (.bool true)) := by
 refine Fn.of Try.func3 rfl (by kernel_rfl) Try.ntmps3 (by simp) (fun w => [(0, old w.heap.size (rowD us.length (usR us))), (1, old w.heap.size (rowD vs.length (usR vs))), (2, .v (aggV (usV u)))]) (fun w => (Start.old rfl (Start.old rfl (Start.v rfl Start.nil)))) fun w₀ => ?_
 refine GS ?_
 refine TN 0 ?_
 refine RN ?_
 refine ⟨_, _, eff_box (n := 147) (d := 5) (k := 1000005) rfl (by decide), fun b5 hb5 => ?_⟩
 have hBb5 := hb5.1
 refine TL ?_
 refine RA rfl ?_
 refine RN ?_
 refine A.seq ?_
 refine GS ?_
 refine TL ?_
 refine RM rfl ?_
 refine RS (ok_lenRD Try.underlying22 rfl (Le.old _ _)) ?_
 refine RBS rfl rfl rfl (.bool false) (by simp; omega) ?_
 refine RM rfl ?_
 refine RQ (ok_move rfl) ?_
 refine RQ (ok_lenRD Try.underlying22 rfl (Le.old _ _)) ?_
 refine RQ (ok_bin rfl rfl rfl) ?_; refine RZ (.bool false) (by simp; omega) ?_
 refine RP rfl rfl ?_
 refine RN ?_
 refine A.no rfl ?_
 refine A.skip ?_
 refine EN ?_
 refine GS ?_
 refine TL ?_
 refine RM rfl ?_
 refine RS (ok_call (refCheck_fn us hf (Nat.le_trans h1 (by decide))) (Args.cons rfl (Le.old _ _) Args.nil)) ?_; refine RZ (.int .i64 0) (congrArg (Value.int .i64) hc) ?_
 refine RM rfl ?_
 refine RS (ok_call (refCheck_fn vs hg (Nat.le_trans h2 (by decide))) (Args.cons rfl (Le.old _ _) Args.nil)) ?_
 refine RA rfl ?_
 refine RA rfl ?_
 refine RN ?_
 refine A.dup (k := 1000005) (k' := 1000305) rfl (fun _ _ _ _ h => h) ?_
 refine A.regsLH _ (fun B => (OldH.p (t := 0) rfl (OldH.p (t := 1) rfl (OldH.same (t := 5) rfl (OldH.same (t := 7) rfl (OldH.same (t := 8) rfl (OldH.p (t := 1000005) rfl (OldH.same (t := 1000305) rfl OldH.nil)))))))) 8 [6] (by kernel_rfl) (by kernel_rfl) (by kernel_rfl) (by kernel_rfl) (fun B => [(0, old w₀.heap.size (rowD us.length (usR us))), (1, old w₀.heap.size (rowD vs.length (usR vs))), (1000005, blk b5 31 (usV u)), (7, .v (.int .i64 0)), (8, .v (.int .i64 (chkU vs))), (5, .v (.pointer (some ⟨b5, 0, none⟩))), (9, freshV B [b5] 35 [.slice none 0 0]), (10, .v (.int .i64 (chkU [u])))]) (fun B hB => ?_) (fun B hB => ?_)
 ·refine RM rfl ?_
  refine RS (ok_call (of11_fn us.length (usR us)) (Args.cons rfl ((Le.old _ _).trans (Le.old _ _)) Args.nil)) ?_
  refine RS (ok_loadA (s := 1000305) (by decide) Try.underlying31 rfl (size31.of (usV_length hu)) rfl rfl) ?_
  refine RS (ok_call (Add_bad us u hf hu (Nat.le_trans h1 (by decide)) (by rw [if_neg (fun h => h hc)]; exact hcu)) (A2 rfl rfl)) ?_; refine RZ (.tuple #[aggV [.slice none 0 0], .int .i64 (chkU [u])]) (by rw [if_neg (fun h => h hc)]) ?_
  refine RM rfl ?_
  refine RS (ok_extractV (xs := [_, _]) rfl rfl) ?_
  refine RS (ok_extractV (xs := [_, _]) rfl rfl) ?_
  refine RS (ok_allocF [b5] zero35 (Named.cons (s := 1000305) (by decide) rfl Named.nil)) ?_
  refine RN ?_
  intro S hS
  simp only [subs, List.map_cons, List.map_nil, List.cons_append, List.nil_append, List.mem_cons, List.not_mem_nil, or_false] at hS
  rcases hS with rfl | rfl
  ·refine ⟨1, Nat.le_of_ble_eq_true (by kernel_rfl), _, (KC 0 rfl (KC 1 rfl (KC 5 rfl (KC 7 rfl (KC 8 rfl (KC 9 rfl (KC 33 rfl (KC 34 rfl (KC 35 rfl (KC 36 rfl (KC 37 rfl (KC 38 rfl (KC 39 rfl (KC 1000005 rfl (KC 1000305 rfl KN))))))))))))))), by kernel_rfl, _, rfl, _, eff_storeFF (n := 147) (size35.of (rfl)) (Nat.le_refl _) rfl rfl (rfl) (rfl) (fun b hb => (LeftS.cons (t := 0) rfl (Surv.old hb) (LeftS.cons (t := 1) rfl (Surv.old hb) (LV 5 rfl (LV 7 rfl (LV 8 rfl (LV 33 rfl (LeftS.cons (t := 34) rfl (Surv.old hb) (LV 36 rfl (LV 37 rfl (LV 38 rfl (LV 39 rfl (LeftS.cons (t := 1000005) rfl (Surv.old hb) LN))))))))))))), ?_⟩
   refine AnyT.step 9 [] (by kernel_rfl) ?_
   refine NextT.pure (by kernel_rfl) rfl rfl rfl (ok_assign rfl) ?_ ?_
   ·refine AnyT.last (by kernel_rfl) ?_
    exact (SubL.cons (t := 0) rfl (Le.old _ _) (SubL.cons (t := 1) rfl (Le.old _ _) (SubL.cons (t := 1000005) rfl (Le.old _ _) (SubL.cons (t := 7) rfl (Le.refl _) (SubL.cons (t := 8) rfl (Le.refl _) (SubL.cons (t := 5) rfl (Le.refl _) (SubL.cons (t := 9) rfl (Le.refl _) (SubL.cons (t := 10) rfl (Le.refl _) SubL.nil))))))))
   exact trivial
  ·refine ⟨2, Nat.le_of_ble_eq_true (by kernel_rfl), _, (KC 0 rfl (KC 1 rfl (KC 5 rfl (KC 7 rfl (KC 8 rfl (KC 9 rfl (KC 33 rfl (KC 34 rfl (KC 35 rfl (KC 36 rfl (KC 37 rfl (KC 38 rfl (KC 1000005 rfl (KC 1000305 rfl KN)))))))))))))), by kernel_rfl, _, rfl, _, eff_storeFF (n := 147) (size35.of (rfl)) (Nat.le_refl _) rfl rfl (rfl) (rfl) (fun b hb => (LeftS.cons (t := 0) rfl (Surv.old hb) (LeftS.cons (t := 1) rfl (Surv.old hb) (LV 5 rfl (LV 7 rfl (LV 8 rfl (LV 33 rfl (LeftS.cons (t := 34) rfl (Surv.old hb) (LV 36 rfl (LV 37 rfl (LV 38 rfl (LeftS.cons (t := 1000005) rfl (Surv.old hb) LN)))))))))))), ?_⟩
   refine AnyT.step 6 [] (by kernel_rfl) ?_
   refine NextT.pure (by kernel_rfl) rfl rfl rfl (ok_extractV (xs := [_, _]) rfl rfl) ?_ ?_
   ·refine AnyT.step 9 [] (by kernel_rfl) ?_
    refine NextT.pure (by kernel_rfl) rfl rfl rfl (ok_assign rfl) ?_ ?_
    ·refine AnyT.last (by kernel_rfl) ?_
     exact (SubL.cons (t := 0) rfl (Le.old _ _) (SubL.cons (t := 1) rfl (Le.old _ _) (SubL.cons (t := 1000005) rfl (Le.old _ _) (SubL.cons (t := 7) rfl (Le.refl _) (SubL.cons (t := 8) rfl (Le.refl _) (SubL.cons (t := 5) rfl (Le.refl _) (SubL.cons (t := 9) rfl (Le.refl _) (SubL.cons (t := 10) rfl (Le.refl _) SubL.nil))))))))
    exact trivial
   exact trivial
 ·refine A.openFreshV (t := 9) (k := 1000009) rfl fun b9 hBr9 hLt9 => ?_
  have hBb9 : w₀.heap.size ≤ b9 := by omega
  have hlt_b5_b9 := hLt9 b5 (by simp)
  refine GS ?_
  refine TN 8 ?_
  refine RM rfl ?_
  refine RS (ok_call (of11_fn us.length (usR us)) (Args.cons rfl (Le.old _ _) Args.nil)) ?_
  refine RM rfl ?_
  refine RS (ok_call (of11_fn vs.length (usR vs)) (Args.cons rfl (Le.old _ _) Args.nil)) ?_
  refine RS (ok_call (Merge_bad us vs hf hg (Nat.le_trans h1 (by decide)) (Nat.le_trans h2 (by decide)) (by rw [if_neg (fun h => h hc)]; exact hcv)) (A2 rfl rfl)) ?_; refine RZ (.tuple #[aggV [.slice none 0 0], .int .i64 (chkU vs)]) (by rw [if_neg (fun h => h hc)]) ?_
  refine RM rfl ?_
  refine RS (ok_extractV (xs := [_, _]) rfl rfl) ?_
  refine RS (ok_extractV (xs := [_, _]) rfl rfl) ?_
  refine RN ?_
  refine ⟨_, _, eff_alloc (n := 147) (d := 11) (k := 1000011) zero35 (by decide), fun b11 hb11 => ?_⟩
  have hBb11 := hb11.1
  have hlt_b9_b11 : b9 < b11 := hb11.2 1000009 _ _ _ rfl
  refine TF 9 ?_
  refine RN ?_
  refine ⟨_, eff_storeA (n := 147) (s := 1000011) (size35.of (rfl)) rfl rfl (rfl) hBb11 rfl (rfl) (LO 0 rfl (LO 1 rfl (LV 5 rfl (LV 7 rfl (LV 8 rfl (LV 9 rfl (LV 10 rfl (LV 11 rfl (LV 47 rfl (LT 1000005 rfl (LB 1000009 rfl LN))))))))))), ?_⟩
  refine TL ?_
  refine RA rfl ?_
  refine RN ?_
  refine A.sub (KC 0 rfl (KC 1 rfl (KC 5 rfl (KC 7 rfl (KC 8 rfl (KC 9 rfl (KC 10 rfl (KC 11 rfl (KC 12 rfl (KC 1000005 rfl (KC 1000009 rfl (KC 1000011 rfl KN)))))))))))) ?_
  refine GS ?_
  refine TL ?_
  refine RM rfl ?_
  refine RS (ok_call (of11_fn us.length (usR us)) (Args.cons rfl (Le.old _ _) Args.nil)) ?_
  refine RS (ok_call (Text_ok us hf (Nat.le_trans h1 (by decide)) hc (by omega)) (A1 rfl)) ?_
  refine RM rfl ?_
  refine RS (ok_extractV (xs := [_, _]) rfl rfl) ?_
  refine RS (ok_extractV (xs := [_, _]) rfl rfl) ?_
  refine RA rfl ?_
  refine RA rfl ?_
  refine RN ?_
  refine GS ?_
  refine TL ?_
  refine RM rfl ?_
  refine RS (ok_call (of11_fn us.length (usR us)) (Args.cons rfl (Le.old _ _) Args.nil)) ?_
  refine RS (ok_call (Repeats_fn us hf (Nat.le_trans h1 (by decide)) hc) (A1 rfl)) ?_
  refine RM rfl ?_
  refine RS (ok_extractV (xs := [_, _, _]) rfl rfl) ?_
  refine RS (ok_extractV (xs := [_, _, _]) rfl rfl) ?_
  refine RS (ok_extractV (xs := [_, _, _]) rfl rfl) ?_
  refine RA rfl ?_
  refine RA rfl ?_
  refine RA rfl ?_
  refine RN ?_
  refine GS ?_
  refine TL ?_
  refine RM rfl ?_
  refine RM rfl ?_
  refine RA rfl ?_
  refine RA rfl ?_
  refine RN ?_
  refine A.seq ?_
  refine GS ?_
  refine TL ?_
  refine RM rfl ?_
  refine RBS rfl rfl rfl (.bool true) (by rfl) ?_
  refine RN ?_
  refine A.yes rfl ?_
  refine GS ?_
  refine TL ?_
  refine RM rfl ?_
  refine RA rfl ?_
  refine RN ?_
  refine A.sub (KC 0 rfl (KC 1 rfl (KC 5 rfl (KC 7 rfl (KC 9 rfl (KC 10 rfl (KC 11 rfl (KC 12 rfl (KC 13 rfl (KC 14 rfl (KC 17 rfl (KC 19 rfl (KC 1000005 rfl (KC 1000009 rfl (KC 1000011 rfl KN))))))))))))))) ?_
  refine GE ?_
  refine TL ?_
  refine RS (ok_loadA (s := 1000005) (by decide) Try.underlying31 rfl (size31.of (usV_length hu)) rfl rfl) ?_
  refine RS (ok_build1K Try.underlying22 infoU rfl (by decide) (by decide) rfl (usV_length hu)) ?_
  refine RS (ok_call (refCheck_fn [u] (fit_one hu) (show 1 ≤ 1099511627776 by decide)) (Args.cons rfl (oneP_rowD.trans (Le.eq (congrArg (rowD 1) (usR_one u).symm))) Args.nil)) ?_
  refine RA rfl ?_
  refine RN ?_
  refine EN ?_
  refine A.seq ?_
  refine GS ?_
  refine TL ?_
  refine RM rfl ?_
  refine RS (ok_call (of11_fn us.length (usR us)) (Args.cons rfl (Le.old _ _) Args.nil)) ?_
  refine RS (ok_call (Check_fn us hf (Nat.le_trans h1 (by decide))) (A1 rfl)) ?_; refine RZ (.int .i64 0) (congrArg (Value.int .i64) hc) ?_
  refine RM rfl ?_
  refine RBS rfl rfl rfl (.bool false) (by simp) ?_
  refine RM rfl ?_
  refine RQ (ok_move rfl) ?_
  refine RQ (ok_move rfl) ?_
  refine RQ (ok_bin rfl rfl rfl) ?_; refine RZ (.bool false) (by simp) ?_
  refine RP rfl rfl ?_
  refine RM rfl ?_
  refine RQ (ok_move rfl) ?_
  refine RQ (ok_move rfl) ?_
  refine RQ (ok_bin rfl rfl rfl) ?_; refine RZ (.bool false) (by simp) ?_
  refine RP rfl rfl ?_
  refine RM rfl ?_
  refine RQ (ok_move rfl) ?_
  refine RQ (ok_move rfl) ?_
  refine RQ (ok_bin rfl rfl rfl) ?_; refine RZ (.bool false) (by simp) ?_
  refine RP rfl rfl ?_
  refine RM rfl ?_
  refine RQ (ok_move rfl) ?_
  refine RQ (ok_bin rfl rfl rfl) ?_; refine RZ (.bool false) (by rfl) ?_
  refine RQ (ok_move rfl) ?_
  refine RK ?_
  refine RK ?_
  refine RunK.skippedU rfl rfl rfl rfl ?_
  refine RunK.skippedU rfl rfl rfl rfl ?_
  refine RK ?_
  refine RQ (ok_pick rfl rfl) ?_
  refine RP rfl rfl ?_
  refine RN ?_
  refine A.sub (KC 0 rfl (KC 1 rfl (KC 5 rfl (KC 9 rfl (KC 11 rfl (KC 18 rfl (KC 19 rfl (KC 99 rfl (KC 1000005 rfl (KC 1000009 rfl (KC 1000011 rfl KN))))))))))) ?_
  refine A.no rfl ?_
  refine A.skip ?_
  refine EN ?_
  refine A.seq ?_
  refine GD ?_
  refine TL ?_
  refine RM rfl ?_
  refine RBS rfl rfl rfl (.bool false) (by simpa using hcu) ?_
  refine RM rfl ?_
  refine RK ?_
  refine RK ?_
  refine RK ?_
  refine RK ?_
  refine RK ?_
  refine RK ?_
  refine RK ?_
  refine RK ?_
  refine RK ?_
  refine RP rfl rfl ?_
  refine RM rfl ?_
  refine RQ (ok_move rfl) ?_
  refine RQ (ok_bin rfl rfl rfl) ?_; refine RZ (.bool true) (by simpa using hcu) ?_
  refine RQ (ok_move rfl) ?_
  refine RQ (ok_field field35_0 (by decide) rfl) ?_
  refine RQ (ok_loadV (s := 1000009) (by decide) Try.underlying22 rfl rfl rfl (rfl)) ?_
  refine RQ (ok_lenV Try.underlying22 rfl) ?_
  refine RQ (ok_bin rfl rfl rfl) ?_; refine RZ (.bool false) (by rfl) ?_
  refine RQ (ok_pick rfl rfl) ?_
  refine RP rfl rfl ?_
  refine RN ?_
  refine A.no rfl ?_
  refine A.skip ?_
  refine EN ?_
  refine GD ?_
  refine TL ?_
  refine RM rfl ?_
  refine RBS rfl rfl rfl (.bool true) (by simpa using hcv) ?_
  refine RM rfl ?_
  refine RQ (ok_field field35_0 (by decide) rfl) ?_
  refine RQ (ok_loadV (s := 1000011) (by decide) Try.underlying22 rfl rfl rfl (rfl)) ?_
  refine RQ (ok_lenV Try.underlying22 rfl) ?_
  refine RQ (ok_bin rfl rfl rfl) ?_; refine RZ (.bool true) (by rfl) ?_
  refine RP rfl rfl ?_
  refine RM rfl ?_
  refine RK ?_
  refine RK ?_
  refine RK ?_
  refine RunK.skippedU rfl rfl rfl rfl ?_
  refine RunK.skippedU rfl rfl rfl rfl ?_
  refine RunK.skippedU rfl rfl rfl rfl ?_
  refine RunK.skippedU rfl rfl rfl rfl ?_
  refine RunK.skippedU rfl rfl rfl rfl ?_
  refine RunK.skippedU rfl rfl rfl rfl ?_
  refine RunK.skippedU rfl rfl rfl rfl ?_
  refine RK ?_
  refine RP rfl rfl ?_
  refine RM rfl ?_
  refine RQ (ok_call lives11_fn Args.nil) ?_
  refine RP rfl rfl ?_
  refine RA rfl ?_
  refine RN ?_
  refine A.sub (KC 6 rfl (KC 1000005 rfl (KC 1000009 rfl (KC 1000011 rfl KN)))) ?_
  refine A.ret ?_
  exact End.ret1 rfl rfl (by first | exact Le.refl _ | exact Le.old _ _)
theorem LedgersErrors_fn (us vs : List Us) (u : Us) (hf : Fits us) (hg : Fits vs) (hu : u.Fit) : Fn Try.prog 3 [rowD us.length (usR us), rowD vs.length (usR vs), .v (aggV (usV u))] (.v (.bool true)) := by
 by_cases h1 : 60 < us.length
 ·exact LErr_l1 us vs u hf hg hu h1
 by_cases h2 : 60 < vs.length
 ·exact LErr_l2 us vs u hf hg hu (by omega) h2
 have h3 : us.length ≤ 60 := by omega
 have h4 : vs.length ≤ 60 := by omega
 by_cases hc : chkU us = 0
 ·by_cases hcu : chkU [u] = 0
  ·by_cases hcv : chkU vs = 0
   ·exact LErr_gg us vs u hf hg hu h3 h4 hc hcu hcv
   ·exact LErr_gb us vs u hf hg hu h3 h4 hc hcu hcv
  ·by_cases hcv : chkU vs = 0
   ·exact LErr_bg us vs u hf hg hu h3 h4 hc hcu hcv
   ·exact LErr_bb us vs u hf hg hu h3 h4 hc hcu hcv
 ·exact LErr_bad us vs u hf hg hu h3 h4 hc
end Go.Proofs.Ythhmimnkfklhdaa
namespace Go.Proofs.Ythhmimnkfklhdaa
open Go Go.RowKit Go.ChangeShapes Go.WideShapes
set_option linter.unusedVariables false
set_option linter.unusedSimpArgs false
section
variable {H : Type} {enc : TypeId × Value → H} {P : Program} {w : World} {base : Nat} {held : Bool}
/-- Elements, one behind the other. -/
theorem flat_at {α : Type} {f : α → List Value} {sz : Nat} (hl : ∀ x, (f x).length = sz) : ∀ {l : List α} {i k : Nat}, (hi : i < l.length) → k < sz → (l.flatMap f)[i * sz + k]? = (f l[i])[k]?
  | x :: l, 0, k, _, hk => by
    simp only [List.flatMap_cons, List.getElem_cons_zero, Nat.zero_mul, Nat.zero_add]
    rw [List.getElem?_append_left (by rw [hl]; exact hk)]
  | x :: l, i + 1, k, hi, hk => by
    have ih := flat_at (f := f) hl (l := l) (i := i) (k := k) (by simpa using hi) hk
    simp only [List.flatMap_cons, List.getElem_cons_succ]
    rw [List.getElem?_append_right (by rw [hl, Nat.add_mul]; omega), hl, show (i + 1) * sz + k - sz = i * sz + k by rw [Nat.add_mul]; omega, ih]
theorem trod_rows {α : Type} {f : α → List Value} {R : α → Prop} {sz n : Nat} {ks : List IntKind} (x₀ : α) (hl : ∀ x, R x → (f x).length = sz) (h0 : (f x₀).length = sz) (hopen : ∀ ys, Kin (fun k m => (Lit.int k m).wf = true) ks ys → ∃ x, R x ∧ ys = f x)
    {t e : TypeId} {fuel : Nat} {cs : List Value} {y : DataW H × List MemPlace} (ht : P.underlying t = some (.slice e)) (hf : flat P n e = some ks) (hc : P.cellsOf e = sz) (hsz : 0 < sz) (h : DataW.trod enc P w base (fun _ => true) held fuel t cs = some y) :
    ∃ (v : Value) (l : List α), cs = [v] ∧ (∀ x ∈ l, R x) ∧ (rowD l.length (l.flatMap f)).Of w v ∧ (∃ A m c, v = .slice A m c) := by
  rcases DataW.trod_slice ht h with ⟨rfl, _⟩ | ⟨a, len, cap, elems, rest, m, _, rfl, _, hba, hlc, hm, hlen, hel, _, _⟩
  · exact ⟨_, [], rfl, (fun x hx => by cases hx), rowD_nil.of (w := w) (x := .slice none 0 0) rfl, _, _, _, rfl⟩
  · have each : ∀ i, ∃ x : α, (f x).length = sz ∧ (i < len → R x ∧ ∀ k, k < sz → w.cell? (a.add (i * sz + k)) = (f x)[k]?) := fun i => by
      by_cases hi : i < len
      · have h1 := hel i hi
        rw [List.getElem?_eq_getElem (by omega), hc, Option.bind_eq_some_iff] at h1
        obtain ⟨cs', h2, h3⟩ := h1
        obtain ⟨x, hx, rfl⟩ := hopen _ (trod_flat n hf h3)
        obtain ⟨_, _, h4⟩ := World.cells?_some h2
        exact ⟨x, hl x hx, fun _ => ⟨hx, fun k hk => by rw [← add_of_add]; exact h4 k hk⟩⟩
      · exact ⟨x₀, h0, fun h => absurd h hi⟩
    obtain ⟨g, hg⟩ := Classical.axiomOfChoice each
    have hgl : ∀ i, (f (g i)).length = sz := fun i => (hg i).1
    refine ⟨_, (List.range len).map g, rfl, fun x hx => ?_, ?_, _, _, _, rfl⟩
    · obtain ⟨i, hi, rfl⟩ := List.mem_map.1 hx
      exact ((hg i).2 (List.mem_range.1 hi)).1
    · refine ⟨some a, cap, by simp, fun j u hu => ⟨a, rfl, ?_, ?_⟩⟩
      all_goals
        have hfm : ((List.range len).map g).flatMap f = (List.range len).flatMap fun i => f (g i) := by rw [List.flatMap_map]
        have hj : j < len * sz := by
          have h5 := (List.getElem?_eq_some_iff.1 hu).1
          rw [hfm, List.length_flatMap] at h5
          have h6 : ((List.range len).map fun i => (f (g i)).length).sum = len * sz := by
            rw [show ((List.range len).map fun i => (f (g i)).length) = List.replicate len sz from by rw [List.eq_replicate_iff]; exact ⟨by simp, fun b hb => by obtain ⟨i, _, rfl⟩ := List.mem_map.1 hb; exact hgl i⟩]
            simp
          omega
        have hi : j / sz < len := by rw [Nat.div_lt_iff_lt_mul hsz]; exact hj
        have hk : j % sz < sz := Nat.mod_lt _ hsz
        have hjj : j / sz * sz + j % sz = j := Nat.div_add_mod' j sz
        have hcell := ((hg (j / sz)).2 hi).2 (j % sz) hk
        have h7 := flat_at (f := fun i => f (g i)) hgl (l := List.range len) (i := j / sz) (k := j % sz) (by simpa using hi) hk
        rw [hjj, List.getElem_range] at h7
        rw [hfm] at hu
        rw [hjj, ← h7, hu] at hcell
      · have := block_of_cell hcell
        rwa [block_of_add] at this
      · exact hcell
theorem arg_rows {α : Type} {f : α → List Value} {R : α → Prop} {sz n : Nat} {ks : List IntKind} (x₀ : α) (hl : ∀ x, R x → (f x).length = sz) (h0 : (f x₀).length = sz) (hopen : ∀ ys, Kin (fun k m => (Lit.int k m).wf = true) ks ys → ∃ x, R x ∧ ys = f x)
    {t e : TypeId} {v : Value} {d : DataW H} {ps : List MemPlace} (ht : P.underlying t = some (.slice e)) (hf : flat P n e = some ks) (hc : P.cellsOf e = sz) (hsz : 0 < sz) {r : Reach} {b0 : Nat} (hk : Value.okWide P w r b0 t v)
    (h : DataW.Trod enc P w base (fun _ => true) held t v d ps) : ∃ l : List α, (∀ x ∈ l, R x) ∧ (rowD l.length (l.flatMap f)).Of w v := by
  obtain ⟨a, len, cap, rfl⟩ := okWide_slice ht hk
  obtain ⟨fuel, hf'⟩ := h
  obtain ⟨v, l, h1, h2, h3, _⟩ := trod_rows x₀ hl h0 hopen ht hf hc hsz hf'
  simp only [Value.cells, List.cons.injEq] at h1
  exact ⟨l, h2, h1.1 ▸ h3⟩
/-- A struct of one such slice. -/
theorem arg_hdrows {α : Type} {f : α → List Value} {R : α → Prop} {sz n : Nat} {ks : List IntKind} (x₀ : α) (hl : ∀ x, R x → (f x).length = sz) (h0 : (f x₀).length = sz) (hopen : ∀ ys, Kin (fun k m => (Lit.int k m).wf = true) ks ys → ∃ x, R x ∧ ys = f x)
    {t e : TypeId} {f0 : Field} {v : Value} {d : DataW H} {ps : List MemPlace} (ht : P.underlying t = some (.struct #[f0])) (o0 : f0.offset = 0) (t0 : P.underlying f0.type = some (.slice e)) (c0 : P.cellsOf f0.type = 1) (hC : P.cellsOf t = 1) (hf : flat P n e = some ks) (hc : P.cellsOf e = sz) (hsz : 0 < sz) {r : Reach} {b0 : Nat} (hk : Value.okWide P w r b0 t v)
    (h : DataW.Trod enc P w base (fun _ => true) held t v d ps) : ∃ l : List α, (∀ x ∈ l, R x) ∧ (hdD (rowD l.length (l.flatMap f)) []).Of w v := by
  obtain ⟨cs, rfl, hcs⟩ := okWide_struct ht hk
  obtain ⟨fuel, hf'⟩ := h
  obtain ⟨xs, m, _, _, hlen, hxl, hel⟩ := DataW.trod_struct ht hf'
  have hlen' : cs.toList.length = 1 := by rw [← hC]; exact hlen
  have hxl' : xs.length = 1 := by simpa using hxl
  have e0 := hel 0 f0 rfl
  rw [List.getElem?_eq_getElem (by omega), o0, c0] at e0
  obtain ⟨u, l, h1, h2, h3, A, q, c, hv⟩ := trod_rows x₀ hl h0 hopen t0 hf hc hsz e0
  refine ⟨l, h2, u, by rw [hv]; rfl, ?_, h3⟩
  have h1' : (cs.toList.drop 0).take 1 = [u] := h1
  unfold aggV
  congr 1
  apply Array.ext'
  show cs.toList = [u]
  match hcl : cs.toList, hlen' with
  | [x], _ => rw [hcl] at h1'; simpa using h1'
theorem arg_strV {t : TypeId} {v : Value} (ht : P.underlying t = some .string) {r : Reach} {b0 : Nat} (hk : Value.okWide P w r b0 t v) : ∃ l : List UInt8, v = strV l := by
  obtain ⟨s, rfl⟩ := okWide_string ht hk
  exact ⟨s.data.toList, by unfold strV; congr⟩
theorem use_open {ys : List Value} (h : Kin (fun k m => (Lit.int k m).wf = true) (List.replicate 16 .u8 ++ [.u32, .u64, .u32, .u32]) ys) : ∃ u : Us, u.Fit ∧ ys = usV u := by
  obtain ⟨x, y, rfl, h1, h2⟩ := h.append
  obtain ⟨l, hl, rfl⟩ := h1.bytes
  obtain ⟨s, y, rfl, h3, h4⟩ := h2.cons
  obtain ⟨c, y, rfl, h5, h6⟩ := h4.cons
  obtain ⟨a, y, rfl, h7, h8⟩ := h6.cons
  obtain ⟨b, rfl, h9⟩ := h8.one
  obtain ⟨s, rfl, hs⟩ := nat_u32 h3
  obtain ⟨c, rfl, hc⟩ := nat_u64 h5
  obtain ⟨a, rfl, ha⟩ := nat_u32 h7
  obtain ⟨b, rfl, hb⟩ := nat_u32 h9
  exact ⟨⟨l, s, c, a, b⟩, ⟨hl, hs, hc, ha, hb⟩, rfl⟩
def zeroUs : Us := ⟨List.replicate 16 0, 0, 0, 0, 0⟩
theorem zeroUs_fit : zeroUs.Fit := ⟨rfl, by show 0 < 4294967296; decide, by show 0 < 18446744073709551616; decide, by show 0 < 4294967296; decide, by show 0 < 4294967296; decide⟩
theorem arg_uses {n : Nat} {t e : TypeId} {v : Value} {d : DataW H} {ps : List MemPlace} (ht : P.underlying t = some (.slice e)) (hf : flat P n e = some (List.replicate 16 .u8 ++ [.u32, .u64, .u32, .u32])) (hc : P.cellsOf e = 20) {r : Reach} {b0 : Nat} (hk : Value.okWide P w r b0 t v)
    (h : DataW.Trod enc P w base (fun _ => true) held t v d ps) : ∃ us : List Us, Fits us ∧ (rowD us.length (usR us)).Of w v :=
  arg_rows (f := usV) (R := Us.Fit) zeroUs (fun _ h => usV_length h) (usV_length zeroUs_fit) (fun _ h => use_open h) ht hf hc (by decide) hk h
theorem arg_use {n : Nat} {t : TypeId} {v : Value} {d : DataW H} {ps : List MemPlace} (hf : flat P n t = some (List.replicate 16 .u8 ++ [.u32, .u64, .u32, .u32])) (hg : isAggT P t = true) {r : Reach} {b0 : Nat} (hk : Value.okWide P w r b0 t v)
    (h : DataW.Trod enc P w base (fun _ => true) held t v d ps) : ∃ u : Us, u.Fit ∧ v = aggV (usV u) := by
  obtain ⟨xs, rfl, hx⟩ := arg_flat n hf hg hk h
  obtain ⟨u, hu, rfl⟩ := use_open hx
  exact ⟨u, hu, rfl⟩
theorem four_open {ys : List Value} (h : Kin (fun k m => (Lit.int k m).wf = true) (List.replicate 4 .u8) ys) : ∃ x : UInt8 × UInt8 × UInt8 × UInt8, True ∧ ys = [byteV x.1, byteV x.2.1, byteV x.2.2.1, byteV x.2.2.2] := by
  obtain ⟨l, hl, rfl⟩ := h.bytes
  match l, hl with
  | [a, b, c, d], _ => exact ⟨(a, b, c, d), trivial, rfl⟩
end
end Go.Proofs.Ythhmimnkfklhdaa
namespace Go.Proofs.Ythhmimnkfklhdaa
open Go Go.RowKit
set_option linter.unusedVariables false
set_option linter.unusedSimpArgs false
section
variable {P : Program} {B : Nat} {E : Env} {dst : Option Tmp} {ty : TypeId} {pos : String} {after : Array Edge} {guard : Option (Nat × Bool)}
theorem ok_neBool {t t' : TypeId} {x y : Operand} {a b : Bool} (ht : P.underlying t = some .bool) (hx : E.at x = some (.v (.bool a))) (hy : E.at y = some (.v (.bool b))) : OpOk P B ⟨dst, .binOp .neq t x y t', ty, pos, after, guard⟩ E (.v (.bool (!(a == b)))) := fun ρ w _ _ hρ => by
  have h1 : ρ x = .bool a := hρ x (by simp [Op.operands]) _ hx
  have h2 : ρ y = .bool b := hρ y (by simp [Op.operands]) _ hy
  have h3 := run_equalIn_bool' (P := P) w 9999 t a b ht
  exact out_val (w' := w) (by simp [execOp, h1, h2, eqGuard, binOp, Op.equal, Op.maxDepth, h3]) ⟨Grow.refl w, rfl⟩
/-- A part of an element: its first cells. -/
theorem ok_loadElemT {T : TypeId} {td : TypeDesc} {x : Operand} {us : List Value} (n : Nat) (ht : P.underlying T = some td) (hp : (match td with | .struct _ | .array _ _ => true | _ => false) = true) (hsz : SizeIs P T n) (hn : n ≤ us.length) (hx : E.at x = some (elemP us)) :
    OpOk P B ⟨dst, .load T x, ty, pos, after, guard⟩ E (.v (aggV (us.take n))) := fun ρ w _ _ hρ => by
  obtain ⟨ad, h1, _, h3⟩ := hρ x (by simp [Op.operands]) _ hx
  have hagg : (isAgg T).run P w = .ok true w := by
    unfold isAgg
    simp only [Sem.run_bind, run_underlying ht, Result.andThen_ok]
    cases td <;> simp_all
  have hl : (us.take n).length = n := by simp [hn]
  have hc := run_loadCells_list (P := P) w ad (us.take n) (fun j u hu => by
    rw [List.getElem?_take] at hu
    split at hu
    · exact h3 j u hu
    · cases hu)
  rw [hl] at hc
  obtain ⟨info, hinfo, hs⟩ := hsz.get
  exact out_val (x := aggV (us.take n)) (w' := w) (by simp [execOp, h1, Instr.loadAt, Instr.sureAddr, loadVar, hagg, sizeOf, typeInfo, hinfo, hs, hc, aggV]) ⟨Grow.refl w, rfl⟩
/-- Part of a string. -/
theorem ok_sliceBT {t : TypeId} {x o o' : Operand} {l : List UInt8} {kd kd' : IntKind} (a h : Nat) (ht : P.underlying t = some .string) (hx : E.at x = some (.v (strV l))) (ho' : E.at o' = some (.v (.int kd' (a : Int)))) (ho : E.at o = some (.v (.int kd (h : Int)))) (hah : a ≤ h) (hh : h ≤ l.length) :
    OpOk P B ⟨dst, .slice t x (some o') (some o) none, ty, pos, after, guard⟩ E (.v (strV ((l.take h).drop a))) := fun ρ w _ _ hρ => by
  have h1 : ρ x = .string ⟨l.toArray⟩ := hρ x (by simp [Op.operands]) _ hx
  have h2 : ρ o = .int kd (h : Int) := hρ o (by simp [Op.operands]) _ ho
  have h3 : ρ o' = .int kd' (a : Int) := hρ o' (by simp [Op.operands]) _ ho'
  have hs : (⟨l.toArray⟩ : ByteArray).size = l.length := str_size l
  refine out_val (x := strV ((l.take h).drop a)) (w' := w) ?_ ⟨Grow.refl w, rfl⟩
  simp [execOp, h1, h2, h3, Instr.sliceAt, Instr.slice, run_underlying ht, Instr.sliceBounds, Instr.sliceBound, asIntOf, hs, hh, hah, extract_take, strV]
/-- The address of an element of a slice that is told exactly. -/
theorem ok_indexVK {t e : TypeId} {z : Value} {sz nb : Nat} {x i : Operand} {b n c : Nat} {k : IntKind} (m : Nat) (ht : P.underlying t = some (.slice e)) (hs : InfoP P e z sz nb) (hx : E.at x = some (.v (.slice (some ⟨b, 0, none⟩) n c))) (hi : E.at i = some (.v (.int k (m : Int)))) (hn : m < n) :
    OpOk P B ⟨dst, .indexAddr t x i, ty, pos, after, guard⟩ E (.v (.pointer (some ⟨b, m * sz, none⟩))) := fun ρ w _ _ hρ => by
  have h1 : ρ x = _ := hρ x (by simp [Op.operands]) _ hx
  have hi' : ρ i = .int k (m : Int) := hρ i (by simp [Op.operands]) _ hi
  obtain ⟨info, hinfo, _, hsize, _⟩ := hs.get
  refine out_val (w' := w) ?_ ⟨Grow.refl w, rfl⟩
  have : (⟨b, 0, none⟩ : Addr).add (m * sz) = ⟨b, m * sz, none⟩ := by unfold Addr.add; split <;> simp_all
  simp [execOp, h1, hi', Instr.indexAt, asIntOf, run_underlying ht, sizeOf, typeInfo, hinfo, hsize, hn, this]
/-- The first elements of a slice that is told exactly. -/
theorem ok_sliceHiK {t e : TypeId} {z : Value} {sz nb : Nat} {x o : Operand} {b n c : Nat} {kd : IntKind} (h : Nat) (ht : P.underlying t = some (.slice e)) (hs : InfoP P e z sz nb) (hx : E.at x = some (.v (.slice (some ⟨b, 0, none⟩) n c))) (ho : E.at o = some (.v (.int kd (h : Int)))) (hh : h ≤ c) :
    OpOk P B ⟨dst, .slice t x none (some o) none, ty, pos, after, guard⟩ E (.v (.slice (some ⟨b, 0, none⟩) h c)) := fun ρ w _ _ hρ => by
  have h1 : ρ x = _ := hρ x (by simp [Op.operands]) _ hx
  have h2 : ρ o = .int kd (h : Int) := hρ o (by simp [Op.operands]) _ ho
  obtain ⟨info, hinfo, _, hsize, _⟩ := hs.get
  refine out_val (x := .slice (some ⟨b, 0, none⟩) h c) (w' := w) ?_ ⟨Grow.refl w, rfl⟩
  simp [execOp, h1, h2, Instr.sliceAt, Instr.slice, run_underlying ht, Instr.sliceBounds, Instr.sliceBound, asIntOf, sizeOf, typeInfo, hinfo, hsize, hh]
  intro _; unfold Addr.add; split <;> simp_all
theorem usR_take {us : List Us} (hf : Fits us) (m : Nat) : usR (us.take m) = (usR us).take (m * 20) := by
  rcases Nat.lt_or_ge us.length m with h | h
  · rw [List.take_of_length_le (by omega), List.take_of_length_le (by rw [usR_length hf]; omega)]
  · conv => rhs; rw [← List.take_append_drop m us, usR_append]
    rw [List.take_left' (by rw [usR_length (fun u hu => hf u (List.mem_of_mem_take hu)), List.length_take, Nat.min_eq_left h])]
theorem rowIn_take {B : Nat} {w : World} {A : Option Addr} {xs : List Value} (k : Nat) (h : RowIn B w A xs) : RowIn B w A (xs.take k) := fun j u hu => by
  rw [List.getElem?_take] at hu
  split at hu
  · exact h j u hu
  · cases hu
theorem OpOk.rowTake {o : Oper} {b q k m : Nat} {e : TypeId} (us : List Us) (h : OpOk P B o E (.v (.slice (some ⟨b, 0, none⟩) m q))) (hk : vbase ≤ k) (hl : E.look k = some (blk b e (usR us))) (hf : Fits us) (hm : m ≤ us.length) : OpOk P B o E (rowD (us.take m).length (usR (us.take m))) := fun ρ w hB hv hρ => by
  refine (h ρ w hB hv hρ).mono fun x w' hx => ⟨hx.1, ?_⟩
  have h2 : (blk b e (usR us)).Of w' undef := D.Of.grow (hv k _ hk hl) hx.1
  refine ⟨some ⟨b, 0, none⟩, q, ?_, ?_⟩
  · rw [List.length_take, Nat.min_eq_left hm]; exact hx.2
  · rw [usR_take hf]; exact rowIn_take _ (blk_rowIn h2.1 h2.2)
theorem OpOk.hdTake {o : Oper} {b q k m : Nat} {e : TypeId} (us : List Us) (h : OpOk P B o E (.v (aggV [.slice (some ⟨b, 0, none⟩) m q]))) (hk : vbase ≤ k) (hl : E.look k = some (blk b e (usR us))) (hf : Fits us) (hm : m ≤ us.length) : OpOk P B o E (hdD (rowD (us.take m).length (usR (us.take m))) []) := fun ρ w hB hv hρ => by
  refine (h ρ w hB hv hρ).mono fun x w' hx => ⟨hx.1, ?_⟩
  have h2 : (blk b e (usR us)).Of w' undef := D.Of.grow (hv k _ hk hl) hx.1
  refine ⟨_, rfl, hx.2, some ⟨b, 0, none⟩, q, ?_, ?_⟩
  · rw [List.length_take, Nat.min_eq_left hm]
  · rw [usR_take hf]; exact rowIn_take _ (blk_rowIn h2.1 h2.2)
end
section
theorem usR_cell {us : List Us} (hf : Fits us) {i k : Nat} (hi : i < us.length) (hk : k < 20) : (usR us)[i * 20 + k]? = (usV us[i])[k]? := by
  have := congrArg (fun l : List Value => l[k]?) (usR_at hf hi)
  simp only [List.getElem?_take, List.getElem?_drop, if_pos hk] at this
  exact this
/-- A cell of a use is written. -/
theorem usR_set : ∀ {us : List Us} {i k : Nat} {u' : Us} {v : Value}, Fits us → (hi : i < us.length) → k < 20 → (usV us[i]).set k v = usV u' → (usR us).set (i * 20 + k) v = usR (us.set i u')
  | u :: us, 0, k, u', v, hf, _, hk, h => by
    simp only [usR, List.flatMap_cons, List.getElem_cons_zero, Nat.zero_mul, Nat.zero_add, List.set_cons_zero] at h ⊢
    rw [List.set_append_left _ _ (by rw [usV_length hf.cons.1]; exact hk), h]
  | u :: us, i + 1, k, u', v, hf, hi, hk, h => by
    have ih := usR_set (us := us) (i := i) (k := k) (u' := u') (v := v) hf.cons.2 (by simpa using hi) hk (by simpa using h)
    simp only [usR, List.flatMap_cons, List.set_cons_succ] at ih ⊢
    rw [List.set_append_right _ _ (by rw [usV_length hf.cons.1]; omega), usV_length hf.cons.1, show (i + 1) * 20 + k - 20 = i * 20 + k by omega, ih]
/-- Made rows of uses that are zero. -/
theorem made_usR {z : Array Value} {u : Us} (hu : u.Fit) (hz : z.toList = usV u) (n : Nat) : (madeCells z (n * 20)).toList = usR (List.replicate n u) := by
  have hzs : z.size = 20 := by rw [← Array.length_toList, hz, usV_length hu]
  have hf : Fits (List.replicate n u) := fun v hv => by rw [(List.mem_replicate.1 hv).2]; exact hu
  apply List.ext_getElem?
  intro q
  rcases Nat.lt_or_ge q (n * 20) with hq | hq
  · have hi : q / 20 < (List.replicate n u).length := by rw [List.length_replicate]; omega
    have hc := usR_cell hf hi (k := q % 20) (by omega)
    rw [show q / 20 * 20 + q % 20 = q by omega] at hc
    rw [hc, List.getElem_replicate, ← hz]
    have hk : q % 20 < z.size := by omega
    simp [madeCells, hq, hzs]
    rw [Array.getElem?_eq_getElem (by omega)]
    simp [hk]
  · rw [List.getElem?_eq_none (by rw [Array.length_toList, size_madeCells]; exact hq), List.getElem?_eq_none (by rw [usR_length hf, List.length_replicate]; exact hq)]
end
end Go.Proofs.Ythhmimnkfklhdaa
