/-
  OWN TEXTS of this seat, put together, part 5: C15a, Many, C15b, Vars, C15c.
-/
import Derived.Test.YtfjpipkcfbmdeaaDoorM1
import Derived.Test.YtfjpipkcfbmdeaaDoorM4
import Derived.Test.YtfjpipkcfbmdeaaDoorM3
import Derived.Test.YtfjpipkcfbmdeaaDoorM2
namespace Go.Proofs.YtfjpipkcfbmdeaaDoor
open Go Go.RowKit
set_option linter.unusedVariables false
set_option maxRecDepth 20000
set_option linter.unusedSimpArgs false
theorem emp_e15 {a : UInt8} {j i : Nat} : ((NodT.emp a j).e i).Z := by unfold NodT.e NodT.emp; simp only; rw [ze_get]; exact EntT.z_iff.2 rfl
theorem emp_r15 {a : UInt8} {j i : Nat} : ((NodT.emp a j).r i).Z := by unfold NodT.r NodT.emp; simp only; rw [zr_get]; exact RecT.z_iff.2 rfl
theorem emp_ck15 {a : UInt8} (h : a.toNat ≤ 5) (j : Nat) : (NodT.emp a j).ck = 0 := by
 by_cases h0 : a.toNat = 0
 ·exact NodT.ok_R h0 (fun i _ => emp_e15) fun i _ => by rw [RecT.z_iff.1 emp_r15]; exact RecT.zero_ok
 ·exact NodT.ok_E (by show ¬ 5 < a.toNat; omega) h0 (fun i _ => emp_r15) fun i _ => by rw [EntT.z_iff.1 emp_e15]; exact EntT.zero_ok
/-- The root of an empty volume of n blocks, and its fresh cell. -/
def hgB (n : Nat) : UInt8 := UInt8.ofNat (hg n)
theorem hgB_nat {n : Nat} (h1 : 1 ≤ n) (h2 : n ≤ 4096) : (hgB n).toNat = hg n := by
 have := hg_le n
 rw [hgB, UInt8.toNat_ofNat', Nat.mod_eq_of_lt (by omega)]
def frC (n : Nat) : CelT := ⟨sha (NodT.emp (hgB n) 0).bl, 0, 0⟩
theorem frC_fit (n : Nat) : (frC n).Fit := ⟨sha_length _, by show 0 < _; decide, by show 0 < _; decide⟩
theorem buildC (t : List UInt8) (e m : Nat) (ht : t.length = 32) : Tryd.prog.built 30 [(0, aggV (t.map byteV)), (1, .int .u64 (e : Int)), (2, .int .u64 (m : Int))] = some (CelT.v ⟨t, e, m⟩).toArray := by
 match t, ht with
 | [a0, a1, a2, a3, a4, a5, a6, a7, a8, a9, b0, b1, b2, b3, b4, b5, b6, b7, b8, b9, c0, c1, c2, c3, c4, c5, c6, c7, c8, c9, d0, d1], _ => show _ = _; kernel_rfl
theorem buildC0 (t : List UInt8) (ht : t.length = 32) : Tryd.prog.built 30 [(0, aggV (t.map byteV))] = some (CelT.v ⟨t, 0, 0⟩).toArray := by
 match t, ht with
 | [a0, a1, a2, a3, a4, a5, a6, a7, a8, a9, b0, b1, b2, b3, b4, b5, b6, b7, b8, b9, c0, c1, c2, c3, c4, c5, c6, c7, c8, c9, d0, d1], _ => show _ = _; kernel_rfl
theorem infoC : InfoP Tryd.prog 30 (aggV CelT.zero.v) 34 48 := by unfold InfoP; kernel_rfl
theorem set_m {c : CelT} (h : c.Fit) (k : Nat) : c.v.set 33 (nQ k) = CelT.v ⟨c.t, c.e, k⟩ := cel_set33 _ _ _ h.t
theorem set_e {c : CelT} (h : c.Fit) (k : Nat) : c.v.set 32 (nQ k) = CelT.v ⟨c.t, k, c.m⟩ := cel_set32 _ _ _ h.t


theorem Slot_fn (c : CelT) (hc : c.Fit)  : Fn Tryd.prog 12 [.v (aggV c.v)] (.v (nI (c.e % 2))) := by
 refine Fn.of Tryd.func12 rfl (by kernel_rfl) Tryd.ntmps12 (by simp) (fun w => [(0, .v (aggV c.v))]) (fun w => (Start.v rfl Start.nil)) fun w₀ => ?_
 refine GS ?_
 refine TN 0 ?_
 refine RN ?_
 refine ⟨_, _, eff_box (n := 7) (d := 1) (k := 1000001) rfl (by decide), fun b1 hb1 => ?_⟩
 have hBb1 := hb1.1
 refine TL ?_
 refine RA rfl ?_
 refine RN ?_
 refine GS ?_
 refine TL ?_
 refine RS (ok_field field30_1 (by decide) rfl) ?_
 refine RS (ok_loadV (s := 1000001) (by decide) Tryd.underlying28 rfl rfl rfl (hc.ve)) ?_
 refine RS (ok_rem rfl rfl (by decide)) ?_; refine RZ (nQ (c.e % 2)) (by rw [tmod_lit _ (by decide)]; rfl) ?_
 refine RS (ok_conv Tryd.underlying28 Tryd.underlying3 rfl) ?_; refine RZ (nI (c.e % 2)) (wrap_eq rfl (by omega)) ?_
 refine RA rfl ?_
 refine RN ?_
 refine A.ret ?_
 exact End.ret1 rfl rfl (by first | exact Le.refl _ | exact Le.old _ _)
theorem Next_max (c : CelT) (hc : c.Fit) (t : List UInt8) (ht : t.length = 32) (h : c.e = 18446744073709551615) : Fn Tryd.prog 15 [.v (aggV c.v), .v (aggV (t.map byteV))] (.v (.tuple #[aggV (CelT.zero.v), .int .i64 3])) := by
 refine Fn.of Tryd.func15 rfl (by kernel_rfl) Tryd.ntmps15 (by simp) (fun w => [(0, .v (aggV c.v)), (1, .v (aggV (t.map byteV)))]) (fun w => (Start.v rfl (Start.v rfl Start.nil))) fun w₀ => ?_
 refine GS ?_
 refine TN 0 ?_
 refine RN ?_
 refine ⟨_, _, eff_box (n := 17) (d := 2) (k := 1000002) rfl (by decide), fun b2 hb2 => ?_⟩
 have hBb2 := hb2.1
 refine TN 1 ?_
 refine RN ?_
 refine ⟨_, _, eff_box (n := 17) (d := 3) (k := 1000003) rfl (by decide), fun b3 hb3 => ?_⟩
 have hBb3 := hb3.1
 refine TN 2 ?_
 refine RN ?_
 refine ⟨_, _, eff_alloc (n := 17) (d := 4) (k := 1000004) zero30 (by decide), fun b4 hb4 => ?_⟩
 have hBb4 := hb4.1
 have hlt_b2_b4 : b2 < b4 := hb4.2 1000002 _ _ _ rfl
 refine TL ?_
 refine RA rfl ?_
 refine RN ?_
 refine A.seq ?_
 refine GS ?_
 refine TL ?_
 refine RS (ok_field field30_1 (by decide) rfl) ?_
 refine RS (ok_loadV (s := 1000002) (by decide) Tryd.underlying28 rfl rfl rfl (hc.ve)) ?_
 refine RBS rfl rfl rfl (.bool true) (by first | rfl | (simp; done) | (simp; omega) | (simp [*]; done) | (simp [*]; omega)) ?_
 refine RN ?_
 refine A.yes rfl ?_
 refine GS ?_
 refine TF 1 ?_
 refine RS (ok_lit [] (CelT.v CelT.zero) (fun _ _ => rfl) (by kernel_rfl)) ?_
 refine RN ?_
 refine ⟨_, eff_storeA (n := 17) (s := 1000004) (size30.of (CelT.zero_fit.len)) rfl rfl (CelT.one _) hBb4 rfl (by rw [CelT.zero_fit.len]; rfl) (LV 4 rfl (LB 1000002 rfl (LT 1000003 rfl LN))), ?_⟩
 refine TL ?_
 refine RA rfl ?_
 refine RN ?_
 refine A.ret ?_
 refine End.ret_then ?_
 exact End.cellV (s := 1000004) rfl Tryd.underlying30 rfl (size30.of (CelT.zero_fit.len)) rfl rfl rfl
theorem Next_ok (c : CelT) (hc : c.Fit) (t : List UInt8) (ht : t.length = 32) (h : ¬ c.e = 18446744073709551615) : Fn Tryd.prog 15 [.v (aggV c.v), .v (aggV (t.map byteV))] (.v (.tuple #[aggV (CelT.v ⟨t, c.e + 1, c.m⟩), .int .i64 0])) := by
 have he := hc.e
 have hf : (⟨t, c.e + 1, c.m⟩ : CelT).Fit := ⟨ht, by show c.e + 1 < _; omega, hc.m⟩
 refine Fn.of Tryd.func15 rfl (by kernel_rfl) Tryd.ntmps15 (by simp) (fun w => [(0, .v (aggV c.v)), (1, .v (aggV (t.map byteV)))]) (fun w => (Start.v rfl (Start.v rfl Start.nil))) fun w₀ => ?_
 refine GS ?_
 refine TN 0 ?_
 refine RN ?_
 refine ⟨_, _, eff_box (n := 17) (d := 2) (k := 1000002) rfl (by decide), fun b2 hb2 => ?_⟩
 have hBb2 := hb2.1
 refine TN 1 ?_
 refine RN ?_
 refine ⟨_, _, eff_box (n := 17) (d := 3) (k := 1000003) rfl (by decide), fun b3 hb3 => ?_⟩
 have hBb3 := hb3.1
 refine TN 2 ?_
 refine RN ?_
 refine ⟨_, _, eff_alloc (n := 17) (d := 4) (k := 1000004) zero30 (by decide), fun b4 hb4 => ?_⟩
 have hBb4 := hb4.1
 have hlt_b2_b4 : b2 < b4 := hb4.2 1000002 _ _ _ rfl
 refine TL ?_
 refine RA rfl ?_
 refine RN ?_
 refine A.seq ?_
 refine GS ?_
 refine TL ?_
 refine RS (ok_field field30_1 (by decide) rfl) ?_
 refine RS (ok_loadV (s := 1000002) (by decide) Tryd.underlying28 rfl rfl rfl (hc.ve)) ?_
 refine RBS rfl rfl rfl (.bool false) (by first | rfl | (simp; done) | (simp; omega) | (simp [*]; done) | (simp [*]; omega)) ?_
 refine RN ?_
 refine A.no rfl ?_
 refine A.skip ?_
 refine EN ?_
 refine GS ?_
 refine TF 7 ?_
 refine RS (ok_loadA (s := 1000003) (by decide) Tryd.underlying27 rfl (size27.of (by rw [List.length_map, ht])) rfl rfl) ?_
 refine RS (ok_field field30_1 (by decide) rfl) ?_
 refine RS (ok_loadV (s := 1000002) (by decide) Tryd.underlying28 rfl rfl rfl (hc.ve)) ?_
 refine RBS rfl rfl rfl (nQ (c.e + 1)) (by rw [show (c.e : Int) + 1 = ((c.e + 1 : Nat) : Int) from rfl]; exact congrArg _ (wrap_u64 (by omega) (by omega))) ?_
 refine RS (ok_field field30_2 (by decide) rfl) ?_
 refine RS (ok_loadV (s := 1000002) (by decide) Tryd.underlying28 rfl rfl rfl (hc.vm)) ?_
 refine RS (ok_litS [(0, aggV (t.map byteV)), (1, nQ (c.e + 1)), (2, .int .u64 (c.m : Int))] (CelT.v ⟨t, c.e + 1, c.m⟩) ⟨rfl, rfl, rfl, rfl, rfl, rfl, trivial⟩ (buildC _ _ _ ht)) ?_
 refine RN ?_
 refine ⟨_, eff_storeA (n := 17) (s := 1000004) (size30.of (hf.len)) rfl rfl (CelT.one _) hBb4 rfl (by rw [hf.len]; rfl) (LV 4 rfl (LB 1000002 rfl (LT 1000003 rfl LN))), ?_⟩
 refine TL ?_
 refine RA rfl ?_
 refine RN ?_
 refine A.ret ?_
 exact End.cellV (s := 1000004) rfl Tryd.underlying30 rfl (size30.of (hf.len)) rfl rfl rfl
theorem Next_fn (c : CelT) (hc : c.Fit) (t : List UInt8) (ht : t.length = 32) : Fn Tryd.prog 15 [.v (aggV c.v), .v (aggV (t.map byteV))] (.v (.tuple #[aggV (CelT.nxC c t).v, .int .i64 (CelT.nxE c)])) := by
 unfold CelT.nxC CelT.nxE
 by_cases h : c.e = 18446744073709551615
 ·rw [if_pos h, if_pos h]; exact Next_max c hc t ht h
 ·rw [if_neg h, if_neg h]; exact Next_ok c hc t ht h
theorem Res_zero (c : CelT) (hc : c.Fit) (k lim : Nat) (hk : k < 18446744073709551616) (hl : lim < 18446744073709551616) (h : k = 0) : Fn Tryd.prog 17 [.v (aggV c.v), .v (.int .u64 (k : Int)), .v (.int .u64 (lim : Int))] (.v (.tuple #[aggV (CelT.zero.v), .int .i64 1])) := by
 refine Fn.of Tryd.func17 rfl (by kernel_rfl) Tryd.ntmps17 (by simp) (fun w => [(0, .v (aggV c.v)), (1, .v (.int .u64 (k : Int))), (2, .v (.int .u64 (lim : Int)))]) (fun w => (Start.v rfl (Start.v rfl (Start.v rfl Start.nil)))) fun w₀ => ?_
 refine GS ?_
 refine TN 0 ?_
 refine RN ?_
 refine ⟨_, _, eff_box (n := 32) (d := 3) (k := 1000003) rfl (by decide), fun b3 hb3 => ?_⟩
 have hBb3 := hb3.1
 refine TN 1 ?_
 refine RN ?_
 refine ⟨_, _, eff_alloc (n := 32) (d := 6) (k := 1000006) zero30 (by decide), fun b6 hb6 => ?_⟩
 have hBb6 := hb6.1
 have hlt_b3_b6 : b3 < b6 := hb6.2 1000003 _ _ _ rfl
 refine TL ?_
 refine RA rfl ?_
 refine RN ?_
 refine A.seq ?_
 refine A.block ?_
 refine GS ?_
 refine TL ?_
 refine RM rfl ?_
 refine RBS rfl rfl rfl (.bool true) (by first | rfl | (simp; done) | (simp; omega) | (simp [*]; done) | (simp [*]; omega)) ?_
 refine RA rfl ?_
 refine RN ?_
 refine A.yes rfl ?_
 refine GS ?_
 refine TF 1 ?_
 refine RS (ok_lit [] (CelT.v CelT.zero) (fun _ _ => rfl) (by kernel_rfl)) ?_
 refine RN ?_
 refine ⟨_, eff_storeA (n := 32) (s := 1000006) (size30.of (CelT.zero_fit.len)) rfl rfl (CelT.one _) hBb6 rfl (by rw [CelT.zero_fit.len]; rfl) (LV 6 rfl (LB 1000003 rfl LN)), ?_⟩
 refine TL ?_
 refine RA rfl ?_
 refine RN ?_
 refine A.ret ?_
 refine End.ret_block ?_
 refine End.ret_then ?_
 exact End.cellV (s := 1000006) rfl Tryd.underlying30 rfl (size30.of (CelT.zero_fit.len)) rfl rfl rfl
theorem Res_above (c : CelT) (hc : c.Fit) (k lim : Nat) (hk : k < 18446744073709551616) (hl : lim < 18446744073709551616) (h0 : ¬ k = 0) (h : lim < c.m) : Fn Tryd.prog 17 [.v (aggV c.v), .v (.int .u64 (k : Int)), .v (.int .u64 (lim : Int))] (.v (.tuple #[aggV (CelT.zero.v), .int .i64 8])) := by
 refine Fn.of Tryd.func17 rfl (by kernel_rfl) Tryd.ntmps17 (by simp) (fun w => [(0, .v (aggV c.v)), (1, .v (.int .u64 (k : Int))), (2, .v (.int .u64 (lim : Int)))]) (fun w => (Start.v rfl (Start.v rfl (Start.v rfl Start.nil)))) fun w₀ => ?_
 refine GS ?_
 refine TN 0 ?_
 refine RN ?_
 refine ⟨_, _, eff_box (n := 32) (d := 3) (k := 1000003) rfl (by decide), fun b3 hb3 => ?_⟩
 have hBb3 := hb3.1
 refine TN 1 ?_
 refine RN ?_
 refine ⟨_, _, eff_alloc (n := 32) (d := 6) (k := 1000006) zero30 (by decide), fun b6 hb6 => ?_⟩
 have hBb6 := hb6.1
 have hlt_b3_b6 : b3 < b6 := hb6.2 1000003 _ _ _ rfl
 refine TL ?_
 refine RA rfl ?_
 refine RN ?_
 refine A.seq ?_
 refine A.block ?_
 refine GS ?_
 refine TL ?_
 refine RM rfl ?_
 refine RBS rfl rfl rfl (.bool false) (by first | rfl | (simp; done) | (simp; omega) | (simp [*]; done) | (simp [*]; omega)) ?_
 refine RA rfl ?_
 refine RN ?_
 refine A.no rfl ?_
 refine GS ?_
 refine TL ?_
 refine RS (ok_field field30_2 (by decide) rfl) ?_
 refine RS (ok_loadV (s := 1000003) (by decide) Tryd.underlying28 rfl rfl rfl (hc.vm)) ?_
 refine RM rfl ?_
 refine RBS rfl rfl rfl (.bool true) (by first | rfl | (simp; done) | (simp; omega) | (simp [*]; done) | (simp [*]; omega)) ?_
 refine RM rfl ?_
 refine RK ?_
 refine RK ?_
 refine RK ?_
 refine RK ?_
 refine RK ?_
 refine RK ?_
 refine RP rfl rfl ?_
 refine RA rfl ?_
 refine RN ?_
 refine A.yes rfl ?_
 refine GS ?_
 refine TF 1 ?_
 refine RS (ok_lit [] (CelT.v CelT.zero) (fun _ _ => rfl) (by kernel_rfl)) ?_
 refine RN ?_
 refine ⟨_, eff_storeA (n := 32) (s := 1000006) (size30.of (CelT.zero_fit.len)) rfl rfl (CelT.one _) hBb6 rfl (by rw [CelT.zero_fit.len]; rfl) (LV 6 rfl (LB 1000003 rfl LN)), ?_⟩
 refine TL ?_
 refine RA rfl ?_
 refine RN ?_
 refine A.ret ?_
 refine End.ret_block ?_
 refine End.ret_then ?_
 exact End.cellV (s := 1000006) rfl Tryd.underlying30 rfl (size30.of (CelT.zero_fit.len)) rfl rfl rfl
theorem Res_far (c : CelT) (hc : c.Fit) (k lim : Nat) (hk : k < 18446744073709551616) (hl : lim < 18446744073709551616) (h0 : ¬ k = 0) (h : ¬ lim < c.m) (h2 : lim - c.m < k) : Fn Tryd.prog 17 [.v (aggV c.v), .v (.int .u64 (k : Int)), .v (.int .u64 (lim : Int))] (.v (.tuple #[aggV (CelT.zero.v), .int .i64 8])) := by
 refine Fn.of Tryd.func17 rfl (by kernel_rfl) Tryd.ntmps17 (by simp) (fun w => [(0, .v (aggV c.v)), (1, .v (.int .u64 (k : Int))), (2, .v (.int .u64 (lim : Int)))]) (fun w => (Start.v rfl (Start.v rfl (Start.v rfl Start.nil)))) fun w₀ => ?_
 refine GS ?_
 refine TN 0 ?_
 refine RN ?_
 refine ⟨_, _, eff_box (n := 32) (d := 3) (k := 1000003) rfl (by decide), fun b3 hb3 => ?_⟩
 have hBb3 := hb3.1
 refine TN 1 ?_
 refine RN ?_
 refine ⟨_, _, eff_alloc (n := 32) (d := 6) (k := 1000006) zero30 (by decide), fun b6 hb6 => ?_⟩
 have hBb6 := hb6.1
 have hlt_b3_b6 : b3 < b6 := hb6.2 1000003 _ _ _ rfl
 refine TL ?_
 refine RA rfl ?_
 refine RN ?_
 refine A.seq ?_
 refine A.block ?_
 refine GS ?_
 refine TL ?_
 refine RM rfl ?_
 refine RBS rfl rfl rfl (.bool false) (by first | rfl | (simp; done) | (simp; omega) | (simp [*]; done) | (simp [*]; omega)) ?_
 refine RA rfl ?_
 refine RN ?_
 refine A.no rfl ?_
 refine GS ?_
 refine TL ?_
 refine RS (ok_field field30_2 (by decide) rfl) ?_
 refine RS (ok_loadV (s := 1000003) (by decide) Tryd.underlying28 rfl rfl rfl (hc.vm)) ?_
 refine RM rfl ?_
 refine RBS rfl rfl rfl (.bool false) (by first | rfl | (simp; done) | (simp; omega) | (simp [*]; done) | (simp [*]; omega)) ?_
 refine RM rfl ?_
 refine RQ (ok_move rfl) ?_
 refine RQ (ok_move rfl) ?_
 refine RQ (ok_field field30_2 (by decide) rfl) ?_
 refine RQ (ok_loadV (s := 1000003) (by decide) Tryd.underlying28 rfl rfl rfl (hc.vm)) ?_
 refine RQ (ok_bin rfl rfl rfl) ?_; refine RZ (nQ (lim - c.m)) (by rw [show (lim : Int) - (c.m : Int) = ((lim - c.m : Nat) : Int) from by omega]; exact congrArg _ (wrap_u64 (by omega) (by omega))) ?_
 refine RQ (ok_bin rfl rfl rfl) ?_; refine RZ (.bool true) (by first | rfl | (simp; done) | (simp; omega) | (simp [*]; done) | (simp [*]; omega)) ?_
 refine RP rfl rfl ?_
 refine RA rfl ?_
 refine RN ?_
 refine A.yes rfl ?_
 refine GS ?_
 refine TF 1 ?_
 refine RS (ok_lit [] (CelT.v CelT.zero) (fun _ _ => rfl) (by kernel_rfl)) ?_
 refine RN ?_
 refine ⟨_, eff_storeA (n := 32) (s := 1000006) (size30.of (CelT.zero_fit.len)) rfl rfl (CelT.one _) hBb6 rfl (by rw [CelT.zero_fit.len]; rfl) (LV 6 rfl (LB 1000003 rfl LN)), ?_⟩
 refine TL ?_
 refine RA rfl ?_
 refine RN ?_
 refine A.ret ?_
 refine End.ret_block ?_
 refine End.ret_then ?_
 exact End.cellV (s := 1000006) rfl Tryd.underlying30 rfl (size30.of (CelT.zero_fit.len)) rfl rfl rfl
theorem Res_ok (c : CelT) (hc : c.Fit) (k lim : Nat) (hk : k < 18446744073709551616) (hl : lim < 18446744073709551616) (h0 : ¬ k = 0) (h : ¬ lim < c.m) (h2 : ¬ lim - c.m < k) : Fn Tryd.prog 17 [.v (aggV c.v), .v (.int .u64 (k : Int)), .v (.int .u64 (lim : Int))] (.v (.tuple #[aggV (CelT.v ⟨c.t, c.e, c.m + k⟩), .int .i64 0])) := by
 have hf : (⟨c.t, c.e, c.m + k⟩ : CelT).Fit := ⟨hc.t, hc.e, by show c.m + k < _; omega⟩
 refine Fn.of Tryd.func17 rfl (by kernel_rfl) Tryd.ntmps17 (by simp) (fun w => [(0, .v (aggV c.v)), (1, .v (.int .u64 (k : Int))), (2, .v (.int .u64 (lim : Int)))]) (fun w => (Start.v rfl (Start.v rfl (Start.v rfl Start.nil)))) fun w₀ => ?_
 refine GS ?_
 refine TN 0 ?_
 refine RN ?_
 refine ⟨_, _, eff_box (n := 32) (d := 3) (k := 1000003) rfl (by decide), fun b3 hb3 => ?_⟩
 have hBb3 := hb3.1
 refine TN 1 ?_
 refine RN ?_
 refine ⟨_, _, eff_alloc (n := 32) (d := 6) (k := 1000006) zero30 (by decide), fun b6 hb6 => ?_⟩
 have hBb6 := hb6.1
 have hlt_b3_b6 : b3 < b6 := hb6.2 1000003 _ _ _ rfl
 refine TL ?_
 refine RA rfl ?_
 refine RN ?_
 refine A.seq ?_
 refine A.block ?_
 refine GS ?_
 refine TL ?_
 refine RM rfl ?_
 refine RBS rfl rfl rfl (.bool false) (by first | rfl | (simp; done) | (simp; omega) | (simp [*]; done) | (simp [*]; omega)) ?_
 refine RA rfl ?_
 refine RN ?_
 refine A.no rfl ?_
 refine GS ?_
 refine TL ?_
 refine RS (ok_field field30_2 (by decide) rfl) ?_
 refine RS (ok_loadV (s := 1000003) (by decide) Tryd.underlying28 rfl rfl rfl (hc.vm)) ?_
 refine RM rfl ?_
 refine RBS rfl rfl rfl (.bool false) (by first | rfl | (simp; done) | (simp; omega) | (simp [*]; done) | (simp [*]; omega)) ?_
 refine RM rfl ?_
 refine RQ (ok_move rfl) ?_
 refine RQ (ok_move rfl) ?_
 refine RQ (ok_field field30_2 (by decide) rfl) ?_
 refine RQ (ok_loadV (s := 1000003) (by decide) Tryd.underlying28 rfl rfl rfl (hc.vm)) ?_
 refine RQ (ok_bin rfl rfl rfl) ?_; refine RZ (nQ (lim - c.m)) (by rw [show (lim : Int) - (c.m : Int) = ((lim - c.m : Nat) : Int) from by omega]; exact congrArg _ (wrap_u64 (by omega) (by omega))) ?_
 refine RQ (ok_bin rfl rfl rfl) ?_; refine RZ (.bool false) (by first | rfl | (simp; done) | (simp; omega) | (simp [*]; done) | (simp [*]; omega)) ?_
 refine RP rfl rfl ?_
 refine RA rfl ?_
 refine RN ?_
 refine A.no rfl ?_
 refine A.skip ?_
 refine End.normal_block ?_
 refine EN ?_
 refine GS ?_
 refine TF 5 ?_
 refine RS (ok_field field30_2 (by decide) rfl) ?_
 refine RS (ok_loadV (s := 1000003) (by decide) Tryd.underlying28 rfl rfl rfl (hc.vm)) ?_
 refine RM rfl ?_
 refine RBS rfl rfl rfl (nQ (c.m + k)) (by rw [show (c.m : Int) + (k : Int) = ((c.m + k : Nat) : Int) from by omega]; exact congrArg _ (wrap_u64 (by omega) (by omega))) ?_
 refine RS (ok_field field30_2 (by decide) rfl) ?_
 refine RN ?_
 refine ⟨_, eff_storeS (n := 32) (s := 1000003) info28 rfl rfl rfl hBb3 rfl (by rw [hc.len]; decide) (LV 3 rfl (LV 6 rfl (LB 1000006 rfl LN))), ?_⟩
 refine TL ?_
 refine RN ?_
 refine A.sub (KC 3 rfl (KC 6 rfl (KE 1000003 rfl (show _ = blk b3 30 _ from congrArg _ (set_m hc _)) (KC 1000006 rfl KN)))) ?_
 refine GS ?_
 refine TF 1 ?_
 refine RS (ok_loadA (s := 1000003) (by decide) Tryd.underlying30 rfl (size30.of (hf.len)) rfl rfl) ?_
 refine RN ?_
 refine ⟨_, eff_storeA (n := 32) (s := 1000006) (size30.of (hf.len)) rfl rfl (CelT.one _) hBb6 rfl (by rw [hf.len]; rfl) (LV 6 rfl (LB 1000003 rfl LN)), ?_⟩
 refine TL ?_
 refine RA rfl ?_
 refine RN ?_
 refine A.ret ?_
 exact End.cellV (s := 1000006) rfl Tryd.underlying30 rfl (size30.of (hf.len)) rfl rfl rfl
theorem Reserve_fn (c : CelT) (hc : c.Fit) (k lim : Nat) (hk : k < 18446744073709551616) (hl : lim < 18446744073709551616) : Fn Tryd.prog 17 [.v (aggV c.v), .v (.int .u64 (k : Int)), .v (.int .u64 (lim : Int))] (.v (.tuple #[aggV (CelT.rsC c k lim).v, .int .i64 (CelT.rsE c k lim)])) := by
 unfold CelT.rsC CelT.rsE
 by_cases h0 : k = 0
 ·rw [if_pos (.inl h0), if_pos h0]; exact Res_zero c hc k lim hk hl h0
 rw [if_neg h0]
 by_cases h : lim < c.m
 ·rw [if_pos (.inr (.inl h)), if_pos (.inl h)]; exact Res_above c hc k lim hk hl h0 h
 by_cases h2 : lim - c.m < k
 ·rw [if_pos (.inr (.inr h2)), if_pos (.inr h2)]; exact Res_far c hc k lim hk hl h0 h h2
 ·rw [if_neg (by omega), if_neg (by omega)]; exact Res_ok c hc k lim hk hl h0 h h2
/-- By how much the mark rises, as numbers of 64 bits say it. -/
def upM (a b : CelT) : Nat := if a.m ≤ b.m then b.m - a.m else b.m + 18446744073709551616 - a.m
theorem upM_v {a b : CelT} (ha : a.Fit) (hb : b.Fit) : Value.int .u64 (IntKind.u64.wrap ((b.m : Int) - (a.m : Int))) = nQ (upM a b) := by
 have h1 := ha.m
 have h2 := hb.m
 unfold upM
 split
 ·rw [show (b.m : Int) - (a.m : Int) = ((b.m - a.m : Nat) : Int) from by omega]; exact congrArg _ (wrap_u64 (by omega) (by omega))
 ·congr 1
  rw [show IntKind.u64.wrap ((b.m : Int) - (a.m : Int)) = ((b.m : Int) - (a.m : Int)) % 18446744073709551616 from rfl]
  omega
theorem upM_lt {a b : CelT} (ha : a.Fit) (hb : b.Fit) : upM a b < 18446744073709551616 := by
 have h1 := ha.m
 have h2 := hb.m
 unfold upM; split <;> omega
theorem nx_no {a b : CelT} (ha : a.Fit) (hb : b.Fit) (h : ¬ (a.e + 1 = b.e ∧ a.m = b.m)) (hx : a.e ≠ 18446744073709551615) : ¬ b = CelT.nxC a b.t := fun e => by
 rw [CelT.nxC, if_neg hx, CelT.eq_iff] at e
 exact h ⟨e.2.1.symm, e.2.2.symm⟩
theorem rs_E {a b : CelT} (ha : a.Fit) (hb : b.Fit) : CelT.rsE a (upM a b) b.m = if a.m < b.m then 0 else if a.m = b.m then 1 else 8 := by
 have h1 := ha.m
 have h2 := hb.m
 unfold CelT.rsE upM
 split <;> split <;> (try split) <;> (try split) <;> (try split) <;> omega
theorem rs_C {a b : CelT} (ha : a.Fit) (hb : b.Fit) (h : a.m < b.m) : CelT.rsC a (upM a b) b.m = ⟨a.t, a.e, b.m⟩ := by
 unfold CelT.rsC upM
 rw [if_pos (by omega : a.m ≤ b.m), if_neg (by omega)]
 congr 1; omega
set_option maxHeartbeats 1000000 in
theorem Fol_1 (a b : CelT) (ha : a.Fit) (hb : b.Fit) (h1 : a.e + 1 = b.e) (h2 : a.m = b.m) : Fn Tryd.prog 16 [.v (aggV a.v), .v (aggV b.v)] (.v (.int .u8 1)) := by
 have hbe := hb.e
 have hx : a.e ≠ 18446744073709551615 := by omega
 have heq : b = CelT.nxC a b.t := by rw [CelT.nxC, if_neg hx, CelT.eq_iff]; exact ⟨rfl, h1.symm, h2.symm⟩
 refine Fn.of Tryd.func16 rfl (by kernel_rfl) Tryd.ntmps16 (by simp) (fun w => [(0, .v (aggV a.v)), (1, .v (aggV b.v))]) (fun w => (Start.v rfl (Start.v rfl Start.nil))) fun w₀ => ?_
 refine GS ?_
 refine TN 0 ?_
 refine RN ?_
 refine ⟨_, _, eff_box (n := 42) (d := 2) (k := 1000002) rfl (by decide), fun b2 hb2 => ?_⟩
 have hBb2 := hb2.1
 refine TN 1 ?_
 refine RN ?_
 refine ⟨_, _, eff_box (n := 42) (d := 3) (k := 1000003) rfl (by decide), fun b3 hb3 => ?_⟩
 have hBb3 := hb3.1
 have hlt_b2_b3 : b2 < b3 := hb3.2 1000002 _ _ _ rfl
 refine TL ?_
 refine RA rfl ?_
 refine RN ?_
 refine A.seq ?_
 refine GS ?_
 refine TN 7 ?_
 refine RS (ok_loadA (s := 1000002) (by decide) Tryd.underlying30 rfl (size30.of (ha.len)) rfl rfl) ?_
 refine RS (ok_field field30_0 (by decide) rfl) ?_
 refine RS (ok_loadP (s := 1000003) (by decide) Tryd.underlying27 rfl size27 rfl rfl (by rw [hb.len]; decide) (hb.vt)) ?_
 refine RS (ok_call (Next_fn a ha b.t hb.t) (A2 rfl rfl)) ?_
 refine RM rfl ?_
 refine RS (ok_extractV rfl rfl) ?_
 refine RS (ok_extractV rfl rfl) ?_
 refine RN ?_
 refine ⟨_, _, eff_alloc (n := 42) (d := 5) (k := 1000005) zero30 (by decide), fun b5 hb5 => ?_⟩
 have hBb5 := hb5.1
 have hlt_b2_b5 : b2 < b5 := hb5.2 1000002 _ _ _ rfl
 have hlt_b3_b5 : b3 < b5 := hb5.2 1000003 _ _ _ rfl
 refine TF 8 ?_
 refine RN ?_
 refine ⟨_, eff_storeA (n := 42) (s := 1000005) (size30.of ((CelT.nx_fit ha hb.t).len)) rfl rfl (CelT.one _) hBb5 rfl (by rw [(CelT.nx_fit ha hb.t).len]; rfl) (LV 2 rfl (LV 3 rfl (LV 5 rfl (LV 15 rfl (LB 1000002 rfl (LB 1000003 rfl LN)))))), ?_⟩
 refine TL ?_
 refine RA rfl ?_
 refine RN ?_
 refine GS ?_
 refine TL ?_
 refine RM rfl ?_
 refine RBS rfl rfl rfl (.bool true) (by rw [show CelT.nxE a = 0 from if_neg hx]; rfl) ?_
 refine RM rfl ?_
 refine RQ (ok_loadA (s := 1000003) (by decide) Tryd.underlying30 rfl (size30.of (hb.len)) rfl rfl) ?_
 refine RQ (ok_loadA (s := 1000005) (by decide) Tryd.underlying30 rfl (size30.of ((CelT.nx_fit ha hb.t).len)) rfl rfl) ?_
 refine RQ (ok_eqlT (n := 4) true flat30 (by decide) (by kernel_rfl) (by kernel_rfl) rfl rfl hb.kin (CelT.nx_fit ha hb.t).kin (iff_of_true rfl (congrArg CelT.v heq))) ?_
 refine RP rfl rfl ?_
 refine RN ?_
 refine A.yes rfl ?_
 refine GS ?_
 refine TL ?_
 refine RA rfl ?_
 refine RN ?_
 refine A.ret ?_
 refine End.ret_then ?_
 exact End.ret1 rfl rfl (by first | exact Le.refl _ | exact Le.old _ _)
set_option maxHeartbeats 1000000 in
theorem Fol_2 (a b : CelT) (ha : a.Fit) (hb : b.Fit) (h1 : a.e = b.e) (h2 : a.t = b.t) (h3 : a.m < b.m) : Fn Tryd.prog 16 [.v (aggV a.v), .v (aggV b.v)] (.v (.int .u8 2)) := by
 have hne : ¬ (a.e + 1 = b.e ∧ a.m = b.m) := by omega
 have heq : b = CelT.rsC a (upM a b) b.m := by rw [rs_C ha hb h3, CelT.eq_iff]; exact ⟨h2.symm, h1.symm, rfl⟩
 have hE : CelT.rsE a (upM a b) b.m = 0 := by rw [rs_E ha hb, if_pos h3]
 refine Fn.of Tryd.func16 rfl (by kernel_rfl) Tryd.ntmps16 (by simp) (fun w => [(0, .v (aggV a.v)), (1, .v (aggV b.v))]) (fun w => (Start.v rfl (Start.v rfl Start.nil))) fun w₀ => ?_
 refine GS ?_
 refine TN 0 ?_
 refine RN ?_
 refine ⟨_, _, eff_box (n := 42) (d := 2) (k := 1000002) rfl (by decide), fun b2 hb2 => ?_⟩
 have hBb2 := hb2.1
 refine TN 1 ?_
 refine RN ?_
 refine ⟨_, _, eff_box (n := 42) (d := 3) (k := 1000003) rfl (by decide), fun b3 hb3 => ?_⟩
 have hBb3 := hb3.1
 have hlt_b2_b3 : b2 < b3 := hb3.2 1000002 _ _ _ rfl
 refine TL ?_
 refine RA rfl ?_
 refine RN ?_
 refine A.seq ?_
 refine GS ?_
 refine TN 7 ?_
 refine RS (ok_loadA (s := 1000002) (by decide) Tryd.underlying30 rfl (size30.of (ha.len)) rfl rfl) ?_
 refine RS (ok_field field30_0 (by decide) rfl) ?_
 refine RS (ok_loadP (s := 1000003) (by decide) Tryd.underlying27 rfl size27 rfl rfl (by rw [hb.len]; decide) (hb.vt)) ?_
 refine RS (ok_call (Next_fn a ha b.t hb.t) (A2 rfl rfl)) ?_
 refine RM rfl ?_
 refine RS (ok_extractV rfl rfl) ?_
 refine RS (ok_extractV rfl rfl) ?_
 refine RN ?_
 refine ⟨_, _, eff_alloc (n := 42) (d := 5) (k := 1000005) zero30 (by decide), fun b5 hb5 => ?_⟩
 have hBb5 := hb5.1
 have hlt_b2_b5 : b2 < b5 := hb5.2 1000002 _ _ _ rfl
 have hlt_b3_b5 : b3 < b5 := hb5.2 1000003 _ _ _ rfl
 refine TF 8 ?_
 refine RN ?_
 refine ⟨_, eff_storeA (n := 42) (s := 1000005) (size30.of ((CelT.nx_fit ha hb.t).len)) rfl rfl (CelT.one _) hBb5 rfl (by rw [(CelT.nx_fit ha hb.t).len]; rfl) (LV 2 rfl (LV 3 rfl (LV 5 rfl (LV 15 rfl (LB 1000002 rfl (LB 1000003 rfl LN)))))), ?_⟩
 refine TL ?_
 refine RA rfl ?_
 refine RN ?_
 refine A.seqTo [(2, .v (ptr b2)), (3, .v (ptr b3)), (1000002, blk b2 30 a.v), (1000003, blk b3 30 b.v), (22, .v (.bool false))] ?_ ?_
 ·by_cases hx : a.e = 18446744073709551615
  ·refine GE ?_
   refine TL ?_
   refine RM rfl ?_
   refine RBS rfl rfl rfl (.bool false) (by rw [show CelT.nxE a = 3 from if_pos hx]; rfl) ?_
   refine RM rfl ?_
   refine RK ?_
   refine RK ?_
   refine RK ?_
   refine RP rfl rfl ?_
   refine RN ?_
   exact End.normal_then (End.toEnv (SubL.cons (t := 2) rfl (by first | exact Le.refl _ | exact Le.old _ _) (SubL.cons (t := 3) rfl (by first | exact Le.refl _ | exact Le.old _ _) (SubL.cons (t := 1000002) rfl (by first | exact Le.refl _ | exact Le.old _ _) (SubL.cons (t := 1000003) rfl (by first | exact Le.refl _ | exact Le.old _ _) (SubL.cons (t := 22) rfl (by first | exact Le.refl _ | exact Le.old _ _) SubL.nil))))))
  ·refine GE ?_
   refine TL ?_
   refine RM rfl ?_
   refine RBS rfl rfl rfl (.bool true) (by rw [show CelT.nxE a = 0 from if_neg hx]; rfl) ?_
   refine RM rfl ?_
   refine RQ (ok_loadA (s := 1000003) (by decide) Tryd.underlying30 rfl (size30.of (hb.len)) rfl rfl) ?_
   refine RQ (ok_loadA (s := 1000005) (by decide) Tryd.underlying30 rfl (size30.of ((CelT.nx_fit ha hb.t).len)) rfl rfl) ?_
   refine RQ (ok_eqlT (n := 4) false flat30 (by decide) (by kernel_rfl) (by kernel_rfl) rfl rfl hb.kin (CelT.nx_fit ha hb.t).kin (iff_of_false (by decide) fun h => nx_no ha hb hne hx (CelT.v_inj hb (CelT.nx_fit ha hb.t) h))) ?_
   refine RP rfl rfl ?_
   refine RN ?_
   exact End.normal_then (End.toEnv (SubL.cons (t := 2) rfl (by first | exact Le.refl _ | exact Le.old _ _) (SubL.cons (t := 3) rfl (by first | exact Le.refl _ | exact Le.old _ _) (SubL.cons (t := 1000002) rfl (by first | exact Le.refl _ | exact Le.old _ _) (SubL.cons (t := 1000003) rfl (by first | exact Le.refl _ | exact Le.old _ _) (SubL.cons (t := 22) rfl (by first | exact Le.refl _ | exact Le.old _ _) SubL.nil))))))
 ·refine A.no rfl ?_
  refine A.skip ?_
  refine EN ?_
  refine A.seq ?_
  refine GS ?_
  refine TN 12 ?_
  refine RS (ok_loadA (s := 1000002) (by decide) Tryd.underlying30 rfl (size30.of (ha.len)) rfl rfl) ?_
  refine RS (ok_field field30_2 (by decide) rfl) ?_
  refine RS (ok_loadV (s := 1000003) (by decide) Tryd.underlying28 rfl rfl rfl (hb.vm)) ?_
  refine RS (ok_field field30_2 (by decide) rfl) ?_
  refine RS (ok_loadV (s := 1000002) (by decide) Tryd.underlying28 rfl rfl rfl (ha.vm)) ?_
  refine RBS rfl rfl rfl (nQ (upM a b)) (upM_v ha hb) ?_
  refine RS (ok_field field30_2 (by decide) rfl) ?_
  refine RS (ok_loadV (s := 1000003) (by decide) Tryd.underlying28 rfl rfl rfl (hb.vm)) ?_
  refine RS (ok_call (Reserve_fn a ha (upM a b) b.m (upM_lt ha hb) hb.m) (A3 rfl rfl rfl)) ?_
  refine RM rfl ?_
  refine RS (ok_extractV rfl rfl) ?_
  refine RS (ok_extractV rfl rfl) ?_
  refine RN ?_
  refine ⟨_, _, eff_alloc (n := 42) (d := 7) (k := 1000007) zero30 (by decide), fun b7 hb7 => ?_⟩
  have hBb7 := hb7.1
  have hlt_b2_b7 : b2 < b7 := hb7.2 1000002 _ _ _ rfl
  have hlt_b3_b7 : b3 < b7 := hb7.2 1000003 _ _ _ rfl
  refine TF 13 ?_
  refine RN ?_
  refine ⟨_, eff_storeA (n := 42) (s := 1000007) (size30.of ((CelT.rs_fit (k := upM a b) ha hb.m).len)) rfl rfl (CelT.one _) hBb7 rfl (by rw [(CelT.rs_fit (k := upM a b) ha hb.m).len]; rfl) (LV 3 rfl (LV 7 rfl (LV 34 rfl (LB 1000002 rfl (LB 1000003 rfl LN))))), ?_⟩
  refine TL ?_
  refine RA rfl ?_
  refine RN ?_
  refine GS ?_
  refine TL ?_
  refine RM rfl ?_
  refine RBS rfl rfl rfl (.bool true) (by rw [hE]; rfl) ?_
  refine RM rfl ?_
  refine RQ (ok_loadA (s := 1000003) (by decide) Tryd.underlying30 rfl (size30.of (hb.len)) rfl rfl) ?_
  refine RQ (ok_loadA (s := 1000007) (by decide) Tryd.underlying30 rfl (size30.of ((CelT.rs_fit (k := upM a b) ha hb.m).len)) rfl rfl) ?_
  refine RQ (ok_eqlT (n := 4) true flat30 (by decide) (by kernel_rfl) (by kernel_rfl) rfl rfl hb.kin (CelT.rs_fit (k := upM a b) ha hb.m).kin (iff_of_true rfl (congrArg CelT.v heq))) ?_
  refine RP rfl rfl ?_
  refine RN ?_
  refine A.yes rfl ?_
  refine GS ?_
  refine TL ?_
  refine RA rfl ?_
  refine RN ?_
  refine A.ret ?_
  refine End.ret_then ?_
  exact End.ret1 rfl rfl (by first | exact Le.refl _ | exact Le.old _ _)
set_option maxHeartbeats 1000000 in
theorem Fol_0 (a b : CelT) (ha : a.Fit) (hb : b.Fit) (hne : ¬ (a.e + 1 = b.e ∧ a.m = b.m)) (hno : ¬ (a.e = b.e ∧ a.t = b.t ∧ a.m < b.m)) : Fn Tryd.prog 16 [.v (aggV a.v), .v (aggV b.v)] (.v (.int .u8 0)) := by
 refine Fn.of Tryd.func16 rfl (by kernel_rfl) Tryd.ntmps16 (by simp) (fun w => [(0, .v (aggV a.v)), (1, .v (aggV b.v))]) (fun w => (Start.v rfl (Start.v rfl Start.nil))) fun w₀ => ?_
 refine GS ?_
 refine TN 0 ?_
 refine RN ?_
 refine ⟨_, _, eff_box (n := 42) (d := 2) (k := 1000002) rfl (by decide), fun b2 hb2 => ?_⟩
 have hBb2 := hb2.1
 refine TN 1 ?_
 refine RN ?_
 refine ⟨_, _, eff_box (n := 42) (d := 3) (k := 1000003) rfl (by decide), fun b3 hb3 => ?_⟩
 have hBb3 := hb3.1
 have hlt_b2_b3 : b2 < b3 := hb3.2 1000002 _ _ _ rfl
 refine TL ?_
 refine RA rfl ?_
 refine RN ?_
 refine A.seq ?_
 refine GS ?_
 refine TN 7 ?_
 refine RS (ok_loadA (s := 1000002) (by decide) Tryd.underlying30 rfl (size30.of (ha.len)) rfl rfl) ?_
 refine RS (ok_field field30_0 (by decide) rfl) ?_
 refine RS (ok_loadP (s := 1000003) (by decide) Tryd.underlying27 rfl size27 rfl rfl (by rw [hb.len]; decide) (hb.vt)) ?_
 refine RS (ok_call (Next_fn a ha b.t hb.t) (A2 rfl rfl)) ?_
 refine RM rfl ?_
 refine RS (ok_extractV rfl rfl) ?_
 refine RS (ok_extractV rfl rfl) ?_
 refine RN ?_
 refine ⟨_, _, eff_alloc (n := 42) (d := 5) (k := 1000005) zero30 (by decide), fun b5 hb5 => ?_⟩
 have hBb5 := hb5.1
 have hlt_b2_b5 : b2 < b5 := hb5.2 1000002 _ _ _ rfl
 have hlt_b3_b5 : b3 < b5 := hb5.2 1000003 _ _ _ rfl
 refine TF 8 ?_
 refine RN ?_
 refine ⟨_, eff_storeA (n := 42) (s := 1000005) (size30.of ((CelT.nx_fit ha hb.t).len)) rfl rfl (CelT.one _) hBb5 rfl (by rw [(CelT.nx_fit ha hb.t).len]; rfl) (LV 2 rfl (LV 3 rfl (LV 5 rfl (LV 15 rfl (LB 1000002 rfl (LB 1000003 rfl LN)))))), ?_⟩
 refine TL ?_
 refine RA rfl ?_
 refine RN ?_
 refine A.seqTo [(2, .v (ptr b2)), (3, .v (ptr b3)), (1000002, blk b2 30 a.v), (1000003, blk b3 30 b.v), (22, .v (.bool false))] ?_ ?_
 ·by_cases hx : a.e = 18446744073709551615
  ·refine GE ?_
   refine TL ?_
   refine RM rfl ?_
   refine RBS rfl rfl rfl (.bool false) (by rw [show CelT.nxE a = 3 from if_pos hx]; rfl) ?_
   refine RM rfl ?_
   refine RK ?_
   refine RK ?_
   refine RK ?_
   refine RP rfl rfl ?_
   refine RN ?_
   exact End.normal_then (End.toEnv (SubL.cons (t := 2) rfl (by first | exact Le.refl _ | exact Le.old _ _) (SubL.cons (t := 3) rfl (by first | exact Le.refl _ | exact Le.old _ _) (SubL.cons (t := 1000002) rfl (by first | exact Le.refl _ | exact Le.old _ _) (SubL.cons (t := 1000003) rfl (by first | exact Le.refl _ | exact Le.old _ _) (SubL.cons (t := 22) rfl (by first | exact Le.refl _ | exact Le.old _ _) SubL.nil))))))
  ·refine GE ?_
   refine TL ?_
   refine RM rfl ?_
   refine RBS rfl rfl rfl (.bool true) (by rw [show CelT.nxE a = 0 from if_neg hx]; rfl) ?_
   refine RM rfl ?_
   refine RQ (ok_loadA (s := 1000003) (by decide) Tryd.underlying30 rfl (size30.of (hb.len)) rfl rfl) ?_
   refine RQ (ok_loadA (s := 1000005) (by decide) Tryd.underlying30 rfl (size30.of ((CelT.nx_fit ha hb.t).len)) rfl rfl) ?_
   refine RQ (ok_eqlT (n := 4) false flat30 (by decide) (by kernel_rfl) (by kernel_rfl) rfl rfl hb.kin (CelT.nx_fit ha hb.t).kin (iff_of_false (by decide) fun h => nx_no ha hb hne hx (CelT.v_inj hb (CelT.nx_fit ha hb.t) h))) ?_
   refine RP rfl rfl ?_
   refine RN ?_
   exact End.normal_then (End.toEnv (SubL.cons (t := 2) rfl (by first | exact Le.refl _ | exact Le.old _ _) (SubL.cons (t := 3) rfl (by first | exact Le.refl _ | exact Le.old _ _) (SubL.cons (t := 1000002) rfl (by first | exact Le.refl _ | exact Le.old _ _) (SubL.cons (t := 1000003) rfl (by first | exact Le.refl _ | exact Le.old _ _) (SubL.cons (t := 22) rfl (by first | exact Le.refl _ | exact Le.old _ _) SubL.nil))))))
 ·refine A.no rfl ?_
  refine A.skip ?_
  refine EN ?_
  refine A.seq ?_
  refine GS ?_
  refine TN 12 ?_
  refine RS (ok_loadA (s := 1000002) (by decide) Tryd.underlying30 rfl (size30.of (ha.len)) rfl rfl) ?_
  refine RS (ok_field field30_2 (by decide) rfl) ?_
  refine RS (ok_loadV (s := 1000003) (by decide) Tryd.underlying28 rfl rfl rfl (hb.vm)) ?_
  refine RS (ok_field field30_2 (by decide) rfl) ?_
  refine RS (ok_loadV (s := 1000002) (by decide) Tryd.underlying28 rfl rfl rfl (ha.vm)) ?_
  refine RBS rfl rfl rfl (nQ (upM a b)) (upM_v ha hb) ?_
  refine RS (ok_field field30_2 (by decide) rfl) ?_
  refine RS (ok_loadV (s := 1000003) (by decide) Tryd.underlying28 rfl rfl rfl (hb.vm)) ?_
  refine RS (ok_call (Reserve_fn a ha (upM a b) b.m (upM_lt ha hb) hb.m) (A3 rfl rfl rfl)) ?_
  refine RM rfl ?_
  refine RS (ok_extractV rfl rfl) ?_
  refine RS (ok_extractV rfl rfl) ?_
  refine RN ?_
  refine ⟨_, _, eff_alloc (n := 42) (d := 7) (k := 1000007) zero30 (by decide), fun b7 hb7 => ?_⟩
  have hBb7 := hb7.1
  have hlt_b2_b7 : b2 < b7 := hb7.2 1000002 _ _ _ rfl
  have hlt_b3_b7 : b3 < b7 := hb7.2 1000003 _ _ _ rfl
  refine TF 13 ?_
  refine RN ?_
  refine ⟨_, eff_storeA (n := 42) (s := 1000007) (size30.of ((CelT.rs_fit (k := upM a b) ha hb.m).len)) rfl rfl (CelT.one _) hBb7 rfl (by rw [(CelT.rs_fit (k := upM a b) ha hb.m).len]; rfl) (LV 3 rfl (LV 7 rfl (LV 34 rfl (LB 1000002 rfl (LB 1000003 rfl LN))))), ?_⟩
  refine TL ?_
  refine RA rfl ?_
  refine RN ?_
  refine A.seqTo [(41, .v (.bool false))] ?_ ?_
  ·by_cases hy : a.m < b.m
   ·refine GE ?_
    refine TL ?_
    refine RM rfl ?_
    refine RBS rfl rfl rfl (.bool true) (by rw [rs_E ha hb, if_pos hy]; rfl) ?_
    refine RM rfl ?_
    refine RQ (ok_loadA (s := 1000003) (by decide) Tryd.underlying30 rfl (size30.of (hb.len)) rfl rfl) ?_
    refine RQ (ok_loadA (s := 1000007) (by decide) Tryd.underlying30 rfl (size30.of ((CelT.rs_fit (k := upM a b) ha hb.m).len)) rfl rfl) ?_
    refine RQ (ok_eqlT (n := 4) false flat30 (by decide) (by kernel_rfl) (by kernel_rfl) rfl rfl hb.kin (CelT.rs_fit (k := upM a b) ha hb.m).kin (iff_of_false (by decide) fun h => hno (by have h := CelT.v_inj hb (CelT.rs_fit (k := upM a b) ha hb.m) h; rw [rs_C ha hb hy, CelT.eq_iff] at h; exact ⟨h.2.1.symm, h.1.symm, hy⟩))) ?_
    refine RP rfl rfl ?_
    refine RN ?_
    exact End.normal_then (End.toEnv (SubL.cons (t := 41) rfl (by first | exact Le.refl _ | exact Le.old _ _) SubL.nil))
   ·refine GE ?_
    refine TL ?_
    refine RM rfl ?_
    refine RBS rfl rfl rfl (.bool false) (by rw [rs_E ha hb, if_neg hy]; split <;> rfl) ?_
    refine RM rfl ?_
    refine RK ?_
    refine RK ?_
    refine RK ?_
    refine RP rfl rfl ?_
    refine RN ?_
    exact End.normal_then (End.toEnv (SubL.cons (t := 41) rfl (by first | exact Le.refl _ | exact Le.old _ _) SubL.nil))
  ·refine A.no rfl ?_
   refine A.skip ?_
   refine EN ?_
   refine GS ?_
   refine TL ?_
   refine RA rfl ?_
   refine RN ?_
   refine A.ret ?_
   exact End.ret1 rfl rfl (by first | exact Le.refl _ | exact Le.old _ _)
theorem Follows_fn (a b : CelT) (ha : a.Fit) (hb : b.Fit) : Fn Tryd.prog 16 [.v (aggV a.v), .v (aggV b.v)] (.v (nB (CelT.fol a b))) := by
 by_cases h1 : a.e + 1 = b.e ∧ a.m = b.m
 ·rw [CelT.fol_one h1.1 h1.2]; exact Fol_1 a b ha hb h1.1 h1.2
 by_cases h2 : a.e = b.e ∧ a.t = b.t ∧ a.m < b.m
 ·rw [CelT.fol_two h2.1 h2.2.1 h2.2.2]; exact Fol_2 a b ha hb h2.1 h2.2.1 h2.2.2
 ·rw [CelT.fol_no h1 h2]; exact Fol_0 a b ha hb h1 h2
set_option maxHeartbeats 1000000 in
theorem Fresh_ok (n : Nat) (h1 : 1 ≤ n) (h2 : n ≤ 4096)  : FnM Tryd.prog 10 tabN [.v (nI (n))] (.v (.tuple #[aggV ((frC n).v), .int .i64 0])) := by
 have hh := hg_le n
 have hb5 : (hgB n).toNat ≤ 5 := by rw [hgB_nat h1 h2]; omega
 refine FnM.of Tryd.func10 rfl (by kernel_rfl) Tryd.ntmps10 (by simp) (by decide) (fun w => [(0, .v (nI (n))), (1900000, tab 0 (sizV)), (1900001, tab 1 (H8.list.map u32V)), (1900002, tab 2 (K64.map u32V))]) (fun w => (StartM.v rfl (StartM.m (by simp [tabN]) (by decide) (StartM.m (by simp [tabN]) (by decide) (StartM.m (by simp [tabN]) (by decide) StartM.nil))))) fun w₀ hM => ?_
 have htab := tabN_hi hM
 refine GS ?_
 refine TN 0 ?_
 refine RN ?_
 refine ⟨_, _, eff_alloc (n := 26) (d := 2) (k := 1000002) zero30 (by decide), fun b2 hb2 => ?_⟩
 have hBb2 := hb2.1
 refine TL ?_
 refine RA rfl ?_
 refine RN ?_
 refine GS ?_
 refine TL ?_
 refine RM rfl ?_
 refine RS (ok_call (Height_ok n h1 h2) (A1 rfl)) ?_
 refine RM rfl ?_
 refine RS (ok_extractV rfl rfl) ?_
 refine RS (ok_extractV rfl rfl) ?_
 refine RA rfl ?_
 refine RA rfl ?_
 refine RN ?_
 refine A.seq ?_
 refine GS ?_
 refine TL ?_
 refine RM rfl ?_
 refine RBS rfl rfl rfl (.bool false) (by first | rfl | (simp; done) | (simp; omega) | (simp [*]; done) | (simp [*]; omega)) ?_
 refine RN ?_
 refine A.no rfl ?_
 refine A.skip ?_
 refine EN ?_
 refine GS ?_
 refine TN 7 ?_
 refine RM rfl ?_
 refine RS (ok_conv Tryd.underlying3 Tryd.underlying5 rfl) ?_; refine RZ (byteV (hgB n)) (by rw [wrap_u8_nat]; rfl) ?_
 refine RS (ok_call (nEmpty_fn (hgB n) 0 (by decide)) (A2 rfl rfl)) ?_
 refine RS (ok_callM (nDigest_ok (NodT.emp (hgB n) 0) (NodT.emp_fit (hgB n) (j := 0) (by decide)) (emp_ck15 hb5 0)) (Sub.cons rfl (Sub.cons rfl (Sub.cons rfl KN))) tabN_v (A1 rfl)) ?_
 refine RM rfl ?_
 refine RS (ok_extractV rfl rfl) ?_
 refine RS (ok_extractV rfl rfl) ?_
 refine RN ?_
 refine ⟨_, _, eff_alloc (n := 26) (d := 6) (k := 1000006) zero27 (by decide), fun b6 hb6 => ?_⟩
 have hBb6 := hb6.1
 refine TF 8 ?_
 refine RN ?_
 refine ⟨_, eff_storeA (n := 26) (s := 1000006) (size27.of (by rw [List.length_map, sha_length])) rfl rfl (all_bytes _) hBb6 rfl (by rw [List.length_map, sha_length]; rfl) (LV 2 rfl (LV 6 rfl (LV 23 rfl (LT 1000002 rfl (LeftS.cons (t := 1900000) rfl (Surv.tab (by omega)) (LeftS.cons (t := 1900001) rfl (Surv.tab (by omega)) (LeftS.cons (t := 1900002) rfl (Surv.tab (by omega)) LN))))))), ?_⟩
 refine TL ?_
 refine RA rfl ?_
 refine RN ?_
 refine GS ?_
 refine TF 2 ?_
 refine RS (ok_loadA (s := 1000006) (by decide) Tryd.underlying27 rfl (size27.of (by rw [List.length_map, sha_length])) rfl rfl) ?_
 refine RS (ok_litS [(0, aggV ((sha (NodT.emp (hgB n) 0).bl).map byteV))] (frC n).v ⟨rfl, rfl, trivial⟩ (buildC0 _ (sha_length _))) ?_
 refine RN ?_
 refine ⟨_, eff_storeA (n := 26) (s := 1000002) (size30.of ((frC_fit n).len)) rfl rfl (CelT.one _) hBb2 rfl (by rw [(frC_fit n).len]; rfl) (LV 2 rfl (LT 1000006 rfl (LeftS.cons (t := 1900000) rfl (Surv.tab (by omega)) (LeftS.cons (t := 1900001) rfl (Surv.tab (by omega)) (LeftS.cons (t := 1900002) rfl (Surv.tab (by omega)) LN))))), ?_⟩
 refine TL ?_
 refine RA rfl ?_
 refine RN ?_
 refine A.sub (KC 2 rfl (KC 3 rfl (KC 1000002 rfl (KC 1000006 rfl (KC 1900000 rfl (KC 1900001 rfl (KC 1900002 rfl KN))))))) ?_
 refine A.ret ?_
 exact End.cellV (s := 1000002) rfl Tryd.underlying30 rfl (size30.of ((frC_fit n).len)) rfl rfl rfl
theorem Fresh_bad (m : Int) (hm : ¬ (1 ≤ m ∧ m ≤ 4096))  : FnM Tryd.prog 10 tabN [.v (.int .i64 (m))] (.v (.tuple #[aggV (CelT.zero.v), .int .i64 1])) := by
 refine FnM.of Tryd.func10 rfl (by kernel_rfl) Tryd.ntmps10 (by simp) (by decide) (fun w => [(0, .v (.int .i64 (m))), (1900000, tab 0 (sizV)), (1900001, tab 1 (H8.list.map u32V)), (1900002, tab 2 (K64.map u32V))]) (fun w => (StartM.v rfl (StartM.m (by simp [tabN]) (by decide) (StartM.m (by simp [tabN]) (by decide) (StartM.m (by simp [tabN]) (by decide) StartM.nil))))) fun w₀ hM => ?_
 have htab := tabN_hi hM
 refine GS ?_
 refine TN 0 ?_
 refine RN ?_
 refine ⟨_, _, eff_alloc (n := 26) (d := 2) (k := 1000002) zero30 (by decide), fun b2 hb2 => ?_⟩
 have hBb2 := hb2.1
 refine TL ?_
 refine RA rfl ?_
 refine RN ?_
 refine GS ?_
 refine TL ?_
 refine RM rfl ?_
 refine RS (ok_call (Height_bad m hm) (A1 rfl)) ?_
 refine RM rfl ?_
 refine RS (ok_extractV rfl rfl) ?_
 refine RS (ok_extractV rfl rfl) ?_
 refine RA rfl ?_
 refine RA rfl ?_
 refine RN ?_
 refine A.seq ?_
 refine GS ?_
 refine TL ?_
 refine RM rfl ?_
 refine RBS rfl rfl rfl (.bool true) (by first | rfl | (simp; done) | (simp; omega) | (simp [*]; done) | (simp [*]; omega)) ?_
 refine RN ?_
 refine A.yes rfl ?_
 refine GS ?_
 refine TF 2 ?_
 refine RS (ok_lit [] (CelT.v CelT.zero) (fun _ _ => rfl) (by kernel_rfl)) ?_
 refine RM rfl ?_
 refine RN ?_
 refine ⟨_, eff_storeA (n := 26) (s := 1000002) (size30.of (CelT.zero_fit.len)) rfl rfl (CelT.one _) hBb2 rfl (by rw [CelT.zero_fit.len]; rfl) (LV 2 rfl (LV 16 rfl (LeftS.cons (t := 1900000) rfl (Surv.tab (by omega)) (LeftS.cons (t := 1900001) rfl (Surv.tab (by omega)) (LeftS.cons (t := 1900002) rfl (Surv.tab (by omega)) LN))))), ?_⟩
 refine TL ?_
 refine RA rfl ?_
 refine RN ?_
 refine A.ret ?_
 refine End.ret_then ?_
 exact End.cellV (s := 1000002) rfl Tryd.underlying30 rfl (size30.of (CelT.zero_fit.len)) rfl rfl rfl
/-! The sequence of how the cells of a log follow. -/
theorem steps_fnB (A₀ : Option Addr) (m q : Nat) : FnB Tryd.prog 32 [.v (.slice A₀ m q)] (fun B => newD B 51 (fun b => .func (.func 41) #[] #[ptr b]) [.slice A₀ m q]) := by
 refine FnB.of Tryd.func32 rfl (by kernel_rfl) Tryd.ntmps32 (by simp) (fun w => [(0, .v (.slice A₀ m q))]) (fun w => (Start.v rfl Start.nil)) fun w₀ => ?_
 refine GS ?_
 refine TN 0 ?_
 refine RN ?_
 refine ⟨_, _, eff_box1 (n := 4) (d := 1) (k := 1000001) rfl rfl (by decide), fun b1 hb1 => ?_⟩
 have hBb1 := hb1.1
 refine TL ?_
 refine RA rfl ?_
 refine RN ?_
 refine GS ?_
 refine TL ?_
 refine RS (ok_makeFuncN [ptr b1] ⟨rfl, trivial⟩) ?_
 refine RA rfl ?_
 refine RN ?_
 refine A.ret ?_
 exact End.newF (kg := 1000001) rfl rfl rfl hBb1 rfl rfl
set_option maxHeartbeats 1000000 in
theorem steps1_seq {w₀ : World} {lf p q : Nat} {A₀ : Option Addr} {l : List CelT} {ok : Nat → Bool} {J Jx : Nat → World → Prop} (hl : ∀ c ∈ l, c.Fit) (hm : l.length ≤ 1000)
  (hq : SeqsE Tryd.prog w₀ (l.length - 1) lf (fun i => .v (nI (i + 1))) (fun i => .v (nB (folAt l i))) ok (fun _ => [(1000091, blk p 51 [.slice A₀ l.length q]), (1000092, old w₀.heap.size (memR A₀ (celsV l)))]) J Jx) {w : World} (h0 : J 0 w) :
  Calls Tryd.prog 41 (.func (.yield lf) #[] #[] :: [ptr p] : List Value).toArray w fun e W => (∃ v, e = .returned v) ∧ DoneE (l.length - 1) ok J Jx W := by
 obtain ⟨hb, hs, hV⟩ := hq.holds 0 w h0
 refine Calls.within (n := 24) (E := [(0, .v (.func (.yield lf) #[] #[])), (1, .v (ptr p)), (1000090, jD (J 0)), (1000091, blk p 51 [.slice A₀ l.length q]), (1000092, old w₀.heap.size (memR A₀ (celsV l)))]) Tryd.func41 rfl Tryd.ntmps41 (by simp) (by decide) hb hs ?_ ?_
 ·intro x hx
  simp only [List.mem_cons, List.not_mem_nil, or_false] at hx
  rcases hx with rfl | rfl | rfl | rfl | rfl
  ·exact .inr ⟨_, rfl, rfl⟩
  ·exact .inr ⟨_, rfl, rfl⟩
  ·exact .inl ⟨vle rfl, jD_mk h0⟩
  ·exact .inl ⟨vle rfl, hV _ (by simp)⟩
  ·exact .inl ⟨vle rfl, hV _ (by simp)⟩
 refine GS ?_
 refine TL ?_
 refine RA rfl ?_
 refine RN ?_
 refine A.block ?_
 refine A.loop (ι := Nat) (fun i => i ≤ l.length - 1 ∧ ∀ k, k < i → ok k = true) (fun i => [(0, .v (.func (.yield lf) #[] #[])), (1, .v (ptr p)), (3, .v (nI (i + 1))), (1000090, jD (J i)), (1000091, blk p 51 [.slice A₀ l.length q]), (1000092, old w₀.heap.size (memR A₀ (celsV l)))]) (fun i => l.length - 1 - i) 0 ?_ ?_ ?_
 ·exact ⟨Nat.zero_le _, fun k h => absurd h (Nat.not_lt_zero _)⟩
 ·exact (KC 0 rfl (KC 1 rfl (KE 3 rfl (by rfl) (KC 1000090 rfl (KC 1000091 rfl (KC 1000092 rfl KN))))))
 intro i hG
 refine A.seq ?_
 refine GS ?_
 refine TL ?_
 refine RM rfl ?_
 refine RS (ok_loadV (s := 1000091) (by decide) Tryd.underlying51 rfl rfl rfl (rfl)) ?_
 refine RS (ok_lenV Tryd.underlying51 rfl) ?_
 refine RB rfl rfl rfl ?_
 refine RN ?_
 refine A.cond rfl (fun hc7 => ?_) (fun hc7 => ?_)
 ·have hlt : i + 1 < l.length := by simp at hc7; omega
  refine A.skip ?_
  refine EN ?_
  refine A.seq ?_
  refine A.block ?_
  rcases Bool.eq_false_or_eq_true (ok i) with hok | hok
  ·refine GD ?_
   refine TD 12 ?_
   refine RM rfl ?_
   refine RM rfl ?_
   refine RS (ok_loadV (s := 1000091) (by decide) Tryd.underlying51 rfl rfl rfl (rfl)) ?_
   refine RM rfl ?_
   refine RBS rfl rfl rfl (nI (i)) (wrap_eq (by omega) (by omega)) ?_
   refine RS (ok_indexR (s := 1000092) (i) Tryd.underlying51 infoC rfl rfl (by decide) rfl (by omega : i < l.length) (by rw [cels_len hl]; omega)) ?_
   refine RS (ok_loadElemT 34 Tryd.underlying30 rfl size30 (by rw [cels_at hl (by omega : i < l.length), (ceAt_fit hl _).len]; exact Nat.le_refl _) rfl) ?_; refine RZ (aggV (ceAt l (i)).v) (congrArg aggV (by rw [cels_at hl (by omega : i < l.length)]; exact List.take_of_length_le (Nat.le_of_eq (ceAt_fit hl _).len))) ?_
   refine RS (ok_loadV (s := 1000091) (by decide) Tryd.underlying51 rfl rfl rfl (rfl)) ?_
   refine RM rfl ?_
   refine RS (ok_indexR (s := 1000092) (i + 1) Tryd.underlying51 infoC rfl rfl (by decide) rfl (by omega : i + 1 < l.length) (by rw [cels_len hl]; omega)) ?_
   refine RS (ok_loadElemT 34 Tryd.underlying30 rfl size30 (by rw [cels_at hl (by omega : i + 1 < l.length), (ceAt_fit hl _).len]; exact Nat.le_refl _) rfl) ?_; refine RZ (aggV (ceAt l (i + 1)).v) (congrArg aggV (by rw [cels_at hl (by omega : i + 1 < l.length)]; exact List.take_of_length_le (Nat.le_of_eq (ceAt_fit hl _).len))) ?_
   refine RS (ok_call (Follows_fn (ceAt l i) (ceAt l (i + 1)) (ceAt_fit hl _) (ceAt_fit hl _)) (A2 rfl rfl)) ?_
   refine RN ?_
   refine ⟨_, eff_yieldE (vJ := 1000090) (vN := 1000093) hq i (by omega) hG.2 rfl rfl rfl (Le.refl _) rfl (Le.refl _) (by decide) (by decide) (by decide) (Left.cons (t := 0) rfl (Stays.v _ _) (Left.cons (t := 1) rfl (Stays.v _ _) (Left.cons (t := 3) rfl (Stays.v _ _) (Left.cons (t := 1000092) rfl (Stays.old _ _) Left.nil)))), ?_⟩
   refine TL ?_
   refine RS (ok_not rfl) ?_; refine RZ (.bool false) (by rw [hok]; rfl) ?_
   refine RN ?_
   refine A.no rfl ?_
   refine A.skip ?_
   refine End.normal_block ?_
   refine EN ?_
   refine A.onE (vJ := 1000090) (vN := 1000093) (i := i) hq rfl hok (vle (d := jD (J 0)) rfl) (fun p hp => by simp only [List.mem_cons, List.not_mem_nil, or_false] at hp; rcases hp with rfl | rfl <;> exact vle rfl) (by decide) ?_
   refine GE ?_
   refine TL ?_
   refine RM rfl ?_
   refine RBS rfl rfl rfl (nI (i + 1 + 1)) (wrap_eq (by omega) (by omega)) ?_
   refine RA rfl ?_
   refine RN ?_
   refine End.normal_then ?_
   refine End.again (i + 1) ?_ ?_ ?_
   ·exact ⟨by omega, fun k hk => (Nat.lt_or_ge k i).elim (hG.2 k) fun h => by rw [show k = i from by omega]; exact hok⟩
   ·show _ - _ < _ - _; omega
   ·exact (KC 0 rfl (KC 1 rfl (KC 3 rfl (KC 1000090 rfl (KC 1000091 rfl (KC 1000092 rfl KN))))))
  ·refine GD ?_
   refine TD 12 ?_
   refine RM rfl ?_
   refine RM rfl ?_
   refine RS (ok_loadV (s := 1000091) (by decide) Tryd.underlying51 rfl rfl rfl (rfl)) ?_
   refine RM rfl ?_
   refine RBS rfl rfl rfl (nI (i)) (wrap_eq (by omega) (by omega)) ?_
   refine RS (ok_indexR (s := 1000092) (i) Tryd.underlying51 infoC rfl rfl (by decide) rfl (by omega : i < l.length) (by rw [cels_len hl]; omega)) ?_
   refine RS (ok_loadElemT 34 Tryd.underlying30 rfl size30 (by rw [cels_at hl (by omega : i < l.length), (ceAt_fit hl _).len]; exact Nat.le_refl _) rfl) ?_; refine RZ (aggV (ceAt l (i)).v) (congrArg aggV (by rw [cels_at hl (by omega : i < l.length)]; exact List.take_of_length_le (Nat.le_of_eq (ceAt_fit hl _).len))) ?_
   refine RS (ok_loadV (s := 1000091) (by decide) Tryd.underlying51 rfl rfl rfl (rfl)) ?_
   refine RM rfl ?_
   refine RS (ok_indexR (s := 1000092) (i + 1) Tryd.underlying51 infoC rfl rfl (by decide) rfl (by omega : i + 1 < l.length) (by rw [cels_len hl]; omega)) ?_
   refine RS (ok_loadElemT 34 Tryd.underlying30 rfl size30 (by rw [cels_at hl (by omega : i + 1 < l.length), (ceAt_fit hl _).len]; exact Nat.le_refl _) rfl) ?_; refine RZ (aggV (ceAt l (i + 1)).v) (congrArg aggV (by rw [cels_at hl (by omega : i + 1 < l.length)]; exact List.take_of_length_le (Nat.le_of_eq (ceAt_fit hl _).len))) ?_
   refine RS (ok_call (Follows_fn (ceAt l i) (ceAt l (i + 1)) (ceAt_fit hl _) (ceAt_fit hl _)) (A2 rfl rfl)) ?_
   refine RN ?_
   refine ⟨_, eff_yieldE (vJ := 1000090) (vN := 1000093) hq i (by omega) hG.2 rfl rfl rfl (Le.refl _) rfl (Le.refl _) (by decide) (by decide) (by decide) (Left.cons (t := 0) rfl (Stays.v _ _) (Left.cons (t := 1) rfl (Stays.v _ _) (Left.cons (t := 3) rfl (Stays.v _ _) (Left.cons (t := 1000092) rfl (Stays.old _ _) Left.nil)))), ?_⟩
   refine TL ?_
   refine RS (ok_not rfl) ?_; refine RZ (.bool true) (by rw [hok]; rfl) ?_
   refine RN ?_
   refine A.yes rfl ?_
   refine A.ret ?_
   refine End.ret_block ?_
   refine End.ret_then ?_
   refine End.ret_then ?_
   refine End.ret_block ?_
   first | exact End.seqE (vJ := 1000090) hq rfl (by subst hend; rfl) (by subst hend; exact hG.2) | exact End.seqEx (vN := 1000093) (i := i) hq rfl rfl (by omega) hG.2 hok
 ·have hend : i = l.length - 1 := by have := hG.1; simp at hc7; omega
  refine A.exit ?_
  refine End.exit_then ?_
  refine End.exit_then ?_
  refine End.exit_here ?_
  first | exact End.seqE (vJ := 1000090) hq rfl (by subst hend; rfl) (by subst hend; exact hG.2) | exact End.seqEx (vN := 1000093) (i := i) hq rfl rfl (by omega) hG.2 hok
theorem clip15_fn (B₁ m : Nat) (xs : List Value) (hm : m = xs.length) (hmax : m ≤ maxLen) : Fn Tryd.prog 33 [own B₁ 3 m xs] (vlist xs m) := by
 refine Fn.of Tryd.func33 rfl (by kernel_rfl) Tryd.ntmps33 (by simp) (fun w => [(0, old w.heap.size (own B₁ 3 m xs))]) (fun w => (Start.old rfl Start.nil)) fun w₀ => ?_
 refine GS ?_
 refine TL ?_
 refine RA rfl ?_
 refine RN ?_
 refine GS ?_
 refine TL ?_
 refine RM rfl ?_
 refine RM rfl ?_
 refine RS (ok_lenU m Tryd.underlying56 rfl ((Le.old _ _).trans (own_vlst hm)) hm.symm) ?_
 refine RM rfl ?_
 refine RS (ok_lenU m Tryd.underlying56 rfl ((Le.old _ _).trans (own_vlst hm)) hm.symm) ?_
 refine RS (ok_clip Tryd.underlying56 info3 rfl (Le.old _ _) rfl rfl hm hmax) ?_
 refine RA rfl ?_
 refine RN ?_
 refine A.ret ?_
 exact End.ret1 rfl rfl (by first | exact Le.refl _ | exact Le.old _ _)
end Go.Proofs.YtfjpipkcfbmdeaaDoor
namespace Go.Proofs.YtfjpipkcfbmdeaaDoor
open Go Go.RowKit
/-- A store of the region: its number, the block and its key, the type, what is there before, what it stores. -/
structure SV where
  p : Nat
  b : Nat
  k : Nat
  T : TypeId
  z : Value
  y : Value
inductive Many (P : Program) (B : Nat) (ops : Array Oper) (vals : List Value) (Eb : Env) (ss : List SV) : Nat → List Oper → Prop
  | nil {i : Nat} : Many P B ops vals Eb ss i []
  | cons {i : Nat} {o : Oper} {rest : List Oper} {t : Nat} {v : Value} (E : Env) (hp : ∀ s ∈ ss, i ≠ s.p) (hv : vals[i]? = some v) (ht : o.dst = some t) (hd : Eb.look t = none ∨ Eb.look t = some (.v v)) (hf : FromN ops vals Eb o E) (hok : OpOk P B o E (.v v)) (hr : Many P B ops vals Eb ss (i + 1) rest) : Many P B ops vals Eb ss i (o :: rest)
  | store {i : Nat} {o : Oper} {rest : List Oper} {x y : Operand} {ty : TypeId} {pos : String} {after : Array Edge} (s : SV) (hs : s ∈ ss) (hi : i = s.p) (E : Env) (ho : o = ⟨none, .store s.T x y, ty, pos, after, none⟩) (hf : FromN ops vals Eb o E) (hx : E.at x = some (.v (.pointer (some ⟨s.b, 0, none⟩)))) (hy : E.at y = some (.v s.y)) (hr : Many P B ops vals Eb ss (i + 1) rest) : Many P B ops vals Eb ss i (o :: rest)
section
variable {P : Program} {n B : Nat} {ops : Array Oper} {κ : Cx} {Q : Exit → Act → World → Prop} {vals : List Value} {Eb : Env} {ss : List SV}
theorem Many.nth {m : Nat} {l : List Oper} (h : Many P B ops vals Eb ss m l) : ∀ {i : Nat} {o : Oper}, l[i]? = some o →
    ((∀ s ∈ ss, m + i ≠ s.p) ∧ ∃ E v t, vals[m + i]? = some v ∧ o.dst = some t ∧ (Eb.look t = none ∨ Eb.look t = some (.v v)) ∧ FromN ops vals Eb o E ∧ OpOk P B o E (.v v)) ∨
    (∃ s ∈ ss, m + i = s.p ∧ ∃ E x y ty pos after, o = ⟨none, .store s.T x y, ty, pos, after, none⟩ ∧ FromN ops vals Eb o E ∧ E.at x = some (.v (.pointer (some ⟨s.b, 0, none⟩))) ∧ E.at y = some (.v s.y)) := by
  induction h with
  | nil => intro i o hi; simp at hi
  | @cons m o0 rest t v E hp hv ht hd hf hok _ ih =>
    intro i o hi
    cases i with
    | zero => simp at hi; subst hi; exact .inl ⟨hp, E, v, t, hv, ht, hd, hf, hok⟩
    | succ i =>
      have := ih (i := i) (by simpa using hi)
      rwa [show m + 1 + i = m + (i + 1) from by omega] at this
  | @store m o0 rest x y ty pos after s hs hi' E ho hf hx hy _ ih =>
    intro i o hi
    cases i with
    | zero => simp at hi; subst hi; exact .inr ⟨s, hs, hi', E, x, y, ty, pos, after, ho, hf, hx, hy⟩
    | succ i =>
      have := ih (i := i) (by simpa using hi)
      rwa [show m + 1 + i = m + (i + 1) from by omega] at this
structure InvM (κ : Cx) (n B : Nat) (ops : Array Oper) (vals : List Value) (Eb : Env) (ss : List SV) (listed : Array Bool) (a : Act) (w : World) : Prop where
  st : St κ n B Eb a w
  lsize : listed.size = ops.size
  blk : ∀ s ∈ ss, s.b < w.heap.size ∧ w.heap[s.b]? = some (.cells [if listed.getD s.p false then s.y else s.z].toArray s.T (0, 0))
  got : ∀ (i : Nat) (o : Oper) (t : Nat) (v : Value), ops[i]? = some o → listed.getD i false = true → o.dst = some t → vals[i]? = some v → a.tmps.getD t undef = v
theorem look_appM {t : Nat} {e : D} : ∀ {V E : Env}, Env.look (V ++ E) t = some e → (t, e) ∈ V ∨ Env.look E t = some e
  | [], _, h => .inr h
  | (s, d) :: V, E, h => by
    by_cases hs : s = t
    · subst hs
      rw [List.cons_append, look_here] at h; injection h with h; subst h
      exact .inl List.mem_cons_self
    · rw [List.cons_append, look_past _ _ hs] at h
      exact (look_appM h).imp (List.mem_cons_of_mem _) id
theorem wp_many {w₀ : World} (hfit : fits n ops = true) (hd : downsN ops = true) (hn : Many P B ops vals Eb ss 0 ops.toList) (hb : ∀ s ∈ ss, B ≤ s.b) (hdj : ∀ s ∈ ss, ∀ s' ∈ ss, s = s' ∨ (s.p ≠ s'.p ∧ s.b ≠ s'.b)) (hinfo : ∀ s ∈ ss, ∃ z nb, InfoIs P s.T z nb) (h1 : ∀ s ∈ ss, s.y.oneCell' = true) (hl : ∀ s ∈ ss, LeftS B s.T s.b Eb Eb) :
    ∀ (fuel : Nat) (listed : Array Bool) (a : Act) (w : World), unlisted ops listed ≤ fuel → Below B w₀ w → InvM κ n B ops vals Eb ss listed a w → (∀ l a' w', Below B w₀ w' → InvM κ n B ops vals Eb ss l a' w' → (∀ i, i < ops.size → l.getD i false = true) → Q .normal a' w') → wpAnyIn (FR κ.rd) 0 P .any ops Q fuel listed a w := by
  have hn0 : n ≤ vbase := fits_base hfit
  have hmin : ∀ (listed : Array Bool), listed.size = ops.size → Region.ready .any ops listed = [] → ∀ i, i < ops.size → listed.getD i false = true := by
    intro listed hl hr i
    induction i using Nat.strongRecOn with
    | _ i ih =>
      intro hi
      rcases hb : listed.getD i false with _ | _
      · exfalso
        have hdi := (downs_get hd (Array.getElem?_eq_getElem hi)).2.1
        have : i ∈ Region.ready .any ops listed := by
          rw [mem_ready]
          refine ⟨?_, ops[i], Array.getElem?_eq_getElem hi, fun e he hbd => ih e.on (hdi e he hbd) (Nat.lt_trans (hdi e he hbd) hi)⟩
          have : i < listed.size := by rw [hl]; exact hi
          simp [this] at hb ⊢
          exact hb
        rw [hr] at this
        cases this
      · rfl
  intro fuel
  induction fuel with
  | zero =>
    intro listed a w hc hbel I hQ'
    have hr : Region.ready .any ops listed = [] := by
      rcases hr : Region.ready .any ops listed with _ | ⟨i, l⟩
      · rfl
      · exfalso
        have hi : i ∈ Region.ready .any ops listed := by rw [hr]; exact List.mem_cons_self
        obtain ⟨hu, o, ho, _⟩ := mem_ready.1 hi
        have hpos : 0 < unlisted ops listed := List.countP_pos_iff.2 ⟨i, List.mem_range.2 (Array.getElem?_eq_some_iff.1 ho).1, by simp only [hu]; rfl⟩
        omega
    exact ⟨hr, hQ' listed a w hbel I (hmin listed I.lsize hr)⟩
  | succ fuel ih =>
    intro listed a w hc hbel I hQ'
    refine ⟨fun hr => hQ' listed a w hbel I (hmin listed I.lsize hr), fun i hi => ?_⟩
    obtain ⟨hu, o, ho, hall⟩ := mem_ready.1 hi
    have hlt : i < ops.size := (Array.getElem?_eq_some_iff.1 ho).1
    obtain ⟨hg, _, hdis⟩ := downs_get hd ho
    have huf : listed.getD i false = false := by
      have : i < listed.size := by rw [I.lsize]; exact hlt
      simp [this] at hu ⊢
      exact hu
    have hst : ∀ {E : Env}, FromN ops vals Eb o E → ∀ t d, E.look t = some d → d.Of w (a.tmps.getD t undef) := fun {E} h => by
      induction h with
      | nil => intro t d hl; cases hl
      | all => exact I.st.of
      | @base s e E h _ ih =>
        intro t d hl
        by_cases hts : s = t
        · subst hts; rw [look_here] at hl; injection hl with hl; subst hl; exact I.st.of _ _ h
        · rw [look_past _ _ hts] at hl; exact ih t d hl
      | @op s v E j he hdj hvj _ ih =>
        intro t d hl
        by_cases hts : s = t
        · subst hts; rw [look_here] at hl; injection hl with hl; subst hl
          obtain ⟨e, he1, he2⟩ := Array.any_eq_true'.1 he
          simp only [Bool.and_eq_true, beq_iff_eq] at he2
          have hl := hall e he1 he2.1
          rw [he2.2] at hl
          cases hq : ops[j]? with
          | none => rw [hq] at hdj; cases hdj
          | some q =>
            rw [hq] at hdj
            exact I.got j q _ _ hq hl hdj hvj
        · rw [look_past _ _ hts] at hl; exact ih t d hl
    have hcl : unlisted ops (listed.setIfInBounds i true) ≤ fuel := by
      have : unlisted ops (listed.setIfInBounds i true) < unlisted ops listed := by
        refine countP_lt (x := i) (fun y hy => ?_) (List.mem_range.2 hlt) (by simp only [hu]; rfl) ?_
        · by_cases hyi : i = y
          · subst hyi
            have : i < listed.size := by rw [I.lsize]; exact hlt
            simp [this] at hy
          · rw [getD_set_ne true hyi] at hy; exact hy
        · have : i < listed.size := by rw [I.lsize]; exact hlt
          simp [this]
      omega
    have hset' : ∀ j, (listed.setIfInBounds i true).getD j false = true → j = i ∨ listed.getD j false = true := fun j hj => by
      by_cases hji : i = j
      · exact .inl hji.symm
      · rw [getD_set_ne false hji] at hj; exact .inr hj
    have hfi := fits_mem hfit (o := o) (by simpa using Array.mem_of_getElem? ho)
    rcases hn.nth (i := i) (o := o) (by simpa using ho) with ⟨hip, E, v, t, hv, ht, hdo, hfr, hok⟩ | ⟨s₀, hs₀, hip, E, x, y, ty, pos, after, hoe, hfr, hx, hy⟩
    · simp only [Nat.zero_add] at hv hip
      have hE : St κ n B E a w := ⟨I.st.base, I.st.defers, I.st.size, hst hfr⟩
      have htn : t < n := hfi.2 t ht
      refine wpOpR_step ho fun K hK => good_wp (E := E) (d := .v v) hE.base (hE.virt hn0) ht (.inl ⟨by simp [GuardIs, hg], hok⟩) (fun s e _ he => hE.of s e he) (fun s hs => by rw [I.st.size]; exact hfi.1 s hs) fun u w' gr hu' => ?_
      have hu' : u = v := hu'
      subst hu'
      refine hK _ _ (ih _ _ _ hcl (hbel.trans (Below.mono gr I.st.base)) ⟨⟨Nat.le_trans I.st.base gr.size, I.st.defers, by simp [Act.put, I.st.size], fun s d hs => ?_⟩, by simp [I.lsize], fun s hs => ⟨Nat.lt_of_lt_of_le (I.blk s hs).1 gr.size, ?_⟩, fun j q s z hj hl' hds hvs => ?_⟩ hQ')
      · by_cases hts : t = s
        · subst hts
          rw [getD_put_here _ _ (by rw [I.st.size]; exact htn)]
          rcases hdo with h | h
          · rw [h] at hs; cases hs
          · rw [h] at hs; injection hs with hs; subst hs; rfl
        · rw [getD_put_past _ _ hts]; exact (I.st.of s d hs).grow gr
      · rw [getD_set_ne false (hip s hs), gr.block s.b (I.blk s hs).1]; exact (I.blk s hs).2
      · rcases hset' j hl' with rfl | hl2
        · rw [ho] at hj; injection hj with hj; subst hj
          rw [ht] at hds; injection hds with hds; subst hds
          rw [hv] at hvs; injection hvs with hvs; subst hvs
          rw [getD_put_here _ _ (by rw [I.st.size]; exact htn)]
        · by_cases hji : j = i
          · subst hji; rw [huf] at hl2; cases hl2
          · have hne : t ≠ s := fun he => hdis j q hj hji (by rw [ht]; simp) (by rw [ht, hds, he])
            rw [getD_put_past _ _ hne]
            exact I.got j q s z hj hl2 hds hvs
    · rw [Nat.zero_add] at hip
      have hE : St κ n B E a w := ⟨I.st.base, I.st.defers, I.st.size, hst hfr⟩
      have hxe : a.eval x = .pointer (some ⟨s₀.b, 0, none⟩) := hE.at_ x _ hx
      have hye : a.eval y = s₀.y := hE.at_ y _ hy
      have hh : w.heap[s₀.b]? = some (.cells [s₀.z].toArray s₀.T (0, 0)) := by have := (I.blk s₀ hs₀).2; rw [← hip, huf] at this; simpa using this
      obtain ⟨zi, nbi, hin⟩ := hinfo s₀ hs₀
      obtain ⟨inf, hi', _, hsz, _⟩ := hin.get
      have hu1 := h1 s₀ hs₀
      have hcell : w.cell? ⟨s₀.b, 0, none⟩ = some s₀.z := by simp [World.cell?, hh]
      have hfrz : w.frozen? ⟨s₀.b, 0, none⟩ = false := by simp [World.frozen?, hh]
      have hcu : s₀.y.cells = #[s₀.y] := by cases hyy : s₀.y <;> simp_all [Value.oneCell', Value.cells]
      have hadd : (⟨s₀.b, 0, none⟩ : Addr).add 0 = ⟨s₀.b, 0, none⟩ := rfl
      have hset := setCell_eq_setRow w s₀.b 0 [s₀.z].toArray s₀.T (0, 0) s₀.y hh
      have hrun : (execOp a.eval ⟨none, .store s₀.T x y, ty, pos, after, none⟩).run P w = .ok .skip (w.setRow s₀.b [s₀.y].toArray) := by
        have hrow : ([s₀.z].toArray.setIfInBounds 0 s₀.y) = [s₀.y].toArray := by simp
        rw [← hrow, ← hset]
        simp [execOp, hxe, hye, Instr.storeAt, Instr.sureAddr, storeVar, hcu, sizeOf, typeInfo, hi', hsz, storeCells, hadd, run_store P w ⟨s₀.b, 0, none⟩ s₀.y .plain hu1, hcell, hfrz]
      refine wpOpR_step ho fun K hK => ?_
      subst hoe
      rw [if_pos (by simp [Region.wanted])]
      refine opR (by nofun) ?_
      unfold Oper.wp
      rw [hrun, Oper.upon_skip]
      have hwr := Wrote.setRow (B := B) (hb s₀ hs₀) hh [s₀.y].toArray
      refine hK _ _ (ih _ _ _ hcl (hbel.trans (hwr.below I.st.base)) ⟨(hl s₀ hs₀).st I.st hwr, by simp [I.lsize], fun s hs => ⟨by simpa using (I.blk s hs).1, ?_⟩, fun j q s z hj hl' hds hvs => ?_⟩ hQ')
      · rcases hdj s hs s₀ hs₀ with rfl | ⟨h5, h6⟩
        · have : (listed.setIfInBounds i true).getD s.p false = true := by rw [← hip]; simp [show i < listed.size by rw [I.lsize]; exact hlt]
          rw [this]; exact setRow_heap w s.b _ _ s.T _ hh
        · rw [getD_set_ne false (show i ≠ s.p from by rw [hip]; exact Ne.symm h5), hwr.other s.b (I.blk s hs).1 h6]; exact (I.blk s hs).2
      · rcases hset' j hl' with rfl | hl2
        · rw [ho] at hj; injection hj with hj; subst hj; cases hds
        · exact I.got j q s z hj hl2 hds hvs
/-- What the region leaves. -/
def manyE (ss : List SV) : Env := ss.map fun s => (s.k, blk s.b s.T [s.y])
theorem A.regsMm {w₀ : World} {y : Code} {E E1 : Env} {id : Nat} (vals : List Value) (hm : P.follows .mixedOrders = true) (hfit : fits n ops = true) (hd : downsN ops = true) (hn : Many P w₀.heap.size ops vals Eb ss 0 ops.toList) (hpl : ∀ s ∈ ss, s.p < ops.size) (hEb : Sub Eb E) (hk : ∀ s ∈ ss, E.look s.k = some (blk s.b s.T [s.z])) (hb : ∀ s ∈ ss, w₀.heap.size ≤ s.b)
    (hdj : ∀ s ∈ ss, ∀ s' ∈ ss, s = s' ∨ (s.p ≠ s'.p ∧ s.b ≠ s'.b)) (hinfo : ∀ s ∈ ss, ∃ z nb, InfoIs P s.T z nb) (h1 : ∀ s ∈ ss, s.y.oneCell' = true) (hl : ∀ s ∈ ss, LeftS w₀.heap.size s.T s.b Eb Eb) (hf : FromE ops vals Eb E1) (h : A κ P w₀ n y (manyE ss ++ E1) Q) : A κ P w₀ n (.seq (.region id ops true) y) E Q := A.seq fun a w hg hst => by
  have hdr : Below w₀.heap.size w w.drew := (Below.refl _ w).drew
  have hfin : ∀ l a' w', Below w₀.heap.size w w' → InvM κ n w₀.heap.size ops vals Eb ss l a' w' → (∀ i, i < ops.size → l.getD i false = true) → Exit.then (y.wpIn (FR κ.rd) 0 P Q) Q .normal a' w' := fun l a' w' hbel I hall => by
    refine h a' w' (hg.trans hbel) ⟨I.st.base, I.st.defers, I.st.size, fun t d hl' => ?_⟩
    have key : ∀ t d, E1.look t = some d → d.Of w' (a'.tmps.getD t undef) := by
      clear hl' h
      induction hf with
      | nil => intro t d hl; cases hl
      | all => exact I.st.of
      | @base s e E h _ ih =>
        intro t d hl
        by_cases hts : s = t
        · subst hts; rw [look_here] at hl; injection hl with hl; subst hl; exact I.st.of _ _ h
        · rw [look_past _ _ hts] at hl; exact ih t d hl
      | @op s v E j hdj hvj _ ih =>
        intro t d hl
        by_cases hts : s = t
        · subst hts; rw [look_here] at hl; injection hl with hl; subst hl
          cases hq : ops[j]? with
          | none => rw [hq] at hdj; cases hdj
          | some q =>
            rw [hq] at hdj
            exact I.got j q _ _ hq (hall j (Array.getElem?_eq_some_iff.1 hq).1) hdj hvj
        · rw [look_past _ _ hts] at hl; exact ih t d hl
    rcases look_appM hl' with hm | hm
    · obtain ⟨s, hs, he⟩ := List.mem_map.1 hm
      injection he with h2 h3
      subst h3
      have hI := I.blk s hs
      rw [hall s.p (hpl s hs)] at hI
      exact ⟨hI.1, hI.2⟩
    · exact key t d hm
  refine wpIn_region_any hm (wp_many (Q := Exit.then (y.wpIn (FR κ.rd) 0 P Q) Q) (w₀ := w) (B := w₀.heap.size) hfit hd hn hb hdj hinfo h1 hl _ _ _ _ ?_ hdr ⟨(hst.sub hEb).grow (Grow.refl w).drew, by simp, fun s hs => ?_, fun i o t v hi hl => ?_⟩ hfin)
  · refine Nat.le_trans List.countP_le_length ?_
    simp
  · obtain ⟨hk1, hk2⟩ := hst.of s.k _ (hk s hs)
    have : (Array.replicate ops.size false).getD s.p false = false := by simp [hpl s hs]
    rw [this]; exact ⟨hk1, hk2⟩
  · simp [(Array.getElem?_eq_some_iff.1 hi).1] at hl
theorem Many.next {i : Nat} {o : Oper} {rest : List Oper} {t : Nat} {v : Value} (E : Env) (hp : (ss.all fun s => !Nat.beq i s.p) = true) (hv : vals[i]? = some v) (ht : o.dst = some t) (hd : Eb.look t = none ∨ Eb.look t = some (.v v)) (hf : FromN ops vals Eb o E) (hok : OpOk P B o E (.v v)) (hr : Many P B ops vals Eb ss (i + 1) rest) : Many P B ops vals Eb ss i (o :: rest) :=
  .cons E (fun s hs h => by have := List.all_eq_true.1 hp s hs; rw [h] at this; simp at this) hv ht hd hf hok hr
theorem A.regsMK {w₀ : World} {y : Code} {E E1 : Env} {id : Nat} (ss : List SV) (vals : List Value) (hm : P.follows .mixedOrders = true) (hfit : fits n ops = true) (hd : downsN ops = true) (hpl : (ss.all fun s => Nat.blt s.p ops.size) = true) (hEb : Sub Eb E) (hn : Many P w₀.heap.size ops vals Eb ss 0 ops.toList) (hf : FromE ops vals Eb E1) (hk : ∀ s ∈ ss, E.look s.k = some (blk s.b s.T [s.z])) (hb : ∀ s ∈ ss, w₀.heap.size ≤ s.b)
    (hdj : ∀ s ∈ ss, ∀ s' ∈ ss, s = s' ∨ (s.p ≠ s'.p ∧ s.b ≠ s'.b)) (hinfo : ∀ s ∈ ss, ∃ z nb, InfoIs P s.T z nb) (h1 : ∀ s ∈ ss, s.y.oneCell' = true) (hl : ∀ s ∈ ss, LeftS w₀.heap.size s.T s.b Eb Eb) (h : A κ P w₀ n y (manyE ss ++ E1) Q) : A κ P w₀ n (.seq (.region id ops true) y) E Q :=
  A.regsMm vals hm hfit hd hn (fun s hs => Nat.le_of_ble_eq_true (List.all_eq_true.1 hpl s hs)) hEb hk hb hdj hinfo h1 hl hf h
end
/-! ### Elements at known addresses -/
section
variable {P : Program} {B : Nat} {E : Env} {dst : Option Tmp} {ty : TypeId} {pos : String} {after : Array Edge} {guard : Option (Nat × Bool)}
theorem ok_indexRX {t e : TypeId} {z : Value} {sz nb : Nat} {x i : Operand} {ad : Addr} {q k : Nat} {ki : IntKind} (m : Nat) (ht : P.underlying t = some (.slice e)) (hs : InfoP P e z sz nb) (hx : E.at x = some (.v (.slice (some ad) k q))) (hi : E.at i = some (.v (.int ki (m : Int)))) (hm : m < k) :
    OpOk P B ⟨dst, .indexAddr t x i, ty, pos, after, guard⟩ E (.v (.pointer (some (ad.add (m * sz))))) := fun ρ w _ hv hρ => by
  have h1 : ρ x = .slice (some ad) k q := hρ x (by simp [Op.operands]) _ hx
  have hi' : ρ i = .int ki m := hρ i (by simp [Op.operands]) _ hi
  obtain ⟨info, hinfo, _, hsize, _⟩ := hs.get
  exact out_val (x := .pointer (some (ad.add (m * sz)))) (w' := w) (by simp [execOp, h1, hi', Instr.indexAt, asIntOf, run_underlying ht, sizeOf, typeInfo, hinfo, hsize, hm]) ⟨Grow.refl w, rfl⟩
theorem ok_fieldRX {T : TypeId} {x : Operand} {ad : Addr} {i off m o : Nat} (hf : FieldIs P T i off m) (hm : 0 < m) (hx : E.at x = some (.v (.pointer (some (ad.add o))))) :
    OpOk P B ⟨dst, .fieldAddr T x i, ty, pos, after, guard⟩ E (.v (.pointer (some (ad.add (o + off))))) := fun ρ w _ _ hρ => by
  have h1 : ρ x = _ := hρ x (by simp [Op.operands]) _ hx
  unfold FieldIs at hf
  cases hu : P.underlying T with
  | none => rw [hu] at hf; cases hf
  | some d =>
    rw [hu] at hf
    cases d with
    | struct fs =>
      simp only [Option.bind_some] at hf
      cases hfi : fs[i]? with
      | none => rw [hfi] at hf; cases hf
      | some f =>
        rw [hfi] at hf
        simp only [Option.bind_some] at hf
        cases hi : P.info? f.type with
        | none => rw [hi] at hf; cases hf
        | some inf =>
          rw [hi] at hf
          simp only [Option.map_some, Option.some.injEq, Prod.mk.injEq] at hf
          obtain ⟨h2, h3⟩ := hf
          have : ¬ inf.size = 0 := by omega
          refine out_val (x := .pointer (some (ad.add (o + off)))) (w' := w) ?_ ⟨Grow.refl w, rfl⟩
          rw [← add_of_add]
          simp [execOp, h1, Instr.fieldAt, run_underlying hu, hfi, Instr.sureAddr, fieldPlace, sizeOf, typeInfo, hi, this, h2]
    | _ => simp at hf
theorem ok_loadRX {T : TypeId} {td : TypeDesc} {x : Operand} {ad : Addr} {o s B' : Nat} {u : Value} {xs : List Value} (ht : P.underlying T = some td) (hp : (match td with | .struct _ | .array _ _ => false | _ => true) = true) (hx : E.at x = some (.v (.pointer (some (ad.add o)))))
    (hsv : vbase ≤ s) (hr : E.look s = some (old B' (memR (some ad) xs))) (hu : xs[o]? = some u) : OpOk P B ⟨dst, .load T x, ty, pos, after, guard⟩ E (.v u) := fun ρ w _ hv hρ => by
  have h1 : ρ x = _ := hρ x (by simp [Op.operands]) _ hx
  obtain ⟨_, hrow⟩ := hv s _ hsv hr
  obtain ⟨ad', hA, _, hc⟩ := hrow o u hu
  injection hA with hA; subst hA
  have hagg : (isAgg T).run P w = .ok false w := by
    unfold isAgg
    simp only [Sem.run_bind, run_underlying ht, Result.andThen_ok]
    cases td <;> simp_all
  exact out_val (x := u) (w' := w) (by simp [execOp, h1, Instr.loadAt, Instr.sureAddr, loadVar, hagg, hc]) ⟨Grow.refl w, rfl⟩
theorem ok_loadRXT {T : TypeId} {td : TypeDesc} {x : Operand} {ad : Addr} {o s B' : Nat} {xs ys : List Value} (ht : P.underlying T = some td) (hp : (match td with | .struct _ | .array _ _ => true | _ => false) = true) (hsz : SizeIs P T ys.length) (hx : E.at x = some (.v (.pointer (some (ad.add o)))))
    (hsv : vbase ≤ s) (hr : E.look s = some (old B' (memR (some ad) xs))) (hy : (xs.drop o).take ys.length = ys) : OpOk P B ⟨dst, .load T x, ty, pos, after, guard⟩ E (.v (aggV ys)) := fun ρ w _ hv hρ => by
  have h1 : ρ x = _ := hρ x (by simp [Op.operands]) _ hx
  obtain ⟨_, hrow⟩ := hv s _ hsv hr
  have h3 : ∀ (j : Nat) (u : Value), ys[j]? = some u → w.cell? ((ad.add o).add j) = some u := fun j u hu => by
    have hj : j < ys.length := (List.getElem?_eq_some_iff.1 hu).1
    have hu' : xs[o + j]? = some u := by rw [← hy, List.getElem?_take, if_pos hj, List.getElem?_drop] at hu; exact hu
    obtain ⟨ad', hA, _, hc⟩ := hrow (o + j) u hu'
    injection hA with hA; subst hA
    rw [add_of_add]; exact hc
  have hagg : (isAgg T).run P w = .ok true w := by
    unfold isAgg
    simp only [Sem.run_bind, run_underlying ht, Result.andThen_ok]
    cases td <;> simp_all
  have hc := run_loadCells_list (P := P) w (ad.add o) ys h3
  obtain ⟨info, hinfo, hs⟩ := hsz.get
  exact out_val (x := aggV ys) (w' := w) (by simp [execOp, h1, Instr.loadAt, Instr.sureAddr, loadVar, hagg, sizeOf, typeInfo, hinfo, hs, hc, aggV]) ⟨Grow.refl w, rfl⟩
end
end Go.Proofs.YtfjpipkcfbmdeaaDoor
namespace Go.Proofs.YtfjpipkcfbmdeaaDoor
open Go Go.RowKit
set_option linter.unusedVariables false
set_option maxRecDepth 20000
set_option linter.unusedSimpArgs false
theorem zero31 : ZeroIs Tryd.prog 31 [.int .i64 0] := by unfold ZeroIs; kernel_rfl
theorem zero28 : ZeroIs Tryd.prog 28 [.int .u64 0] := by unfold ZeroIs; kernel_rfl
theorem zero56 : ZeroIs Tryd.prog 56 [.slice none 0 0] := by unfold ZeroIs; kernel_rfl
/-- The error of a log. -/
def fltE (l : List CelT) : Int := if fault l = 0 then 0 else 13
theorem flt_ok {l : List CelT} (h : ∀ k, k < l.length - 1 → okAt l k = true) : fault l = 0 ∧ fltE l = 0 := by
 have h1 : fault l = 0 := faultN_no h
 exact ⟨h1, if_pos h1⟩
theorem flt_at {l : List CelT} {i : Nat} (h : ∀ k, k < i → okAt l k = true) (hi : okAt l i = false) (hn : i < l.length - 1) : fault l = i + 1 ∧ fltE l = 13 := by
 have h1 : fault l = i + 1 := faultN_at h hi hn
 exact ⟨h1, if_neg (by omega)⟩

/-- An empty slice in a variable is an own row. -/
theorem A.openNil {P : Program} {n : Nat} {κ : Cx} {E : Env} {w₀ : World} {c : Code} {Q : Exit → Act → World → Prop} {k b B' : Nat} {T e : TypeId} (hk : E.look k = some (blk b T [.slice none 0 0])) (h : A κ P w₀ n c ((k, varD b T (own B' e 0 [])) :: E) Q) : A κ P w₀ n c E Q := fun a w g hs => by
 obtain ⟨h1, h2⟩ := hs.of k _ hk
 exact h a w g (hs.push (t := k) (d := varD b T (own B' e 0 [])) ⟨h1, .slice none 0 0, h2, own_nil.of (w := w) rfl⟩)
theorem Sound_bad (m : Int) (hb : ¬ (1 ≤ m ∧ m ≤ 4096)) (l : List CelT) (hl : ∀ c ∈ l, c.Fit) (hm : l.length ≤ 1000)  : FnM Tryd.prog 20 tabN [.v (.int .i64 (m)), rowLg l.length (celsV l)] (.v (.tuple #[nI 0, .int .i64 1])) := by
 refine FnM.of Tryd.func20 rfl (by kernel_rfl) Tryd.ntmps20 (by simp) (by decide) (fun w => [(0, .v (.int .i64 (m))), (1, old w.heap.size (rowLg l.length (celsV l))), (1900000, tab 0 (sizV)), (1900001, tab 1 (H8.list.map u32V)), (1900002, tab 2 (K64.map u32V))]) (fun w => (StartM.v rfl (StartM.old rfl (StartM.m (by simp [tabN]) (by decide) (StartM.m (by simp [tabN]) (by decide) (StartM.m (by simp [tabN]) (by decide) StartM.nil)))))) fun w₀ hM => ?_
 have htab := tabN_hi hM
 refine A.nameRC (t := 1) (k := 1000092) rfl fun A₀ q hmq => ?_
 refine GS ?_
 refine TN 0 ?_
 refine RN ?_
 refine ⟨_, _, eff_alloc (n := 36) (d := 4) (k := 1000004) zero3 (by decide), fun b4 hb4 => ?_⟩
 have hBb4 := hb4.1
 refine TN 1 ?_
 refine RN ?_
 refine ⟨_, _, eff_alloc (n := 36) (d := 5) (k := 1000005) zero31 (by decide), fun b5 hb5 => ?_⟩
 have hBb5 := hb5.1
 refine TL ?_
 refine RN ?_
 refine GS ?_
 refine TN 5 ?_
 refine RM rfl ?_
 refine RS (ok_callM (Fresh_bad m hb) (Sub.cons rfl (Sub.cons rfl (Sub.cons rfl KN))) tabN_v (A1 rfl)) ?_
 refine RM rfl ?_
 refine RS (ok_extractV rfl rfl) ?_
 refine RS (ok_extractV rfl rfl) ?_
 refine RN ?_
 refine ⟨_, _, eff_alloc (n := 36) (d := 6) (k := 1000006) zero30 (by decide), fun b6 hb6 => ?_⟩
 have hBb6 := hb6.1
 refine TF 6 ?_
 refine RN ?_
 refine ⟨_, eff_storeA (n := 36) (s := 1000006) (size30.of (CelT.zero_fit.len)) rfl rfl (CelT.one _) hBb6 rfl (by rw [CelT.zero_fit.len]; rfl) (LV 1 rfl (LV 4 rfl (LV 5 rfl (LV 6 rfl (LV 14 rfl (LT 1000004 rfl (LT 1000005 rfl (LO 1000092 rfl (LeftS.cons (t := 1900000) rfl (Surv.tab (by omega)) (LeftS.cons (t := 1900001) rfl (Surv.tab (by omega)) (LeftS.cons (t := 1900002) rfl (Surv.tab (by omega)) LN))))))))))), ?_⟩
 refine TL ?_
 refine RA rfl ?_
 refine RN ?_
 refine A.seq ?_
 refine A.block ?_
 refine GS ?_
 refine TL ?_
 refine RM rfl ?_
 refine RBS rfl rfl rfl (.bool true) (by first | rfl | (simp; done) | (simp; omega) | (simp [*]; done) | (simp [*]; omega)) ?_
 refine RA rfl ?_
 refine RN ?_
 refine A.yes rfl ?_
 refine GS ?_
 refine TF 1 ?_
 refine RM rfl ?_
 refine RN ?_
 refine ⟨_, eff_storeS (n := 36) (s := 1000004) info3 rfl rfl rfl hBb4 rfl (by simp) (LV 4 rfl (LV 5 rfl (LV 18 rfl (LT 1000005 rfl (LT 1000006 rfl (LO 1000092 rfl (LeftS.cons (t := 1900000) rfl (Surv.tab (by omega)) (LeftS.cons (t := 1900001) rfl (Surv.tab (by omega)) (LeftS.cons (t := 1900002) rfl (Surv.tab (by omega)) LN))))))))), ?_⟩
 refine TF 2 ?_
 refine RN ?_
 refine ⟨_, eff_storeS (n := 36) (s := 1000005) info31 rfl rfl rfl hBb5 rfl (by simp) (LV 4 rfl (LV 5 rfl (LT 1000004 rfl (LT 1000006 rfl (LO 1000092 rfl (LeftS.cons (t := 1900000) rfl (Surv.tab (by omega)) (LeftS.cons (t := 1900001) rfl (Surv.tab (by omega)) (LeftS.cons (t := 1900002) rfl (Surv.tab (by omega)) LN)))))))), ?_⟩
 refine TL ?_
 refine RN ?_
 refine A.ret ?_
 refine End.ret_block ?_
 refine End.ret_then ?_
 exact End.cellS2 (s := 1000004) (s' := 1000005) rfl Tryd.underlying3 rfl rfl rfl Tryd.underlying31 rfl rfl rfl
theorem Sound_nil (n : Nat) (h1 : 1 ≤ n) (h2 : n ≤ 4096) (l : List CelT) (hl : ∀ c ∈ l, c.Fit) (hm : l.length ≤ 1000) (h0 : l.length = 0) : FnM Tryd.prog 20 tabN [.v (nI (n)), rowLg l.length (celsV l)] (.v (.tuple #[nI 0, .int .i64 16])) := by
 refine FnM.of Tryd.func20 rfl (by kernel_rfl) Tryd.ntmps20 (by simp) (by decide) (fun w => [(0, .v (nI (n))), (1, old w.heap.size (rowLg l.length (celsV l))), (1900000, tab 0 (sizV)), (1900001, tab 1 (H8.list.map u32V)), (1900002, tab 2 (K64.map u32V))]) (fun w => (StartM.v rfl (StartM.old rfl (StartM.m (by simp [tabN]) (by decide) (StartM.m (by simp [tabN]) (by decide) (StartM.m (by simp [tabN]) (by decide) StartM.nil)))))) fun w₀ hM => ?_
 have htab := tabN_hi hM
 refine A.nameRC (t := 1) (k := 1000092) rfl fun A₀ q hmq => ?_
 refine GS ?_
 refine TN 0 ?_
 refine RN ?_
 refine ⟨_, _, eff_alloc (n := 36) (d := 4) (k := 1000004) zero3 (by decide), fun b4 hb4 => ?_⟩
 have hBb4 := hb4.1
 refine TN 1 ?_
 refine RN ?_
 refine ⟨_, _, eff_alloc (n := 36) (d := 5) (k := 1000005) zero31 (by decide), fun b5 hb5 => ?_⟩
 have hBb5 := hb5.1
 refine TL ?_
 refine RN ?_
 refine GS ?_
 refine TN 5 ?_
 refine RM rfl ?_
 refine RS (ok_callM (Fresh_ok n h1 h2) (Sub.cons rfl (Sub.cons rfl (Sub.cons rfl KN))) tabN_v (A1 rfl)) ?_
 refine RM rfl ?_
 refine RS (ok_extractV rfl rfl) ?_
 refine RS (ok_extractV rfl rfl) ?_
 refine RN ?_
 refine ⟨_, _, eff_alloc (n := 36) (d := 6) (k := 1000006) zero30 (by decide), fun b6 hb6 => ?_⟩
 have hBb6 := hb6.1
 refine TF 6 ?_
 refine RN ?_
 refine ⟨_, eff_storeA (n := 36) (s := 1000006) (size30.of ((frC_fit n).len)) rfl rfl (CelT.one _) hBb6 rfl (by rw [(frC_fit n).len]; rfl) (LV 1 rfl (LV 4 rfl (LV 5 rfl (LV 6 rfl (LV 14 rfl (LT 1000004 rfl (LT 1000005 rfl (LO 1000092 rfl (LeftS.cons (t := 1900000) rfl (Surv.tab (by omega)) (LeftS.cons (t := 1900001) rfl (Surv.tab (by omega)) (LeftS.cons (t := 1900002) rfl (Surv.tab (by omega)) LN))))))))))), ?_⟩
 refine TL ?_
 refine RA rfl ?_
 refine RN ?_
 refine A.seq ?_
 refine A.block ?_
 refine GS ?_
 refine TL ?_
 refine RM rfl ?_
 refine RBS rfl rfl rfl (.bool false) (by first | rfl | (simp; done) | (simp; omega) | (simp [*]; done) | (simp [*]; omega)) ?_
 refine RA rfl ?_
 refine RN ?_
 refine A.no rfl ?_
 refine GS ?_
 refine TL ?_
 refine RM rfl ?_
 refine RS (ok_lenV Tryd.underlying51 rfl) ?_
 refine RBS rfl rfl rfl (.bool true) (by first | rfl | (simp; done) | (simp; omega) | (simp [*]; done) | (simp [*]; omega)) ?_
 refine RA rfl ?_
 refine RN ?_
 refine A.yes rfl ?_
 refine GS ?_
 refine TF 0 ?_
 refine RN ?_
 refine ⟨_, eff_storeS (n := 36) (s := 1000004) info3 rfl rfl rfl hBb4 rfl (by simp) (LV 4 rfl (LV 5 rfl (LT 1000005 rfl (LT 1000006 rfl (LO 1000092 rfl (LeftS.cons (t := 1900000) rfl (Surv.tab (by omega)) (LeftS.cons (t := 1900001) rfl (Surv.tab (by omega)) (LeftS.cons (t := 1900002) rfl (Surv.tab (by omega)) LN)))))))), ?_⟩
 refine TF 1 ?_
 refine RN ?_
 refine ⟨_, eff_storeS (n := 36) (s := 1000005) info31 rfl rfl rfl hBb5 rfl (by simp) (LV 4 rfl (LV 5 rfl (LT 1000004 rfl (LT 1000006 rfl (LO 1000092 rfl (LeftS.cons (t := 1900000) rfl (Surv.tab (by omega)) (LeftS.cons (t := 1900001) rfl (Surv.tab (by omega)) (LeftS.cons (t := 1900002) rfl (Surv.tab (by omega)) LN)))))))), ?_⟩
 refine TL ?_
 refine RN ?_
 refine A.ret ?_
 refine End.ret_block ?_
 refine End.ret_then ?_
 exact End.cellS2 (s := 1000004) (s' := 1000005) rfl Tryd.underlying3 rfl rfl rfl Tryd.underlying31 rfl rfl rfl
theorem Sound_arg (n : Nat) (h1 : 1 ≤ n) (h2 : n ≤ 4096) (l : List CelT) (hl : ∀ c ∈ l, c.Fit) (hm : l.length ≤ 1000) (h0 : ¬ l.length = 0) (hne : ¬ ceAt l 0 = frC n) : FnM Tryd.prog 20 tabN [.v (nI (n)), rowLg l.length (celsV l)] (.v (.tuple #[nI 0, .int .i64 1])) := by
 refine FnM.of Tryd.func20 rfl (by kernel_rfl) Tryd.ntmps20 (by simp) (by decide) (fun w => [(0, .v (nI (n))), (1, old w.heap.size (rowLg l.length (celsV l))), (1900000, tab 0 (sizV)), (1900001, tab 1 (H8.list.map u32V)), (1900002, tab 2 (K64.map u32V))]) (fun w => (StartM.v rfl (StartM.old rfl (StartM.m (by simp [tabN]) (by decide) (StartM.m (by simp [tabN]) (by decide) (StartM.m (by simp [tabN]) (by decide) StartM.nil)))))) fun w₀ hM => ?_
 have htab := tabN_hi hM
 refine A.nameRC (t := 1) (k := 1000092) rfl fun A₀ q hmq => ?_
 refine GS ?_
 refine TN 0 ?_
 refine RN ?_
 refine ⟨_, _, eff_alloc (n := 36) (d := 4) (k := 1000004) zero3 (by decide), fun b4 hb4 => ?_⟩
 have hBb4 := hb4.1
 refine TN 1 ?_
 refine RN ?_
 refine ⟨_, _, eff_alloc (n := 36) (d := 5) (k := 1000005) zero31 (by decide), fun b5 hb5 => ?_⟩
 have hBb5 := hb5.1
 refine TL ?_
 refine RN ?_
 refine GS ?_
 refine TN 5 ?_
 refine RM rfl ?_
 refine RS (ok_callM (Fresh_ok n h1 h2) (Sub.cons rfl (Sub.cons rfl (Sub.cons rfl KN))) tabN_v (A1 rfl)) ?_
 refine RM rfl ?_
 refine RS (ok_extractV rfl rfl) ?_
 refine RS (ok_extractV rfl rfl) ?_
 refine RN ?_
 refine ⟨_, _, eff_alloc (n := 36) (d := 6) (k := 1000006) zero30 (by decide), fun b6 hb6 => ?_⟩
 have hBb6 := hb6.1
 refine TF 6 ?_
 refine RN ?_
 refine ⟨_, eff_storeA (n := 36) (s := 1000006) (size30.of ((frC_fit n).len)) rfl rfl (CelT.one _) hBb6 rfl (by rw [(frC_fit n).len]; rfl) (LV 1 rfl (LV 4 rfl (LV 5 rfl (LV 6 rfl (LV 14 rfl (LT 1000004 rfl (LT 1000005 rfl (LO 1000092 rfl (LeftS.cons (t := 1900000) rfl (Surv.tab (by omega)) (LeftS.cons (t := 1900001) rfl (Surv.tab (by omega)) (LeftS.cons (t := 1900002) rfl (Surv.tab (by omega)) LN))))))))))), ?_⟩
 refine TL ?_
 refine RA rfl ?_
 refine RN ?_
 refine A.seq ?_
 refine A.block ?_
 refine GS ?_
 refine TL ?_
 refine RM rfl ?_
 refine RBS rfl rfl rfl (.bool false) (by first | rfl | (simp; done) | (simp; omega) | (simp [*]; done) | (simp [*]; omega)) ?_
 refine RA rfl ?_
 refine RN ?_
 refine A.no rfl ?_
 refine GS ?_
 refine TL ?_
 refine RM rfl ?_
 refine RS (ok_lenV Tryd.underlying51 rfl) ?_
 refine RBS rfl rfl rfl (.bool false) (by first | rfl | (simp; done) | (simp; omega) | (simp [*]; done) | (simp [*]; omega)) ?_
 refine RA rfl ?_
 refine RN ?_
 refine A.no rfl ?_
 refine GD ?_
 refine TL ?_
 refine RM rfl ?_
 refine RS (ok_indexR (s := 1000092) 0 Tryd.underlying51 infoC rfl rfl (by decide) rfl (by omega) (by rw [cels_len hl]; omega)) ?_
 refine RS (ok_loadElemT 34 Tryd.underlying30 rfl size30 (by rw [cels_at hl (by omega), (ceAt_fit hl _).len]; exact Nat.le_refl _) rfl) ?_; refine RZ (aggV (ceAt l 0).v) (congrArg aggV (by rw [cels_at hl (by omega)]; exact List.take_of_length_le (Nat.le_of_eq (ceAt_fit hl _).len))) ?_
 refine RS (ok_loadA (s := 1000006) (by decide) Tryd.underlying30 rfl (size30.of ((frC_fit n).len)) rfl rfl) ?_
 refine RS (ok_neqT (n := 4) false flat30 (by decide) (by kernel_rfl) (by kernel_rfl) rfl rfl (ceAt_fit hl _).kin (frC_fit n).kin (iff_of_false (by decide) fun h => hne (CelT.v_inj (ceAt_fit hl _) (frC_fit n) h))) ?_; refine RZ (.bool true) (by rfl) ?_
 refine RA rfl ?_
 refine RN ?_
 refine A.yes rfl ?_
 refine GS ?_
 refine TF 0 ?_
 refine RN ?_
 refine ⟨_, eff_storeS (n := 36) (s := 1000004) info3 rfl rfl rfl hBb4 rfl (by simp) (LV 4 rfl (LV 5 rfl (LT 1000005 rfl (LT 1000006 rfl (LO 1000092 rfl (LeftS.cons (t := 1900000) rfl (Surv.tab (by omega)) (LeftS.cons (t := 1900001) rfl (Surv.tab (by omega)) (LeftS.cons (t := 1900002) rfl (Surv.tab (by omega)) LN)))))))), ?_⟩
 refine TF 1 ?_
 refine RN ?_
 refine ⟨_, eff_storeS (n := 36) (s := 1000005) info31 rfl rfl rfl hBb5 rfl (by simp) (LV 4 rfl (LV 5 rfl (LT 1000004 rfl (LT 1000006 rfl (LO 1000092 rfl (LeftS.cons (t := 1900000) rfl (Surv.tab (by omega)) (LeftS.cons (t := 1900001) rfl (Surv.tab (by omega)) (LeftS.cons (t := 1900002) rfl (Surv.tab (by omega)) LN)))))))), ?_⟩
 refine TL ?_
 refine RN ?_
 refine A.sub (KC 4 rfl (KC 5 rfl (KC 1000004 rfl (KC 1000005 rfl (KC 1000006 rfl (KC 1000092 rfl (KC 1900000 rfl (KC 1900001 rfl (KC 1900002 rfl KN))))))))) ?_
 refine A.ret ?_
 refine End.ret_block ?_
 refine End.ret_then ?_
 exact End.cellS2 (s := 1000004) (s' := 1000005) rfl Tryd.underlying3 rfl rfl rfl Tryd.underlying31 rfl rfl rfl
set_option maxHeartbeats 2000000 in
theorem Sound_go (n : Nat) (h1 : 1 ≤ n) (h2 : n ≤ 4096) (l : List CelT) (hl : ∀ c ∈ l, c.Fit) (hm : l.length ≤ 1000) (h0 : ¬ l.length = 0) (heq : ceAt l 0 = frC n) : FnM Tryd.prog 20 tabN [.v (nI (n)), rowLg l.length (celsV l)] (.v (.tuple #[nI (fault l), .int .i64 (fltE l)])) := by
 have hfit := frC_fit n
 refine FnM.of Tryd.func20 rfl (by kernel_rfl) Tryd.ntmps20 (by simp) (by decide) (fun w => [(0, .v (nI (n))), (1, old w.heap.size (rowLg l.length (celsV l))), (1900000, tab 0 (sizV)), (1900001, tab 1 (H8.list.map u32V)), (1900002, tab 2 (K64.map u32V))]) (fun w => (StartM.v rfl (StartM.old rfl (StartM.m (by simp [tabN]) (by decide) (StartM.m (by simp [tabN]) (by decide) (StartM.m (by simp [tabN]) (by decide) StartM.nil)))))) fun w₀ hM => ?_
 have htab := tabN_hi hM
 refine A.nameRC (t := 1) (k := 1000092) rfl fun A₀ q hmq => ?_
 refine GS ?_
 refine TN 0 ?_
 refine RN ?_
 refine ⟨_, _, eff_alloc (n := 36) (d := 4) (k := 1000004) zero3 (by decide), fun b4 hb4 => ?_⟩
 have hBb4 := hb4.1
 refine TN 1 ?_
 refine RN ?_
 refine ⟨_, _, eff_alloc (n := 36) (d := 5) (k := 1000005) zero31 (by decide), fun b5 hb5 => ?_⟩
 have hBb5 := hb5.1
 refine TL ?_
 refine RN ?_
 refine GS ?_
 refine TN 5 ?_
 refine RM rfl ?_
 refine RS (ok_callM (Fresh_ok n h1 h2) (Sub.cons rfl (Sub.cons rfl (Sub.cons rfl KN))) tabN_v (A1 rfl)) ?_
 refine RM rfl ?_
 refine RS (ok_extractV rfl rfl) ?_
 refine RS (ok_extractV rfl rfl) ?_
 refine RN ?_
 refine ⟨_, _, eff_alloc (n := 36) (d := 6) (k := 1000006) zero30 (by decide), fun b6 hb6 => ?_⟩
 have hBb6 := hb6.1
 refine TF 6 ?_
 refine RN ?_
 refine ⟨_, eff_storeA (n := 36) (s := 1000006) (size30.of ((frC_fit n).len)) rfl rfl (CelT.one _) hBb6 rfl (by rw [(frC_fit n).len]; rfl) (LV 1 rfl (LV 4 rfl (LV 5 rfl (LV 6 rfl (LV 14 rfl (LT 1000004 rfl (LT 1000005 rfl (LO 1000092 rfl (LeftS.cons (t := 1900000) rfl (Surv.tab (by omega)) (LeftS.cons (t := 1900001) rfl (Surv.tab (by omega)) (LeftS.cons (t := 1900002) rfl (Surv.tab (by omega)) LN))))))))))), ?_⟩
 refine TL ?_
 refine RA rfl ?_
 refine RN ?_
 refine A.seq ?_
 refine A.block ?_
 refine GS ?_
 refine TL ?_
 refine RM rfl ?_
 refine RBS rfl rfl rfl (.bool false) (by first | rfl | (simp; done) | (simp; omega) | (simp [*]; done) | (simp [*]; omega)) ?_
 refine RA rfl ?_
 refine RN ?_
 refine A.no rfl ?_
 refine GS ?_
 refine TL ?_
 refine RM rfl ?_
 refine RS (ok_lenV Tryd.underlying51 rfl) ?_
 refine RBS rfl rfl rfl (.bool false) (by first | rfl | (simp; done) | (simp; omega) | (simp [*]; done) | (simp [*]; omega)) ?_
 refine RA rfl ?_
 refine RN ?_
 refine A.no rfl ?_
 refine GD ?_
 refine TL ?_
 refine RM rfl ?_
 refine RS (ok_indexR (s := 1000092) 0 Tryd.underlying51 infoC rfl rfl (by decide) rfl (by omega) (by rw [cels_len hl]; omega)) ?_
 refine RS (ok_loadElemT 34 Tryd.underlying30 rfl size30 (by rw [cels_at hl (by omega), (ceAt_fit hl _).len]; exact Nat.le_refl _) rfl) ?_; refine RZ (aggV (ceAt l 0).v) (congrArg aggV (by rw [cels_at hl (by omega)]; exact List.take_of_length_le (Nat.le_of_eq (ceAt_fit hl _).len))) ?_
 refine RS (ok_loadA (s := 1000006) (by decide) Tryd.underlying30 rfl (size30.of ((frC_fit n).len)) rfl rfl) ?_
 refine RS (ok_neqT (n := 4) true flat30 (by decide) (by kernel_rfl) (by kernel_rfl) rfl rfl (ceAt_fit hl _).kin (frC_fit n).kin (iff_of_true rfl (congrArg CelT.v heq))) ?_; refine RZ (.bool false) (by rfl) ?_
 refine RA rfl ?_
 refine RN ?_
 refine A.no rfl ?_
 refine A.skip ?_
 refine End.normal_block ?_
 refine EN ?_
 refine A.seq ?_
 refine GS ?_
 refine TL ?_
 refine RM rfl ?_
 refine RS (ok_callB (steps_fnB A₀ l.length q) newD_mono (A1 rfl)) ?_
 refine RN ?_
 refine A.sub (KC 4 rfl (KC 5 rfl (KC 30 rfl (KC 1000004 rfl (KC 1000005 rfl (KC 1000006 rfl (KC 1000092 rfl (KC 1900000 rfl (KC 1900001 rfl (KC 1900002 rfl KN)))))))))) ?_
 refine A.openN (t := 30) (k := 1000091) rfl fun p hBp => ?_
 refine A.block ?_
 refine A.rangeE (gf := 41) (N := l.length - 1) (vL := 1000098) (vD := 1000099) (tp₁ := 31) (tp₂ := 32) (lb := [ptr p]) (ok := okAt l) (S := [(4, .v (ptr b4)), (5, .v (ptr b5))])
  (V := fun i => [(1000004, blk b4 3 [nI 0]), (1000005, blk b5 31 [.int .i64 0]), (1000091, blk p 51 [.slice A₀ l.length q]), (1000092, old w₀.heap.size (memR A₀ (celsV l)))]) (Vx := fun i => [(1000004, blk b4 3 [nI (i + 1)]), (1000005, blk b5 31 [.int .i64 13])])
  (Eb := fun i => [(9, .v (nB (folAt l i))), (8, .v (nI (i + 1)))] ++ ((31, .v (nI (i + 1))) :: (32, .v (nB (folAt l i))) :: ([(1000004, blk b4 3 [nI 0]), (1000005, blk b5 31 [.int .i64 0]), (1000091, blk p 51 [.slice A₀ l.length q]), (1000092, old w₀.heap.size (memR A₀ (celsV l)))] ++ [(4, .v (ptr b4)), (5, .v (ptr b5))])))
  (arg₁ := fun i => .v (nI (i + 1))) (arg₂ := fun i => .v (nB (folAt l i))) rfl ⟨_, Tryd.func41, by kernel_rfl, rfl⟩ (by decide) (by decide) (by decide) (by decide) (KC 1000004 rfl (KC 1000005 rfl (KC 1000091 rfl (KC 1000092 rfl (KC 4 rfl (KC 5 rfl KN))))))
  (fun x hx => by simp only [List.mem_cons, List.mem_append, List.not_mem_nil, or_false, or_assoc] at hx; rcases hx with rfl | rfl <;> first | exact ⟨vlt rfl, .inl ⟨_, rfl⟩⟩ | exact ⟨vlt rfl, .inr ⟨_, rfl⟩⟩)
  (fun i x hx => by simp only [List.mem_cons, List.mem_append, List.not_mem_nil, or_false, or_assoc] at hx; rcases hx with rfl | rfl | rfl | rfl <;> exact vle rfl)
  (fun i x hx => by simp only [List.mem_cons, List.mem_append, List.not_mem_nil, or_false, or_assoc] at hx; rcases hx with rfl | rfl <;> exact vle rfl)
  (fun i l' hl' x hx => by simp only [List.mem_cons, List.mem_append, List.not_mem_nil, or_false, or_assoc] at hx; rcases hx with rfl | rfl | rfl | rfl <;> first | exact Firm.blk | exact Firm.old hl' | exact Firm.v _ _ | exact Firm.varD Firm.own)
  (fun i l' hl' x hx => by simp only [List.mem_cons, List.mem_append, List.not_mem_nil, or_false, or_assoc] at hx; rcases hx with rfl | rfl <;> first | exact Firm.blk | exact Firm.old hl' | exact Firm.v _ _ | exact Firm.varD Firm.own)
  (fun i l' hl' x hx => by simp only [List.mem_cons, List.mem_append, List.not_mem_nil, or_false, or_assoc] at hx; rcases hx with rfl | rfl | rfl | rfl | rfl | rfl | rfl | rfl | rfl | rfl <;> first | exact Firm.blk | exact Firm.old hl' | exact Firm.v _ _ | exact Firm.varD Firm.own)
  (fun J Jx lf w hq h0 => steps1_seq (A₀ := A₀) (q := q) hl hm (hq.sub fun i x hx => by simp only [List.mem_cons, List.mem_append, List.not_mem_nil, or_false, or_assoc] at hx ⊢; rcases hx with rfl | rfl <;> simp) h0)
  (fun i l' a w hi hb h => assign_two (by decide) (by decide) (by decide) (by decide) (by decide) (by decide) rfl rfl h) ?_ ?_ (fun D i hD hi hok hko => by obtain ⟨e1, e2⟩ := flt_at hok hko hi; rw [e1, e2]; exact End.ret_block (End.ret_then (End.cellS2C (s := 1000004) (s' := 1000005) (vD := 1000099) rfl hD rfl Tryd.underlying3 rfl rfl rfl Tryd.underlying31 rfl rfl rfl)))
 ·intro i l' D rr mm hi' hok
  refine A.block ?_
  refine GS ?_
  refine TL ?_
  refine RM rfl ?_
  refine RB rfl rfl rfl ?_
  refine RN ?_
  refine A.cond rfl (fun hc34 => ?_) (fun hc34 => ?_)
  ·have hk : okAt l i = false := okAt_false.2 (by simpa using hc34)
   refine GS ?_
   refine TF 1 ?_
   refine RM rfl ?_
   refine RN ?_
   refine ⟨_, eff_storeS (n := 36) (s := 1000004) info3 rfl rfl rfl hBb4 rfl (by simp) (LV 4 rfl (LV 5 rfl (LT 1000005 rfl (LT 1000091 rfl (LO 1000092 rfl (LeftS.cons (t := 1000098) rfl (Surv.rec rfl) (LeftS.cons (t := 1000099) rfl (Surv.rec rfl) LN))))))), ?_⟩
   refine TF 2 ?_
   refine RN ?_
   refine ⟨_, eff_storeS (n := 36) (s := 1000005) info31 rfl rfl rfl hBb5 rfl (by simp) (LV 4 rfl (LV 5 rfl (LT 1000004 rfl (LT 1000091 rfl (LO 1000092 rfl (LeftS.cons (t := 1000098) rfl (Surv.rec rfl) (LeftS.cons (t := 1000099) rfl (Surv.rec rfl) LN))))))), ?_⟩
   refine TL ?_
   refine RN ?_
   refine A.ret ?_
   refine End.ret_block ?_
   first | exact End.roundEx hk (KC 1000098 rfl (KC 1000099 rfl (KC 1000004 rfl (KC 1000005 rfl KN)))) (fun p hp => by simp only [List.mem_cons, List.not_mem_nil, or_false] at hp; rcases hp with rfl | rfl | rfl | rfl <;> exact vle rfl) (by decide) | (rw [hf1, hf2]; exact End.cellS2C (s := 1000004) (s' := 1000005) (vD := 1000099) rfl hD rfl Tryd.underlying3 rfl rfl rfl Tryd.underlying31 rfl rfl rfl)
  ·have hk : okAt l i = true := okAt_true.2 (by simpa using hc34)
   refine A.skip ?_
   refine End.normal_block ?_
   exact End.roundE hk (KC 1000098 rfl (KC 1000099 rfl (KC 1000004 rfl (KC 1000005 rfl (KC 1000091 rfl (KC 1000092 rfl KN)))))) (fun p hp => by simp only [List.mem_cons, List.not_mem_nil, or_false] at hp; rcases hp with rfl | rfl | rfl | rfl | rfl | rfl <;> exact vle rfl) (by decide)
 ·intro D hD hall
  obtain ⟨hf1, hf2⟩ := flt_ok hall
  refine End.normal_block ?_
  refine EN ?_
  refine GS ?_
  refine TF 0 ?_
  refine RN ?_
  refine ⟨_, eff_storeS (n := 36) (s := 1000004) info3 rfl rfl rfl hBb4 rfl (by simp) (LV 4 rfl (LV 5 rfl (LT 1000005 rfl (LeftS.cons (t := 1000099) rfl (Surv.rec rfl) LN)))), ?_⟩
  refine TF 1 ?_
  refine RN ?_
  refine ⟨_, eff_storeS (n := 36) (s := 1000005) info31 rfl rfl rfl hBb5 rfl (by simp) (LV 4 rfl (LV 5 rfl (LT 1000004 rfl (LeftS.cons (t := 1000099) rfl (Surv.rec rfl) LN)))), ?_⟩
  refine TL ?_
  refine RN ?_
  refine A.ret ?_
  first | exact End.roundEx hk (KC 1000098 rfl (KC 1000099 rfl (KC 1000004 rfl (KC 1000005 rfl KN)))) (fun p hp => by simp only [List.mem_cons, List.not_mem_nil, or_false] at hp; rcases hp with rfl | rfl | rfl | rfl <;> exact vle rfl) (by decide) | (rw [hf1, hf2]; exact End.cellS2C (s := 1000004) (s' := 1000005) (vD := 1000099) rfl hD rfl Tryd.underlying3 rfl rfl rfl Tryd.underlying31 rfl rfl rfl)
/-- What Sound returns. -/
def sndV (n : Nat) (l : List CelT) : Nat × Int := if l.length = 0 then (0, 16) else if ceAt l 0 = frC n then (fault l, fltE l) else (0, 1)
theorem Sound_fn (n : Nat) (h1 : 1 ≤ n) (h2 : n ≤ 4096) (l : List CelT) (hl : ∀ c ∈ l, c.Fit) (hm : l.length ≤ 1000) : FnM Tryd.prog 20 tabN [.v (nI (n)), rowLg l.length (celsV l)] (.v (.tuple #[nI (sndV n l).1, .int .i64 (sndV n l).2])) := by
 unfold sndV
 by_cases h0 : l.length = 0
 ·rw [if_pos h0]; exact Sound_nil n h1 h2 l hl hm h0
 rw [if_neg h0]
 by_cases heq : ceAt l 0 = frC n
 ·rw [if_pos heq]; exact Sound_go n h1 h2 l hl hm h0 heq
 ·rw [if_neg heq]; exact Sound_arg n h1 h2 l hl hm h0 heq
set_option maxHeartbeats 2000000 in
theorem Commits_fn (l : List CelT) (hl : ∀ c ∈ l, c.Fit) (hm : l.length ≤ 1000)  : Fn Tryd.prog 21 [rowLg l.length (celsV l)] (vlist (intsV (com l)) (com l).length) := by
 refine Fn.of Tryd.func21 rfl (by kernel_rfl) Tryd.ntmps21 (by simp) (fun w => [(0, old w.heap.size (rowLg l.length (celsV l)))]) (fun w => (Start.old rfl Start.nil)) fun w₀ => ?_
 refine A.nameRC (t := 0) (k := 1000092) rfl fun A₀ q hmq => ?_
 refine GS ?_
 refine TL ?_
 refine RA rfl ?_
 refine RN ?_
 refine GS ?_
 refine TN 0 ?_
 refine RN ?_
 refine ⟨_, _, eff_alloc (n := 18) (d := 3) (k := 1000003) zero56 (by decide), fun b3 hb3 => ?_⟩
 have hBb3 := hb3.1
 refine TL ?_
 refine RN ?_
 refine A.seq ?_
 refine GS ?_
 refine TL ?_
 refine RM rfl ?_
 refine RS (ok_callB (steps_fnB A₀ l.length q) newD_mono (A1 rfl)) ?_
 refine RN ?_
 refine A.openN (t := 7) (k := 1000091) rfl fun p hBp => ?_
 refine A.openNil (k := 1000003) (B' := w₀.heap.size) (e := 3) rfl ?_
 refine A.block ?_
 refine A.rangeE (gf := 41) (N := l.length - 1) (vL := 1000098) (vD := 1000099) (tp₁ := 8) (tp₂ := 9) (lb := [ptr p]) (ok := fun _ => true) (S := [(3, .v (ptr b3))])
  (V := fun i => [(1000003, varD b3 56 (own w₀.heap.size 3 (comN l i).length (intsV (comN l i)))), (1000091, blk p 51 [.slice A₀ l.length q]), (1000092, old w₀.heap.size (memR A₀ (celsV l)))]) (Vx := fun i => [])
  (Eb := fun i => [(5, .v (nB (folAt l i))), (4, .v (nI (i + 1)))] ++ ((8, .v (nI (i + 1))) :: (9, .v (nB (folAt l i))) :: ([(1000003, varD b3 56 (own w₀.heap.size 3 (comN l i).length (intsV (comN l i)))), (1000091, blk p 51 [.slice A₀ l.length q]), (1000092, old w₀.heap.size (memR A₀ (celsV l)))] ++ [(3, .v (ptr b3))])))
  (arg₁ := fun i => .v (nI (i + 1))) (arg₂ := fun i => .v (nB (folAt l i))) rfl ⟨_, Tryd.func41, by kernel_rfl, rfl⟩ (by decide) (by decide) (by decide) (by decide) (KC 1000003 rfl (KC 1000091 rfl (KC 1000092 rfl (KC 3 rfl KN))))
  (fun x hx => by simp only [List.mem_cons, List.mem_append, List.not_mem_nil, or_false, or_assoc] at hx; rcases hx with rfl <;> first | exact ⟨vlt rfl, .inl ⟨_, rfl⟩⟩ | exact ⟨vlt rfl, .inr ⟨_, rfl⟩⟩)
  (fun i x hx => by simp only [List.mem_cons, List.mem_append, List.not_mem_nil, or_false, or_assoc] at hx; rcases hx with rfl | rfl | rfl <;> exact vle rfl)
  (fun i x hx => by cases hx)
  (fun i l' hl' x hx => by simp only [List.mem_cons, List.mem_append, List.not_mem_nil, or_false, or_assoc] at hx; rcases hx with rfl | rfl | rfl <;> first | exact Firm.blk | exact Firm.old hl' | exact Firm.v _ _ | exact Firm.varD Firm.own)
  (fun i l' hl' x hx => by cases hx)
  (fun i l' hl' x hx => by simp only [List.mem_cons, List.mem_append, List.not_mem_nil, or_false, or_assoc] at hx; rcases hx with rfl | rfl | rfl | rfl | rfl | rfl | rfl | rfl <;> first | exact Firm.blk | exact Firm.old hl' | exact Firm.v _ _ | exact Firm.varD Firm.own)
  (fun J Jx lf w hq h0 => steps1_seq (A₀ := A₀) (q := q) hl hm (hq.sub fun i x hx => by simp only [List.mem_cons, List.mem_append, List.not_mem_nil, or_false, or_assoc] at hx ⊢; rcases hx with rfl | rfl <;> simp) h0)
  (fun i l' a w hi hb h => assign_two (by decide) (by decide) (by decide) (by decide) (by decide) (by decide) rfl rfl h) ?_ ?_ (fun D i hD hi hok hko => by cases hko)
 ·intro i l' D rr mm hi' hok
  refine A.block ?_
  refine GS ?_
  refine TL ?_
  refine RM rfl ?_
  refine RB rfl rfl rfl ?_
  refine RN ?_
  refine A.cond rfl (fun hc11 => ?_) (fun hc11 => ?_)
  ·have hk : folAt l i = 1 := by simp at hc11; omega
   refine A.openVar (k := 1000003) (k' := 1000203) rfl fun v3 => ?_
   refine GE ?_
   refine TF 3 ?_
   refine RS (ok_loadV (s := 1000003) (by decide) Tryd.underlying56 rfl rfl rfl (rfl)) ?_
   refine RM rfl ?_
   refine RS (ok_build [.v (nI (i + 1))] Tryd.underlying56 info3 rfl (by decide) (by decide) rfl ⟨rfl, rfl, trivial⟩ (fun d hd w x h => by simp only [List.mem_cons, List.not_mem_nil, or_false] at hd; rcases hd with rfl; exact v_one rfl h)) ?_
   refine RN ?_
   refine ⟨_, eff_appendVO (n := 18) (k := 1000203) (vs := [nI (i + 1)]) Tryd.underlying56 info3 (by decide) rfl rfl rfl rfl (le_lst _ _) (by simp [Value.oneCell']) (by have := comN_le l i; simp; omega) (by decide) (by decide) rfl (fun g hB hg => (LV 3 rfl (LV 4 rfl (LV 11 rfl (LV 12 rfl (LV 13 rfl (LT 1000003 rfl (LT 1000091 rfl (LO 1000092 rfl (LeftS.cons (t := 1000098) rfl (Surv.rec rfl) (LeftS.cons (t := 1000099) rfl (Surv.rec rfl) LN))))))))))), ?_⟩
   refine TF 4 ?_
   refine RN ?_
   refine ⟨_, eff_storeD (n := 18) (s := 1000003) info56 rfl rfl (fun _ _ h => own_one h) hBb3 rfl (Surv.own (by decide)) (LT 1000091 rfl (LO 1000092 rfl (LeftS.cons (t := 1000098) rfl (Surv.rec rfl) (LeftS.cons (t := 1000099) rfl (Surv.rec rfl) LN)))), ?_⟩
   refine TL ?_
   refine RN ?_
   refine End.sub (KE 1000003 rfl (show varD b3 56 (own w₀.heap.size 3 ((comN l i).length + [nI (i + 1)].length) (intsV (comN l i) ++ [nI (i + 1)])) = varD b3 56 (own w₀.heap.size 3 (comN l (i + 1)).length (intsV (comN l (i + 1)))) from varD_eq (by rw [comN_y hk]; simp [intsV])) (KC 1000091 rfl (KC 1000092 rfl (KC 1000098 rfl (KC 1000099 rfl KN))))) ?_
   refine End.normal_block ?_
   first | exact End.roundE rfl (KC 1000098 rfl (KC 1000099 rfl (KE 1000003 rfl (by rw [comN_n hk]) (KC 1000091 rfl (KC 1000092 rfl KN))))) (fun p hp => by simp only [List.mem_cons, List.not_mem_nil, or_false] at hp; rcases hp with rfl | rfl | rfl | rfl | rfl <;> exact vle rfl) (by decide) | exact End.roundE rfl (KC 1000098 rfl (KC 1000099 rfl (KC 1000003 rfl (KC 1000091 rfl (KC 1000092 rfl KN))))) (fun p hp => by simp only [List.mem_cons, List.not_mem_nil, or_false] at hp; rcases hp with rfl | rfl | rfl | rfl | rfl <;> exact vle rfl) (by decide)
  ·have hk : folAt l i ≠ 1 := by simp at hc11; omega
   refine A.skip ?_
   refine End.normal_block ?_
   first | exact End.roundE rfl (KC 1000098 rfl (KC 1000099 rfl (KE 1000003 rfl (by rw [comN_n hk]) (KC 1000091 rfl (KC 1000092 rfl KN))))) (fun p hp => by simp only [List.mem_cons, List.not_mem_nil, or_false] at hp; rcases hp with rfl | rfl | rfl | rfl | rfl <;> exact vle rfl) (by decide) | exact End.roundE rfl (KC 1000098 rfl (KC 1000099 rfl (KC 1000003 rfl (KC 1000091 rfl (KC 1000092 rfl KN))))) (fun p hp => by simp only [List.mem_cons, List.not_mem_nil, or_false] at hp; rcases hp with rfl | rfl | rfl | rfl | rfl <;> exact vle rfl) (by decide)
 ·intro D hD hall
  refine End.normal_block ?_
  refine EN ?_
  refine GS ?_
  refine TL ?_
  refine RS (ok_loadD (s := 1000003) (by decide) Tryd.underlying56 rfl rfl rfl) ?_
  refine RS (ok_call (clip15_fn w₀.heap.size (com l).length (intsV (com l)) (by simp) (by have := comN_le l (l.length - 1); simp only [com, maxLen]; omega)) (A1 rfl)) ?_
  refine RA rfl ?_
  refine RN ?_
  refine A.ret ?_
  exact End.ret1C (vD := 1000099) rfl hD rfl rfl Firm.vlist (Le.refl _)
/-- By how much one number is above another one, as numbers of 64 bits say it. -/
def subQ (x y : Nat) : Value := .int .u64 (IntKind.u64.wrap ((x : Int) - (y : Int)))
def betC (l : List CelT) (i j : Nat) : List CelT := cut l i (j + 1)
/-- What Between returns. -/
def betV (l : List CelT) (i j : Nat) : Value := if fault (betC l i j) = 0 then .tuple #[subQ (ceAt l j).e (ceAt l i).e, subQ (ceAt l j).m (ceAt l i).m, .int .i64 0] else .tuple #[.int .u64 0, .int .u64 0, .int .i64 13]
theorem betV_ok {l : List CelT} {i j : Nat} (h : ∀ k, k < (betC l i j).length - 1 → okAt (betC l i j) k = true) : betV l i j = .tuple #[subQ (ceAt l j).e (ceAt l i).e, subQ (ceAt l j).m (ceAt l i).m, .int .i64 0] := if_pos (flt_ok h).1
theorem betV_at {l : List CelT} {i j k : Nat} (h : ∀ m, m < k → okAt (betC l i j) m = true) (hi : okAt (betC l i j) k = false) (hn : k < (betC l i j).length - 1) : betV l i j = .tuple #[.int .u64 0, .int .u64 0, .int .i64 13] := if_neg (by rw [(flt_at h hi hn).1]; omega)
theorem Bet_lo (l : List CelT) (hl : ∀ c ∈ l, c.Fit) (hm : l.length ≤ 1000) (f j : Int) (h : f < 0) : Fn Tryd.prog 22 [rowLg l.length (celsV l), .v (.int .i64 (f)), .v (.int .i64 (j))] (.v (.tuple #[.int .u64 0, .int .u64 0, .int .i64 1])) := by
 refine Fn.of Tryd.func22 rfl (by kernel_rfl) Tryd.ntmps22 (by simp) (fun w => [(0, old w.heap.size (rowLg l.length (celsV l))), (1, .v (.int .i64 (f))), (2, .v (.int .i64 (j)))]) (fun w => (Start.old rfl (Start.v rfl (Start.v rfl Start.nil)))) fun w₀ => ?_
 refine A.nameRC (t := 0) (k := 1000092) rfl fun A₀ q hmq => ?_
 refine GS ?_
 refine TN 0 ?_
 refine RN ?_
 refine ⟨_, _, eff_alloc (n := 56) (d := 6) (k := 1000006) zero28 (by decide), fun b6 hb6 => ?_⟩
 have hBb6 := hb6.1
 refine TN 1 ?_
 refine RN ?_
 refine ⟨_, _, eff_alloc (n := 56) (d := 7) (k := 1000007) zero28 (by decide), fun b7 hb7 => ?_⟩
 have hBb7 := hb7.1
 have hlt_b6_b7 : b6 < b7 := hb7.2 1000006 _ _ _ rfl
 refine TN 2 ?_
 refine RN ?_
 refine ⟨_, _, eff_alloc (n := 56) (d := 8) (k := 1000008) zero31 (by decide), fun b8 hb8 => ?_⟩
 have hBb8 := hb8.1
 refine TL ?_
 refine RN ?_
 refine A.seq ?_
 refine GS ?_
 refine TL ?_
 refine RM rfl ?_
 refine RBS rfl rfl rfl (.bool true) (by first | rfl | (simp; done) | (simp; omega) | (simp [*]; done) | (simp [*]; omega)) ?_
 refine RM rfl ?_
 refine RK ?_
 refine RK ?_
 refine RK ?_
 refine RP rfl rfl ?_
 refine RM rfl ?_
 refine RK ?_
 refine RK ?_
 refine RK ?_
 refine RK ?_
 refine RP rfl rfl ?_
 refine RN ?_
 refine A.yes rfl ?_
 refine GS ?_
 refine TF 0 ?_
 refine RN ?_
 refine ⟨_, eff_storeS (n := 56) (s := 1000006) info28 rfl rfl rfl hBb6 rfl (by simp) (LV 6 rfl (LV 7 rfl (LV 8 rfl (LB 1000007 rfl (LT 1000008 rfl (LO 1000092 rfl LN)))))), ?_⟩
 refine TF 1 ?_
 refine RN ?_
 refine ⟨_, eff_storeS (n := 56) (s := 1000007) info28 rfl rfl rfl hBb7 rfl (by simp) (LV 6 rfl (LV 7 rfl (LV 8 rfl (LB 1000006 rfl (LT 1000008 rfl (LO 1000092 rfl LN)))))), ?_⟩
 refine TF 2 ?_
 refine RN ?_
 refine ⟨_, eff_storeS (n := 56) (s := 1000008) info31 rfl rfl rfl hBb8 rfl (by simp) (LV 6 rfl (LV 7 rfl (LV 8 rfl (LT 1000006 rfl (LT 1000007 rfl (LO 1000092 rfl LN)))))), ?_⟩
 refine TL ?_
 refine RN ?_
 refine A.ret ?_
 refine End.ret_then ?_
 exact End.cellS3 (s := 1000006) (s' := 1000007) (s'' := 1000008) rfl Tryd.underlying28 rfl rfl rfl Tryd.underlying28 rfl rfl rfl Tryd.underlying31 rfl rfl rfl
theorem Bet_up (l : List CelT) (hl : ∀ c ∈ l, c.Fit) (hm : l.length ≤ 1000) (f j : Int) (h : ¬ f < 0) (h2 : j < f) : Fn Tryd.prog 22 [rowLg l.length (celsV l), .v (.int .i64 (f)), .v (.int .i64 (j))] (.v (.tuple #[.int .u64 0, .int .u64 0, .int .i64 1])) := by
 refine Fn.of Tryd.func22 rfl (by kernel_rfl) Tryd.ntmps22 (by simp) (fun w => [(0, old w.heap.size (rowLg l.length (celsV l))), (1, .v (.int .i64 (f))), (2, .v (.int .i64 (j)))]) (fun w => (Start.old rfl (Start.v rfl (Start.v rfl Start.nil)))) fun w₀ => ?_
 refine A.nameRC (t := 0) (k := 1000092) rfl fun A₀ q hmq => ?_
 refine GS ?_
 refine TN 0 ?_
 refine RN ?_
 refine ⟨_, _, eff_alloc (n := 56) (d := 6) (k := 1000006) zero28 (by decide), fun b6 hb6 => ?_⟩
 have hBb6 := hb6.1
 refine TN 1 ?_
 refine RN ?_
 refine ⟨_, _, eff_alloc (n := 56) (d := 7) (k := 1000007) zero28 (by decide), fun b7 hb7 => ?_⟩
 have hBb7 := hb7.1
 have hlt_b6_b7 : b6 < b7 := hb7.2 1000006 _ _ _ rfl
 refine TN 2 ?_
 refine RN ?_
 refine ⟨_, _, eff_alloc (n := 56) (d := 8) (k := 1000008) zero31 (by decide), fun b8 hb8 => ?_⟩
 have hBb8 := hb8.1
 refine TL ?_
 refine RN ?_
 refine A.seq ?_
 refine GS ?_
 refine TL ?_
 refine RM rfl ?_
 refine RBS rfl rfl rfl (.bool false) (by first | rfl | (simp; done) | (simp; omega) | (simp [*]; done) | (simp [*]; omega)) ?_
 refine RM rfl ?_
 refine RQ (ok_move rfl) ?_
 refine RQ (ok_move rfl) ?_
 refine RQ (ok_bin rfl rfl rfl) ?_; refine RZ (.bool true) (by first | rfl | (simp; done) | (simp; omega) | (simp [*]; done) | (simp [*]; omega)) ?_
 refine RP rfl rfl ?_
 refine RM rfl ?_
 refine RK ?_
 refine RK ?_
 refine RK ?_
 refine RK ?_
 refine RP rfl rfl ?_
 refine RN ?_
 refine A.yes rfl ?_
 refine GS ?_
 refine TF 0 ?_
 refine RN ?_
 refine ⟨_, eff_storeS (n := 56) (s := 1000006) info28 rfl rfl rfl hBb6 rfl (by simp) (LV 6 rfl (LV 7 rfl (LV 8 rfl (LB 1000007 rfl (LT 1000008 rfl (LO 1000092 rfl LN)))))), ?_⟩
 refine TF 1 ?_
 refine RN ?_
 refine ⟨_, eff_storeS (n := 56) (s := 1000007) info28 rfl rfl rfl hBb7 rfl (by simp) (LV 6 rfl (LV 7 rfl (LV 8 rfl (LB 1000006 rfl (LT 1000008 rfl (LO 1000092 rfl LN)))))), ?_⟩
 refine TF 2 ?_
 refine RN ?_
 refine ⟨_, eff_storeS (n := 56) (s := 1000008) info31 rfl rfl rfl hBb8 rfl (by simp) (LV 6 rfl (LV 7 rfl (LV 8 rfl (LT 1000006 rfl (LT 1000007 rfl (LO 1000092 rfl LN)))))), ?_⟩
 refine TL ?_
 refine RN ?_
 refine A.ret ?_
 refine End.ret_then ?_
 exact End.cellS3 (s := 1000006) (s' := 1000007) (s'' := 1000008) rfl Tryd.underlying28 rfl rfl rfl Tryd.underlying28 rfl rfl rfl Tryd.underlying31 rfl rfl rfl
theorem Bet_hi (l : List CelT) (hl : ∀ c ∈ l, c.Fit) (hm : l.length ≤ 1000) (f j : Int) (h : ¬ f < 0) (h2 : ¬ j < f) (h3 : (l.length : Int) ≤ j) : Fn Tryd.prog 22 [rowLg l.length (celsV l), .v (.int .i64 (f)), .v (.int .i64 (j))] (.v (.tuple #[.int .u64 0, .int .u64 0, .int .i64 1])) := by
 refine Fn.of Tryd.func22 rfl (by kernel_rfl) Tryd.ntmps22 (by simp) (fun w => [(0, old w.heap.size (rowLg l.length (celsV l))), (1, .v (.int .i64 (f))), (2, .v (.int .i64 (j)))]) (fun w => (Start.old rfl (Start.v rfl (Start.v rfl Start.nil)))) fun w₀ => ?_
 refine A.nameRC (t := 0) (k := 1000092) rfl fun A₀ q hmq => ?_
 refine GS ?_
 refine TN 0 ?_
 refine RN ?_
 refine ⟨_, _, eff_alloc (n := 56) (d := 6) (k := 1000006) zero28 (by decide), fun b6 hb6 => ?_⟩
 have hBb6 := hb6.1
 refine TN 1 ?_
 refine RN ?_
 refine ⟨_, _, eff_alloc (n := 56) (d := 7) (k := 1000007) zero28 (by decide), fun b7 hb7 => ?_⟩
 have hBb7 := hb7.1
 have hlt_b6_b7 : b6 < b7 := hb7.2 1000006 _ _ _ rfl
 refine TN 2 ?_
 refine RN ?_
 refine ⟨_, _, eff_alloc (n := 56) (d := 8) (k := 1000008) zero31 (by decide), fun b8 hb8 => ?_⟩
 have hBb8 := hb8.1
 refine TL ?_
 refine RN ?_
 refine A.seq ?_
 refine GS ?_
 refine TL ?_
 refine RM rfl ?_
 refine RBS rfl rfl rfl (.bool false) (by first | rfl | (simp; done) | (simp; omega) | (simp [*]; done) | (simp [*]; omega)) ?_
 refine RM rfl ?_
 refine RQ (ok_move rfl) ?_
 refine RQ (ok_move rfl) ?_
 refine RQ (ok_bin rfl rfl rfl) ?_; refine RZ (.bool false) (by first | rfl | (simp; done) | (simp; omega) | (simp [*]; done) | (simp [*]; omega)) ?_
 refine RP rfl rfl ?_
 refine RM rfl ?_
 refine RQ (ok_move rfl) ?_
 refine RQ (ok_move rfl) ?_
 refine RQ (ok_lenV Tryd.underlying51 rfl) ?_
 refine RQ (ok_bin rfl rfl rfl) ?_; refine RZ (.bool true) (by first | rfl | (simp; done) | (simp; omega) | (simp [*]; done) | (simp [*]; omega)) ?_
 refine RP rfl rfl ?_
 refine RN ?_
 refine A.yes rfl ?_
 refine GS ?_
 refine TF 0 ?_
 refine RN ?_
 refine ⟨_, eff_storeS (n := 56) (s := 1000006) info28 rfl rfl rfl hBb6 rfl (by simp) (LV 6 rfl (LV 7 rfl (LV 8 rfl (LB 1000007 rfl (LT 1000008 rfl (LO 1000092 rfl LN)))))), ?_⟩
 refine TF 1 ?_
 refine RN ?_
 refine ⟨_, eff_storeS (n := 56) (s := 1000007) info28 rfl rfl rfl hBb7 rfl (by simp) (LV 6 rfl (LV 7 rfl (LV 8 rfl (LB 1000006 rfl (LT 1000008 rfl (LO 1000092 rfl LN)))))), ?_⟩
 refine TF 2 ?_
 refine RN ?_
 refine ⟨_, eff_storeS (n := 56) (s := 1000008) info31 rfl rfl rfl hBb8 rfl (by simp) (LV 6 rfl (LV 7 rfl (LV 8 rfl (LT 1000006 rfl (LT 1000007 rfl (LO 1000092 rfl LN)))))), ?_⟩
 refine TL ?_
 refine RN ?_
 refine A.ret ?_
 refine End.ret_then ?_
 exact End.cellS3 (s := 1000006) (s' := 1000007) (s'' := 1000008) rfl Tryd.underlying28 rfl rfl rfl Tryd.underlying28 rfl rfl rfl Tryd.underlying31 rfl rfl rfl
set_option maxHeartbeats 2000000 in
theorem Bet_go (l : List CelT) (hl : ∀ c ∈ l, c.Fit) (hm : l.length ≤ 1000) (f j : Nat) (h1 : f ≤ j) (h2 : j < l.length) : Fn Tryd.prog 22 [rowLg l.length (celsV l), .v (nI (f)), .v (nI (j))] (.v (betV l f j)) := by
 have hbl : (betC l f j).length = j + 1 - f := cut_len (by omega)
 have hlB := cut_fit hl f (j + 1)
 have hmB : (betC l f j).length ≤ 1000 := by omega
 refine Fn.of Tryd.func22 rfl (by kernel_rfl) Tryd.ntmps22 (by simp) (fun w => [(0, old w.heap.size (rowLg l.length (celsV l))), (1, .v (nI (f))), (2, .v (nI (j)))]) (fun w => (Start.old rfl (Start.v rfl (Start.v rfl Start.nil)))) fun w₀ => ?_
 refine A.nameRA (t := 0) (k := 1000095) rfl (by rw [cels_len hl]; omega) fun ad q hmq => ?_
 refine A.partM (k := 1000095) (k' := 1000092) (f * 34) ((j + 1 - f) * 34) rfl ?_
 rw [cut_v hl (by omega : f ≤ j + 1)]
 refine GS ?_
 refine TN 0 ?_
 refine RN ?_
 refine ⟨_, _, eff_alloc (n := 56) (d := 6) (k := 1000006) zero28 (by decide), fun b6 hb6 => ?_⟩
 have hBb6 := hb6.1
 refine TN 1 ?_
 refine RN ?_
 refine ⟨_, _, eff_alloc (n := 56) (d := 7) (k := 1000007) zero28 (by decide), fun b7 hb7 => ?_⟩
 have hBb7 := hb7.1
 have hlt_b6_b7 : b6 < b7 := hb7.2 1000006 _ _ _ rfl
 refine TN 2 ?_
 refine RN ?_
 refine ⟨_, _, eff_alloc (n := 56) (d := 8) (k := 1000008) zero31 (by decide), fun b8 hb8 => ?_⟩
 have hBb8 := hb8.1
 have hlt_b6_b8 : b6 < b8 := hb8.2 1000006 _ _ _ rfl
 have hlt_b7_b8 : b7 < b8 := hb8.2 1000007 _ _ _ rfl
 refine TL ?_
 refine RN ?_
 refine A.seq ?_
 refine GS ?_
 refine TL ?_
 refine RM rfl ?_
 refine RBS rfl rfl rfl (.bool false) (by first | rfl | (simp; done) | (simp; omega) | (simp [*]; done) | (simp [*]; omega)) ?_
 refine RM rfl ?_
 refine RQ (ok_move rfl) ?_
 refine RQ (ok_move rfl) ?_
 refine RQ (ok_bin rfl rfl rfl) ?_; refine RZ (.bool false) (by first | rfl | (simp; done) | (simp; omega) | (simp [*]; done) | (simp [*]; omega)) ?_
 refine RP rfl rfl ?_
 refine RM rfl ?_
 refine RQ (ok_move rfl) ?_
 refine RQ (ok_move rfl) ?_
 refine RQ (ok_lenV Tryd.underlying51 rfl) ?_
 refine RQ (ok_bin rfl rfl rfl) ?_; refine RZ (.bool false) (by first | rfl | (simp; done) | (simp; omega) | (simp [*]; done) | (simp [*]; omega)) ?_
 refine RP rfl rfl ?_
 refine RN ?_
 refine A.no rfl ?_
 refine A.skip ?_
 refine EN ?_
 refine A.seq ?_
 refine GS ?_
 refine TL ?_
 refine RM rfl ?_
 refine RM rfl ?_
 refine RM rfl ?_
 refine RBS rfl rfl rfl (nI (j + 1)) (wrap_eq (by omega) (by omega)) ?_
 refine RS (ok_sliceRE (s := 1000095) f (j + 1) Tryd.underlying51 infoC rfl (by decide) rfl rfl rfl (by omega) (by omega) (by rw [cels_len hl]; omega)) ?_
 refine RS (ok_callB (steps_fnB _ (j + 1 - f) (q - f)) newD_mono (A1 rfl)) ?_
 refine RN ?_
 refine A.openN (t := 29) (k := 1000091) rfl fun p hBp => ?_
 refine A.block ?_
 refine A.rangeE (gf := 41) (N := (betC l f j).length - 1) (vL := 1000098) (vD := 1000099) (tp₁ := 30) (tp₂ := 31) (lb := [ptr p]) (ok := okAt (betC l f j)) (S := [(6, .v (ptr b6)), (7, .v (ptr b7)), (8, .v (ptr b8)), (0, .v (.slice (some ad) l.length q)), (1, .v (nI (f))), (2, .v (nI (j)))])
  (V := fun i => [(1000006, blk b6 28 [.int .u64 0]), (1000007, blk b7 28 [.int .u64 0]), (1000008, blk b8 31 [.int .i64 0]), (1000091, blk p 51 [.slice ((some ad).map (·.add (f * 34))) (j + 1 - f) (q - f)]), (1000092, old w₀.heap.size (memR ((some ad).map (·.add (f * 34))) (celsV (betC l f j)))), (1000095, old w₀.heap.size (memR (some ad) (celsV l)))]) (Vx := fun i => [(1000006, blk b6 28 [.int .u64 0]), (1000007, blk b7 28 [.int .u64 0]), (1000008, blk b8 31 [.int .i64 13])])
  (Eb := fun i => [(10, .v (nB (folAt (betC l f j) i)))] ++ ((30, .v (nI (i + 1))) :: (31, .v (nB (folAt (betC l f j) i))) :: ([(1000006, blk b6 28 [.int .u64 0]), (1000007, blk b7 28 [.int .u64 0]), (1000008, blk b8 31 [.int .i64 0]), (1000091, blk p 51 [.slice ((some ad).map (·.add (f * 34))) (j + 1 - f) (q - f)]), (1000092, old w₀.heap.size (memR ((some ad).map (·.add (f * 34))) (celsV (betC l f j)))), (1000095, old w₀.heap.size (memR (some ad) (celsV l)))] ++ [(6, .v (ptr b6)), (7, .v (ptr b7)), (8, .v (ptr b8)), (0, .v (.slice (some ad) l.length q)), (1, .v (nI (f))), (2, .v (nI (j)))])))
  (arg₁ := fun i => .v (nI (i + 1))) (arg₂ := fun i => .v (nB (folAt (betC l f j) i))) rfl ⟨_, Tryd.func41, by kernel_rfl, rfl⟩ (by decide) (by decide) (by decide) (by decide) (KC 1000006 rfl (KC 1000007 rfl (KC 1000008 rfl (KC 1000091 rfl (KC 1000092 rfl (KC 1000095 rfl (KC 6 rfl (KC 7 rfl (KC 8 rfl (KC 0 rfl (KC 1 rfl (KC 2 rfl KN))))))))))))
  (fun x hx => by simp only [List.mem_cons, List.mem_append, List.not_mem_nil, or_false, or_assoc] at hx; rcases hx with rfl | rfl | rfl | rfl | rfl | rfl <;> first | exact ⟨vlt rfl, .inl ⟨_, rfl⟩⟩ | exact ⟨vlt rfl, .inr ⟨_, rfl⟩⟩)
  (fun i x hx => by simp only [List.mem_cons, List.mem_append, List.not_mem_nil, or_false, or_assoc] at hx; rcases hx with rfl | rfl | rfl | rfl | rfl | rfl <;> exact vle rfl)
  (fun i x hx => by simp only [List.mem_cons, List.mem_append, List.not_mem_nil, or_false, or_assoc] at hx; rcases hx with rfl | rfl | rfl <;> exact vle rfl)
  (fun i l' hl' x hx => by simp only [List.mem_cons, List.mem_append, List.not_mem_nil, or_false, or_assoc] at hx; rcases hx with rfl | rfl | rfl | rfl | rfl | rfl <;> first | exact Firm.blk | exact Firm.old hl' | exact Firm.v _ _ | exact Firm.varD Firm.own)
  (fun i l' hl' x hx => by simp only [List.mem_cons, List.mem_append, List.not_mem_nil, or_false, or_assoc] at hx; rcases hx with rfl | rfl | rfl <;> first | exact Firm.blk | exact Firm.old hl' | exact Firm.v _ _ | exact Firm.varD Firm.own)
  (fun i l' hl' x hx => by simp only [List.mem_cons, List.mem_append, List.not_mem_nil, or_false, or_assoc] at hx; rcases hx with rfl | rfl | rfl | rfl | rfl | rfl | rfl | rfl | rfl | rfl | rfl | rfl | rfl | rfl | rfl <;> first | exact Firm.blk | exact Firm.old hl' | exact Firm.v _ _ | exact Firm.varD Firm.own)
  (fun J Jx lf w hq h0 => steps1_seq (A₀ := ((some ad).map (·.add (f * 34)))) (q := q - f) (l := (betC l f j)) hlB hmB (hq.sub fun i x hx => by rw [hbl] at hx; simp only [List.mem_cons, List.mem_append, List.not_mem_nil, or_false, or_assoc] at hx ⊢; rcases hx with rfl | rfl <;> simp) h0)
  (fun i l' a w hi hb h => assign_at (by decide) (by decide) (by decide) rfl h) ?_ ?_ (fun D i hD hi hok hko => by rw [betV_at hok hko hi]; exact End.ret_block (End.ret_then (End.cellS3C (s := 1000006) (s' := 1000007) (s'' := 1000008) (vD := 1000099) rfl hD rfl Tryd.underlying28 rfl rfl rfl Tryd.underlying28 rfl rfl rfl Tryd.underlying31 rfl rfl rfl)))
 ·intro i l' D rr mm hi' hok
  refine A.block ?_
  refine GS ?_
  refine TL ?_
  refine RM rfl ?_
  refine RB rfl rfl rfl ?_
  refine RN ?_
  refine A.cond rfl (fun hc33 => ?_) (fun hc33 => ?_)
  ·have hk : okAt (betC l f j) i = false := okAt_false.2 (by simpa using hc33)
   refine GS ?_
   refine TF 0 ?_
   refine RN ?_
   refine ⟨_, eff_storeS (n := 56) (s := 1000006) info28 rfl rfl rfl hBb6 rfl (by simp) (LV 6 rfl (LV 7 rfl (LV 8 rfl (LB 1000007 rfl (LT 1000008 rfl (LT 1000091 rfl (LO 1000092 rfl (LO 1000095 rfl (LeftS.cons (t := 1000098) rfl (Surv.rec rfl) (LeftS.cons (t := 1000099) rfl (Surv.rec rfl) LN)))))))))), ?_⟩
   refine TF 1 ?_
   refine RN ?_
   refine ⟨_, eff_storeS (n := 56) (s := 1000007) info28 rfl rfl rfl hBb7 rfl (by simp) (LV 6 rfl (LV 7 rfl (LV 8 rfl (LB 1000006 rfl (LT 1000008 rfl (LT 1000091 rfl (LO 1000092 rfl (LO 1000095 rfl (LeftS.cons (t := 1000098) rfl (Surv.rec rfl) (LeftS.cons (t := 1000099) rfl (Surv.rec rfl) LN)))))))))), ?_⟩
   refine TF 2 ?_
   refine RN ?_
   refine ⟨_, eff_storeS (n := 56) (s := 1000008) info31 rfl rfl rfl hBb8 rfl (by simp) (LV 6 rfl (LV 7 rfl (LV 8 rfl (LT 1000006 rfl (LT 1000007 rfl (LT 1000091 rfl (LO 1000092 rfl (LO 1000095 rfl (LeftS.cons (t := 1000098) rfl (Surv.rec rfl) (LeftS.cons (t := 1000099) rfl (Surv.rec rfl) LN)))))))))), ?_⟩
   refine TL ?_
   refine RN ?_
   refine A.ret ?_
   refine End.ret_block ?_
   first | exact End.roundEx hk (KC 1000098 rfl (KC 1000099 rfl (KC 1000006 rfl (KC 1000007 rfl (KC 1000008 rfl KN))))) (fun p hp => by simp only [List.mem_cons, List.not_mem_nil, or_false] at hp; rcases hp with rfl | rfl | rfl | rfl | rfl <;> exact vle rfl) (by decide) | (rw [betV_ok hall]; exact End.cellS3C (s := 1000006) (s' := 1000007) (s'' := 1000008) (vD := 1000099) rfl hD rfl Tryd.underlying28 rfl rfl rfl Tryd.underlying28 rfl rfl rfl Tryd.underlying31 rfl rfl rfl)
  ·have hk : okAt (betC l f j) i = true := okAt_true.2 (by simpa using hc33)
   refine A.skip ?_
   refine End.normal_block ?_
   exact End.roundE hk (KC 1000098 rfl (KC 1000099 rfl (KC 1000006 rfl (KC 1000007 rfl (KC 1000008 rfl (KC 1000091 rfl (KC 1000092 rfl (KC 1000095 rfl KN)))))))) (fun p hp => by simp only [List.mem_cons, List.not_mem_nil, or_false] at hp; rcases hp with rfl | rfl | rfl | rfl | rfl | rfl | rfl | rfl <;> exact vle rfl) (by decide)
 ·intro D hD hall
  refine End.normal_block ?_
  refine EN ?_
  refine A.regsMK [⟨22, b6, 1000006, 28, .int .u64 0, subQ (ceAt l j).e (ceAt l f).e⟩, ⟨23, b7, 1000007, 28, .int .u64 0, subQ (ceAt l j).m (ceAt l f).m⟩, ⟨24, b8, 1000008, 31, .int .i64 0, .int .i64 0⟩] [_, _, _, _, _, _, _, _, _, _, _, _, _, _, _, _, _, _, _, _, _, _, undef, undef, undef] (by kernel_rfl) (by kernel_rfl) (by kernel_rfl) (by kernel_rfl) (KC 0 rfl (KC 1 rfl (KC 2 rfl (KC 6 rfl (KC 7 rfl (KC 8 rfl (KC 1000092 rfl (KC 1000095 rfl (KC 1000099 rfl KN)))))))))
   (Many.next (_) rfl rfl rfl (.inl rfl) FromN.all (ok_move rfl)
    (Many.next (_) rfl rfl rfl (.inl rfl) FromN.all (ok_move rfl)
    (Many.next ((34, .v _) :: (35, .v _) :: _) rfl rfl rfl (.inl rfl) (FromN.op 0 (by kernel_rfl) rfl rfl (FromN.op 1 (by kernel_rfl) rfl rfl FromN.all)) (ok_indexRX j Tryd.underlying51 infoC rfl rfl (by omega : j < l.length))
    (Many.next ((36, .v _) :: _) rfl rfl rfl (.inl rfl) (FromN.op 2 (by kernel_rfl) rfl rfl FromN.all) (ok_fieldRX field30_1 (by decide) rfl)
    (Many.next ((37, .v _) :: _) rfl rfl rfl (.inl rfl) (FromN.op 3 (by kernel_rfl) rfl rfl FromN.all) (ok_loadRX (u := nQ ((ceAt l j).e)) (s := 1000095) Tryd.underlying28 rfl rfl (by decide) rfl (cell_e hl (by omega : j < l.length)))
    (Many.next (_) rfl rfl rfl (.inl rfl) FromN.all (ok_move rfl)
    (Many.next (_) rfl rfl rfl (.inl rfl) FromN.all (ok_move rfl)
    (Many.next ((39, .v _) :: (40, .v _) :: _) rfl rfl rfl (.inl rfl) (FromN.op 5 (by kernel_rfl) rfl rfl (FromN.op 6 (by kernel_rfl) rfl rfl FromN.all)) (ok_indexRX f Tryd.underlying51 infoC rfl rfl (by omega : f < l.length))
    (Many.next ((41, .v _) :: _) rfl rfl rfl (.inl rfl) (FromN.op 7 (by kernel_rfl) rfl rfl FromN.all) (ok_fieldRX field30_1 (by decide) rfl)
    (Many.next ((42, .v _) :: _) rfl rfl rfl (.inl rfl) (FromN.op 8 (by kernel_rfl) rfl rfl FromN.all) (ok_loadRX (u := nQ ((ceAt l f).e)) (s := 1000095) Tryd.underlying28 rfl rfl (by decide) rfl (cell_e hl (by omega : f < l.length)))
    (Many.next ((38, .v _) :: (43, .v _) :: _) rfl rfl rfl (.inl rfl) (FromN.op 4 (by kernel_rfl) rfl rfl (FromN.op 9 (by kernel_rfl) rfl rfl FromN.all)) (OpOk.asV (subQ (ceAt l j).e (ceAt l f).e) (by rfl) (ok_bin rfl rfl rfl))
    (Many.next (_) rfl rfl rfl (.inl rfl) FromN.all (ok_move rfl)
    (Many.next (_) rfl rfl rfl (.inl rfl) FromN.all (ok_move rfl)
    (Many.next ((45, .v _) :: (46, .v _) :: _) rfl rfl rfl (.inl rfl) (FromN.op 11 (by kernel_rfl) rfl rfl (FromN.op 12 (by kernel_rfl) rfl rfl FromN.all)) (ok_indexRX j Tryd.underlying51 infoC rfl rfl (by omega : j < l.length))
    (Many.next ((47, .v _) :: _) rfl rfl rfl (.inl rfl) (FromN.op 13 (by kernel_rfl) rfl rfl FromN.all) (ok_fieldRX field30_2 (by decide) rfl)
    (Many.next ((48, .v _) :: _) rfl rfl rfl (.inl rfl) (FromN.op 14 (by kernel_rfl) rfl rfl FromN.all) (ok_loadRX (u := nQ ((ceAt l j).m)) (s := 1000095) Tryd.underlying28 rfl rfl (by decide) rfl (cell_m hl (by omega : j < l.length)))
    (Many.next (_) rfl rfl rfl (.inl rfl) FromN.all (ok_move rfl)
    (Many.next (_) rfl rfl rfl (.inl rfl) FromN.all (ok_move rfl)
    (Many.next ((50, .v _) :: (51, .v _) :: _) rfl rfl rfl (.inl rfl) (FromN.op 16 (by kernel_rfl) rfl rfl (FromN.op 17 (by kernel_rfl) rfl rfl FromN.all)) (ok_indexRX f Tryd.underlying51 infoC rfl rfl (by omega : f < l.length))
    (Many.next ((52, .v _) :: _) rfl rfl rfl (.inl rfl) (FromN.op 18 (by kernel_rfl) rfl rfl FromN.all) (ok_fieldRX field30_2 (by decide) rfl)
    (Many.next ((53, .v _) :: _) rfl rfl rfl (.inl rfl) (FromN.op 19 (by kernel_rfl) rfl rfl FromN.all) (ok_loadRX (u := nQ ((ceAt l f).m)) (s := 1000095) Tryd.underlying28 rfl rfl (by decide) rfl (cell_m hl (by omega : f < l.length)))
    (Many.next ((49, .v _) :: (54, .v _) :: _) rfl rfl rfl (.inl rfl) (FromN.op 15 (by kernel_rfl) rfl rfl (FromN.op 20 (by kernel_rfl) rfl rfl FromN.all)) (OpOk.asV (subQ (ceAt l j).m (ceAt l f).m) (by rfl) (ok_bin rfl rfl rfl))
    (Many.store ⟨22, b6, 1000006, 28, .int .u64 0, subQ (ceAt l j).e (ceAt l f).e⟩ List.mem_cons_self rfl ((44, .v _) :: _) rfl (FromN.op 10 (by kernel_rfl) rfl rfl FromN.all) rfl rfl
    (Many.store ⟨23, b7, 1000007, 28, .int .u64 0, subQ (ceAt l j).m (ceAt l f).m⟩ (List.mem_cons_of_mem _ List.mem_cons_self) rfl ((55, .v _) :: _) rfl (FromN.op 21 (by kernel_rfl) rfl rfl FromN.all) rfl rfl
    (Many.store ⟨24, b8, 1000008, 31, .int .i64 0, .int .i64 0⟩ (List.mem_cons_of_mem _ (List.mem_cons_of_mem _ List.mem_cons_self)) rfl (_) rfl FromN.all rfl rfl
    Many.nil)))))))))))))))))))))))))
   FromE.all (fun s hs => by simp only [List.mem_cons, List.not_mem_nil, or_false] at hs; rcases hs with rfl | rfl | rfl <;> rfl) (fun s hs => by simp only [List.mem_cons, List.not_mem_nil, or_false] at hs; rcases hs with rfl | rfl | rfl <;> first | exact hBb6 | exact hBb7 | exact hBb8)
   (fun s hs s' hs' => by simp only [List.mem_cons, List.not_mem_nil, or_false] at hs hs'; rcases hs with rfl | rfl | rfl <;> rcases hs' with rfl | rfl | rfl <;> first | exact .inl rfl | exact .inr ⟨fun h => by simp at h, fun h => by dsimp only at h; omega⟩)
   (fun s hs => by simp only [List.mem_cons, List.not_mem_nil, or_false] at hs; rcases hs with rfl | rfl | rfl <;> first | exact ⟨_, _, info28⟩ | exact ⟨_, _, info31⟩) (fun s hs => by simp only [List.mem_cons, List.not_mem_nil, or_false] at hs; rcases hs with rfl | rfl | rfl <;> rfl) (fun s hs => by simp only [List.mem_cons, List.not_mem_nil, or_false] at hs; rcases hs with rfl | rfl | rfl <;> exact (LV 0 rfl (LV 1 rfl (LV 2 rfl (LV 6 rfl (LV 7 rfl (LV 8 rfl (LO 1000092 rfl (LO 1000095 rfl (LeftS.cons (t := 1000099) rfl (Surv.rec rfl) LN)))))))))) ?_
  refine A.sub (KC 6 rfl (KC 7 rfl (KC 8 rfl (KC 1000006 rfl (KC 1000007 rfl (KC 1000008 rfl (KC 1000092 rfl (KC 1000095 rfl (KC 1000099 rfl KN))))))))) ?_
  refine A.ret ?_
  first | exact End.roundEx hk (KC 1000098 rfl (KC 1000099 rfl (KC 1000006 rfl (KC 1000007 rfl (KC 1000008 rfl KN))))) (fun p hp => by simp only [List.mem_cons, List.not_mem_nil, or_false] at hp; rcases hp with rfl | rfl | rfl | rfl | rfl <;> exact vle rfl) (by decide) | (rw [betV_ok hall]; exact End.cellS3C (s := 1000006) (s' := 1000007) (s'' := 1000008) (vD := 1000099) rfl hD rfl Tryd.underlying28 rfl rfl rfl Tryd.underlying28 rfl rfl rfl Tryd.underlying31 rfl rfl rfl)
theorem Bet_bad (l : List CelT) (hl : ∀ c ∈ l, c.Fit) (hm : l.length ≤ 1000) (f j : Int) (h : ¬ (0 ≤ f ∧ f ≤ j ∧ j < (l.length : Int))) : Fn Tryd.prog 22 [rowLg l.length (celsV l), .v (.int .i64 (f)), .v (.int .i64 (j))] (.v (.tuple #[.int .u64 0, .int .u64 0, .int .i64 1])) := by
 by_cases h1 : f < 0
 ·exact Bet_lo l hl hm f j h1
 by_cases h2 : j < f
 ·exact Bet_up l hl hm f j h1 h2
 ·exact Bet_hi l hl hm f j h1 h2 (by omega)
end Go.Proofs.YtfjpipkcfbmdeaaDoor
namespace Go.Proofs.YtfjpipkcfbmdeaaDoor
open Go Go.RowKit
/-- A variable that the region makes: the operation that makes it, its slot, its type, its zero value, the operation that gives it its value. -/
structure VarN where
  a : Nat
  t : Nat
  T : TypeId
  zs : List Value
  s : Nat
  ys : List Value
inductive FromV (ops : Array Oper) (vals : List (Option Value)) (E0 : Env) (o : Oper) : Env → Prop
  | nil : FromV ops vals E0 o []
  | all : FromV ops vals E0 o E0
  | op {t : Nat} {v : Value} {E : Env} (j : Nat) (he : (o.after.any fun e => Region.binds .any e && e.on == j) = true) (hd : (ops[j]?).bind (·.dst) = some t) (hv : vals[j]? = some (some v)) (hr : FromV ops vals E0 o E) : FromV ops vals E0 o ((t, .v v) :: E)
inductive FromW (ops : Array Oper) (vals : List (Option Value)) (E0 : Env) : Env → Prop
  | all : FromW ops vals E0 E0
  | op {t : Nat} {v : Value} {E : Env} (j : Nat) (hd : (ops[j]?).bind (·.dst) = some t) (hv : vals[j]? = some (some v)) (hr : FromW ops vals E0 E) : FromW ops vals E0 ((t, .v v) :: E)
inductive KopOk (P : Program) (ops : Array Oper) (vals : List (Option Value)) (vs : List VarN) (E0 : Env) (i : Nat) : Oper → Prop
  | pure {o : Oper} {t : Nat} {v : Value} (E : Env) (hv : vals[i]? = some (some v)) (hd : o.dst = some t) (h0 : E0.look t = none ∨ E0.look t = some (.v v)) (hf : FromV ops vals E0 o E) (hok : ∀ B', OpOk P B' o E (.v v)) : KopOk P ops vals vs E0 i o
  | alloc {t : Tmp} {T ty : TypeId} {pos : String} {after : Array Edge} {V : VarN} (j : Nat) (hV : vs[j]? = some V) (ha : V.a = i) (hT : V.T = T) (ht : V.t = t) (hz : ZeroIs P T V.zs) (h0 : E0.look t = none) : KopOk P ops vals vs E0 i ⟨some t, .alloc T, ty, pos, after, none⟩
  | store {t T ty : TypeId} {x : Operand} {pos : String} {after : Array Edge} {V : VarN} (j : Nat) (E : Env) (hV : vs[j]? = some V) (hs : V.s = i) (hT : V.T = T) (ht : V.t = t) (he : (after.any fun e => Region.binds .any e && e.on == V.a) = true) (hf : FromV ops vals E0 ⟨none, .store T (.tmp t) x, ty, pos, after, none⟩ E) (hx : E.at x = some (.v (aggV V.ys)))
      (hsz : SizeIs P T V.ys.length) (hl : V.zs.length = V.ys.length) (h1 : V.ys.all (·.oneCell') = true) : KopOk P ops vals vs E0 i ⟨none, .store T (.tmp t) x, ty, pos, after, none⟩
inductive Kops (P : Program) (ops : Array Oper) (vals : List (Option Value)) (vs : List VarN) (E0 : Env) : Nat → List Oper → Prop
  | nil {i : Nat} : Kops P ops vals vs E0 i []
  | cons {i : Nat} {o : Oper} {rest : List Oper} (h : KopOk P ops vals vs E0 i o) (hr : Kops P ops vals vs E0 (i + 1) rest) : Kops P ops vals vs E0 i (o :: rest)
def varsOk (ops : Array Oper) (vals : List (Option Value)) (vs : List VarN) : Bool := (List.range vs.length).all fun j => match vs[j]? with
  | none => false
  | some V => ((ops[V.a]?).bind (·.dst) == some V.t) && (match vals[V.a]? with | some none => true | _ => false) && (match vals[V.s]? with | some none => true | _ => false) && decide (V.a < ops.size) && decide (V.s < ops.size) && V.a != V.s && (List.range vs.length).all fun j' => match vs[j']? with
    | none => false
    | some V' => j == j' || (V.a != V'.a && V.s != V'.s && V.a != V'.s && V.s != V'.a)
section
variable {P : Program} {n B : Nat} {ops : Array Oper} {κ : Cx} {Q : Exit → Act → World → Prop} {vals : List (Option Value)} {vs : List VarN} {E0 : Env}
theorem Kops.nth {k : Nat} {l : List Oper} (h : Kops P ops vals vs E0 k l) : ∀ {i : Nat} {o : Oper}, l[i]? = some o → KopOk P ops vals vs E0 (k + i) o := by
  induction h with
  | nil => intro i o hi; simp at hi
  | @cons k o0 rest h _ ih =>
    intro i o hi
    cases i with
    | zero => simp at hi; subst hi; exact h
    | succ i =>
      have := ih (i := i) (by simpa using hi)
      rwa [show k + (i + 1) = k + 1 + i from by omega]
theorem varsOk_get (h : varsOk ops vals vs = true) {j : Nat} {V : VarN} (hj : vs[j]? = some V) : (ops[V.a]?).bind (·.dst) = some V.t ∧ vals[V.a]? = some none ∧ vals[V.s]? = some none ∧ V.a < ops.size ∧ V.s < ops.size ∧ V.a ≠ V.s ∧ ∀ j' V', vs[j']? = some V' → j ≠ j' → V.a ≠ V'.a ∧ V.s ≠ V'.s ∧ V.a ≠ V'.s ∧ V.s ≠ V'.a := by
  have hlt : j < vs.length := (List.getElem?_eq_some_iff.1 hj).1
  have h1 := List.all_eq_true.1 h j (List.mem_range.2 hlt)
  simp only [hj, Bool.and_eq_true] at h1
  obtain ⟨⟨⟨⟨⟨⟨h2, h3⟩, h4⟩, h5⟩, h6⟩, h7⟩, h8⟩ := h1
  refine ⟨by simpa using h2, ?_, ?_, by simpa using h5, by simpa using h6, by simpa using h7, fun j' V' hj' hne => ?_⟩
  · cases hx : vals[V.a]? with
    | none => rw [hx] at h3; cases h3
    | some x => rw [hx] at h3; cases x with
      | none => rfl
      | some _ => cases h3
  · cases hx : vals[V.s]? with
    | none => rw [hx] at h4; cases h4
    | some x => rw [hx] at h4; cases x with
      | none => rfl
      | some _ => cases h4
  · have h9 := List.all_eq_true.1 h8 j' (List.mem_range.2 (List.getElem?_eq_some_iff.1 hj').1)
    simp only [hj', Bool.or_eq_true, beq_iff_eq, Bool.and_eq_true, bne_iff_ne, ne_eq] at h9
    rcases h9 with h9 | h9
    · exact absurd h9 hne
    · exact ⟨h9.1.1.1, h9.1.1.2, h9.1.2, h9.2⟩
structure InvV (κ : Cx) (n B : Nat) (ops : Array Oper) (vals : List (Option Value)) (vs : List VarN) (E0 : Env) (w1 : World) (listed : Array Bool) (a : Act) (w : World) : Prop where
  base : B ≤ w1.heap.size
  bel : Below w1.heap.size w1 w
  defers : a.defers = κ.df
  size : a.tmps.size = n
  facts : ∀ t d, E0.look t = some d → d.OfB w1.heap.size w (a.tmps.getD t undef)
  lsize : listed.size = ops.size
  got : ∀ (i : Nat) (o : Oper) (t : Nat) (v : Value), ops[i]? = some o → listed.getD i false = true → o.dst = some t → vals[i]? = some (some v) → a.tmps.getD t undef = v
  cl : ∀ (j : Nat) (V : VarN), vs[j]? = some V → listed.getD V.s false = true → listed.getD V.a false = true
  var : ∃ bs : Nat → Nat, (∀ (j : Nat) (V : VarN), vs[j]? = some V → listed.getD V.a false = true → w1.heap.size ≤ bs j ∧ bs j < w.heap.size ∧ a.tmps.getD V.t undef = .pointer (some ⟨bs j, 0, none⟩) ∧ w.heap[bs j]? = some (.cells (if listed.getD V.s false = true then V.ys else V.zs).toArray V.T (0, 0))) ∧
    ∀ (j j' : Nat) (V V' : VarN), vs[j]? = some V → vs[j']? = some V' → listed.getD V.a false = true → listed.getD V'.a false = true → j ≠ j' → bs j ≠ bs j'
theorem InvV.st {w1 : World} {listed : Array Bool} {a : Act} {w : World} (I : InvV κ n B ops vals vs E0 w1 listed a w) : St κ n B E0 a w :=
  ⟨Nat.le_trans I.base I.bel.size, I.defers, I.size, fun t d hl => D.OfB.up (I.facts t d hl) I.bel.size⟩
theorem setD_self {listed : Array Bool} {i : Nat} (h : i < listed.size) : (listed.setIfInBounds i true).getD i false = true := by simp [h]
theorem wp_vars (hn0 : n ≤ vbase) (hfit : fits n ops = true) (hd : downsN ops = true) (hv : varsOk ops vals vs = true) (hn : Kops P ops vals vs E0 0 ops.toList) {w1 : World}
    (hQ : ∀ l a' w', InvV κ n B ops vals vs E0 w1 l a' w' → (∀ i, i < ops.size → l.getD i false = true) → Q .normal a' w') :
    ∀ (fuel : Nat) (listed : Array Bool) (a : Act) (w : World), unlisted ops listed ≤ fuel → InvV κ n B ops vals vs E0 w1 listed a w → wpAnyIn (FR κ.rd) 0 P .any ops Q fuel listed a w := by
  have hmin : ∀ (listed : Array Bool), listed.size = ops.size → Region.ready .any ops listed = [] → ∀ i, i < ops.size → listed.getD i false = true := by
    intro listed hl hr i
    induction i using Nat.strongRecOn with
    | _ i ih =>
      intro hi
      rcases hb : listed.getD i false with _ | _
      · exfalso
        have hdi := (downs_get hd (Array.getElem?_eq_getElem hi)).2.1
        have : i ∈ Region.ready .any ops listed := by
          rw [mem_ready]
          refine ⟨?_, ops[i], Array.getElem?_eq_getElem hi, fun e he hbd => ih e.on (hdi e he hbd) (Nat.lt_trans (hdi e he hbd) hi)⟩
          have : i < listed.size := by rw [hl]; exact hi
          simp [this] at hb ⊢
          exact hb
        rw [hr] at this
        cases this
      · rfl
  intro fuel
  induction fuel with
  | zero =>
    intro listed a w hc I
    have hr : Region.ready .any ops listed = [] := by
      rcases hr : Region.ready .any ops listed with _ | ⟨i, l⟩
      · rfl
      · exfalso
        have hi : i ∈ Region.ready .any ops listed := by rw [hr]; exact List.mem_cons_self
        obtain ⟨hu, o, ho, _⟩ := mem_ready.1 hi
        have hpos : 0 < unlisted ops listed := List.countP_pos_iff.2 ⟨i, List.mem_range.2 (Array.getElem?_eq_some_iff.1 ho).1, by simp only [hu]; rfl⟩
        omega
    exact ⟨hr, hQ listed a w I (hmin listed I.lsize hr)⟩
  | succ fuel ih =>
    intro listed a w hc I
    refine ⟨fun hr => hQ listed a w I (hmin listed I.lsize hr), fun i hi => ?_⟩
    obtain ⟨hu, o, ho, hall⟩ := mem_ready.1 hi
    have hlt : i < ops.size := (Array.getElem?_eq_some_iff.1 ho).1
    have hli : i < listed.size := by rw [I.lsize]; exact hlt
    have huf : listed.getD i false = false := by
      have h1 : listed.getD i true = false := hu
      simp [hli] at h1 ⊢
      exact h1
    have hk := hn.nth (i := i) (o := o) (by simpa using ho)
    rw [Nat.zero_add] at hk
    obtain ⟨hg, _, hdis⟩ := downs_get hd ho
    have hst : ∀ {E : Env}, FromV ops vals E0 o E → ∀ t d, E.look t = some d → d.OfB w1.heap.size w (a.tmps.getD t undef) := fun {E} h => by
      induction h with
      | nil => intro t d hl; cases hl
      | all => exact I.facts
      | @op s v E j he hdj hvj _ ih =>
        intro t d hl
        by_cases hts : s = t
        · subst hts; rw [look_here] at hl; injection hl with hl; subst hl
          obtain ⟨e, he1, he2⟩ := Array.any_eq_true'.1 he
          simp only [Bool.and_eq_true, beq_iff_eq] at he2
          have hl := hall e he1 he2.1
          rw [he2.2] at hl
          cases hq : ops[j]? with
          | none => rw [hq] at hdj; cases hdj
          | some q =>
            rw [hq] at hdj
            exact I.got j q _ _ hq hl hdj hvj
        · rw [look_past _ _ hts] at hl; exact ih t d hl
    have hE : ∀ {E : Env}, FromV ops vals E0 o E → St κ n B E a w := fun h => ⟨Nat.le_trans I.base I.bel.size, I.defers, I.size, fun t d hl => D.OfB.up (hst h t d hl) I.bel.size⟩
    refine wpOpR_step ho fun K hK => ?_
    rw [if_pos (by simp [Region.wanted, hg])]
    have hcl : unlisted ops (listed.setIfInBounds i true) ≤ fuel := by
      have : unlisted ops (listed.setIfInBounds i true) < unlisted ops listed := by
        refine countP_lt (x := i) (fun y hy => ?_) (List.mem_range.2 hlt) (by simp only [hu]; rfl) ?_
        · by_cases hyi : i = y
          · subst hyi
            simp [hli] at hy
          · rw [getD_set_ne true hyi] at hy; exact hy
        · simp [hli]
      omega
    have hset : ∀ j, (listed.setIfInBounds i true).getD j false = true → j = i ∨ listed.getD j false = true := fun j hj => by
      by_cases hji : i = j
      · exact .inl hji.symm
      · rw [getD_set_ne false hji] at hj; exact .inr hj
    have hfar : ∀ j, j ≠ i → (listed.setIfInBounds i true).getD j false = listed.getD j false := fun j hj => getD_set_ne false (fun h => hj h.symm)
    obtain ⟨bs, hb1, hb2⟩ := I.var
    cases hk with
    | @pure _ t v E hvi hdt h0 hf hok =>
      have htn : t < n := (fits_mem hfit (o := o) (by simpa using Array.mem_of_getElem? ho)).2 t hdt
      have hnot : ∀ (j : Nat) (V : VarN), vs[j]? = some V → V.a ≠ i ∧ V.s ≠ i ∧ V.t ≠ t := fun j V hj => by
        obtain ⟨h1, h2, h3, _⟩ := varsOk_get hv hj
        have hai : V.a ≠ i := fun e => by rw [e, hvi] at h2; cases h2
        refine ⟨hai, fun e => (by rw [e, hvi] at h3; cases h3), fun e => ?_⟩
        cases hq : ops[V.a]? with
        | none => rw [hq] at h1; cases h1
        | some q =>
          rw [hq] at h1
          exact hdis V.a q hq hai (by rw [hdt]; simp) (by rw [hdt, show q.dst = some V.t from h1, e])
      have hs := hE hf
      refine wp_of_out hdt ((hok w.heap.size a.eval w (Nat.le_refl _) (hs.virt hn0) fun x _ u hu => hs.at_ x _ hu).mono ?_)
      rintro x w' ⟨hgr, hx⟩
      have hx : x = v := hx
      subst hx
      refine hK _ _ (ih _ _ _ hcl ⟨I.base, I.bel.trans (Below.mono hgr I.bel.size), I.defers, by simp [Act.put, I.size], fun s d hs' => ?_, by simp [I.lsize], fun j q s u hj hl hds hvs => ?_, fun j V hj hl => ?_, bs, fun j V hj hl => ?_, fun j j' V V' hj hj' hl hl' => ?_⟩)
      · by_cases hts : t = s
        · subst hts
          rw [getD_put_here _ _ (by rw [I.size]; exact htn)]
          rcases h0 with h | h
          · rw [h] at hs'; cases hs'
          · rw [h] at hs'; injection hs' with hs'; subst hs'; rfl
        · rw [getD_put_past _ _ hts]; exact (I.facts s d hs').keep (Below.mono hgr I.bel.size)
      · rcases hset j hl with rfl | hl
        · rw [ho] at hj; injection hj with hj; subst hj
          rw [hdt] at hds; injection hds with hds; subst hds
          rw [hvi] at hvs; injection hvs with hvs; injection hvs with hvs; subst hvs
          rw [getD_put_here _ _ (by rw [I.size]; exact htn)]
        · by_cases hji : j = i
          · subst hji
            rw [ho] at hj; injection hj with hj; subst hj
            rw [hdt] at hds; injection hds with hds; subst hds
            rw [hvi] at hvs; injection hvs with hvs; injection hvs with hvs; subst hvs
            rw [getD_put_here _ _ (by rw [I.size]; exact htn)]
          · have hne : t ≠ s := fun he => hdis j q hj hji (by rw [hdt]; simp) (by rw [hdt, hds, he])
            rw [getD_put_past _ _ hne]
            exact I.got j q s u hj hl hds hvs
      · obtain ⟨h1, h2, _⟩ := hnot j V hj
        rw [hfar _ h2] at hl
        rw [hfar _ h1]; exact I.cl j V hj hl
      · obtain ⟨h1, h2, h3⟩ := hnot j V hj
        rw [hfar _ h1] at hl
        obtain ⟨g1, g2, g3, g4⟩ := hb1 j V hj hl
        rw [hfar _ h2]
        exact ⟨g1, Nat.lt_of_lt_of_le g2 hgr.size, by rw [getD_put_past _ _ (fun e => h3 e.symm)]; exact g3, by rw [hgr.block _ g2]; exact g4⟩
      · rw [hfar _ (hnot j V hj).1] at hl
        rw [hfar _ (hnot j' V' hj').1] at hl'
        exact hb2 j j' V V' hj hj' hl hl'
    | @alloc t T ty pos after V j0 hV ha hT ht hz h0 =>
      subst ha hT ht
      have hds := (varsOk_get hv hV).2.2.2.2.2.2
      have hns : V.s ≠ V.a := fun e => (varsOk_get hv hV).2.2.2.2.2.1 e.symm
      have htn : V.t < n := (fits_mem hfit (o := ⟨some V.t, .alloc V.T, ty, pos, after, none⟩) (by simpa using Array.mem_of_getElem? ho)).2 V.t rfl
      have hrun : (execOp a.eval ⟨some V.t, .alloc V.T, ty, pos, after, none⟩).run P w = .ok (.value (.pointer (some ⟨w.heap.size, 0, none⟩))) (w.alloc (.cells V.zs.toArray V.T)) := by
        obtain ⟨i, z, hi, hz, hc⟩ := hz.get
        simp [execOp, Instr.alloc, zeroValue, typeInfo, hi, hz, newVar, newRow, hc]
      refine opR (not_defer hrun) ?_
      unfold Oper.wp
      rw [hrun, Oper.upon_value]
      have hgr : Grow w (w.alloc (.cells V.zs.toArray V.T)) := Grow.alloc w _
      have hlt1 : w.heap.size < (w.alloc (.cells V.zs.toArray V.T)).heap.size := by simp
      have hother : ∀ (j : Nat) (V' : VarN), vs[j]? = some V' → j ≠ j0 → V'.a ≠ V.a ∧ V'.s ≠ V.a ∧ V'.t ≠ V.t := fun j V' hj hne => by
        obtain ⟨h1, h2, h3, h4⟩ := hds j V' hj (fun e => hne e.symm)
        refine ⟨fun e => h1 e.symm, fun e => h3 e.symm, fun e => ?_⟩
        obtain ⟨g1, _⟩ := varsOk_get hv hj
        cases hq : ops[V'.a]? with
        | none => rw [hq] at g1; cases g1
        | some q =>
          rw [hq] at g1
          exact hdis V'.a q hq (fun e => h1 e.symm) (by simp) (by rw [show q.dst = some V'.t from g1, e])
      have hsu : listed.getD V.s false = false := by
        rcases hb : listed.getD V.s false with _ | _
        · rfl
        · rw [I.cl j0 V hV hb] at huf; cases huf
      refine hK _ _ (ih _ _ _ hcl ⟨I.base, I.bel.trans (Below.mono hgr I.bel.size), I.defers, by simp [Act.put, I.size], fun s d hs' => ?_, by simp [I.lsize], fun j q s u hj hl hds hvs => ?_, fun j V' hj hl => ?_, fun j => if j = j0 then w.heap.size else bs j, fun j V' hj hl => ?_, fun j j' V' V'' hj hj' hl hl' hne => ?_⟩)
      · have hts : V.t ≠ s := fun e => by subst e; rw [h0] at hs'; cases hs'
        rw [getD_put_past _ _ hts]; exact (I.facts s d hs').keep (Below.mono hgr I.bel.size)
      · have hji : j ≠ V.a := fun e => by
          subst e
          rw [(varsOk_get hv hV).2.1] at hvs; cases hvs
        rw [hfar _ hji] at hl
        have hne : V.t ≠ s := fun he => hdis j q hj hji (by simp) (by rw [hds, he])
        rw [getD_put_past _ _ hne]
        exact I.got j q s u hj hl hds hvs
      · by_cases hj0 : j = j0
        · subst hj0; rw [hV] at hj; injection hj with hj; subst hj
          exact setD_self hli
        · obtain ⟨h1, h2, _⟩ := hother j V' hj hj0
          rw [hfar _ h2] at hl
          rw [hfar _ h1]; exact I.cl j V' hj hl
      · by_cases hj0 : j = j0
        · subst hj0; rw [hV] at hj; injection hj with hj; subst hj
          dsimp only
          rw [if_pos rfl, hfar _ hns, hsu]
          exact ⟨I.bel.size, hlt1, by rw [getD_put_here _ _ (by rw [I.size]; exact htn)], by simpa using heap_alloc_new w _⟩
        · obtain ⟨h1, h2, h3⟩ := hother j V' hj hj0
          rw [hfar _ h1] at hl
          obtain ⟨g1, g2, g3, g4⟩ := hb1 j V' hj hl
          dsimp only
          rw [if_neg hj0, hfar _ h2]
          exact ⟨g1, Nat.lt_of_lt_of_le g2 hgr.size, by rw [getD_put_past _ _ (fun e => h3 e.symm)]; exact g3, by rw [hgr.block _ g2]; exact g4⟩
      · show (if j = j0 then w.heap.size else bs j) ≠ if j' = j0 then w.heap.size else bs j'
        by_cases hj0 : j = j0
        · rw [if_pos hj0, if_neg (fun e => hne (by rw [hj0, e]))]
          rw [hfar _ (hother j' V'' hj' (fun e => hne (by rw [hj0, e]))).1] at hl'
          have := (hb1 j' V'' hj' hl').2.1
          omega
        · rw [if_neg hj0]
          rw [hfar _ (hother j V' hj hj0).1] at hl
          by_cases hj0' : j' = j0
          · rw [if_pos hj0']
            have := (hb1 j V' hj hl).2.1
            omega
          · rw [if_neg hj0']
            rw [hfar _ (hother j' V'' hj' hj0').1] at hl'
            exact hb2 j j' V' V'' hj hj' hl hl' hne
    | @store t T ty x pos after V j0 E hV hs hT ht he hf hx hsz hl0 h1 =>
      subst hs hT ht
      have hds := (varsOk_get hv hV).2.2.2.2.2.2
      have hna : V.a ≠ V.s := (varsOk_get hv hV).2.2.2.2.2.1
      have hla : listed.getD V.a false = true := by
        obtain ⟨e, he1, he2⟩ := Array.any_eq_true'.1 he
        simp only [Bool.and_eq_true, beq_iff_eq] at he2
        have hl := hall e he1 he2.1
        rwa [he2.2] at hl
      obtain ⟨g1, g2, g3, g4⟩ := hb1 j0 V hV hla
      rw [huf] at g4
      simp only [Bool.false_eq_true, if_false] at g4
      have hp' : a.eval (.tmp V.t) = .pointer (some ⟨bs j0, 0, none⟩) := g3
      have hx' : a.eval x = aggV V.ys := (hE hf).at_ x _ hx
      have hrun : (execOp a.eval ⟨none, .store V.T (.tmp V.t) x, ty, pos, after, none⟩).run P w = .ok .skip (w.setRow (bs j0) V.ys.toArray) := by
        have := run_storeVar_row (P := P) w (bs j0) V.T V.T V.zs.toArray V.ys.toArray g4 (by simpa [SizeIs] using hsz) (by simpa using hl0) (by simpa using h1)
        simp [execOp, hp', hx', Instr.storeAt, Instr.sureAddr, aggV, this]
      refine opR (by nofun) ?_
      unfold Oper.wp
      rw [hrun, Oper.upon_skip]
      have hput : a.put (none : Option Tmp) undef = a := rfl
      try rw [hput]
      have hwr := Wrote.setRow (B := w1.heap.size) g1 g4 V.ys.toArray
      have hbw : Below w1.heap.size w (w.setRow (bs j0) V.ys.toArray) := hwr.below I.bel.size
      have hsame : ∀ k, k ≠ bs j0 → (w.setRow (bs j0) V.ys.toArray).heap[k]? = w.heap[k]? := fun k hk => setRow_other w (bs j0) k V.ys.toArray hk
      have hhere : (w.setRow (bs j0) V.ys.toArray).heap[bs j0]? = some (.cells V.ys.toArray V.T (0, 0)) := by simp [World.setRow, Array.getElem?_modify, g4]
      have hsz' : (w.setRow (bs j0) V.ys.toArray).heap.size = w.heap.size := by simp [World.setRow]
      have hother : ∀ (j : Nat) (V' : VarN), vs[j]? = some V' → j ≠ j0 → V'.a ≠ V.s ∧ V'.s ≠ V.s := fun j V' hj hne => by
        obtain ⟨h1, h2, h3, h4⟩ := hds j V' hj (fun e => hne e.symm)
        exact ⟨fun e => h4 e.symm, fun e => h2 e.symm⟩
      refine hK _ _ (ih _ _ _ hcl ⟨I.base, I.bel.trans hbw, I.defers, I.size, fun s d hs' => (I.facts s d hs').keep hbw, by simp [I.lsize], fun j q s u hj hl hds hvs => ?_, fun j V' hj hl => ?_, bs, fun j V' hj hl => ?_, fun j j' V' V'' hj hj' hl hl' hne => ?_⟩)
      · have hji : j ≠ V.s := fun e => by
          subst e
          rw [(varsOk_get hv hV).2.2.1] at hvs; cases hvs
        rw [hfar _ hji] at hl
        exact I.got j q s u hj hl hds hvs
      · by_cases hj0 : j = j0
        · subst hj0; rw [hV] at hj; injection hj with hj; subst hj
          rw [hfar _ hna]; exact hla
        · obtain ⟨h1, h2⟩ := hother j V' hj hj0
          rw [hfar _ h2] at hl
          rw [hfar _ h1]; exact I.cl j V' hj hl
      · by_cases hj0 : j = j0
        · subst hj0; rw [hV] at hj; injection hj with hj; subst hj
          rw [setD_self hli, if_pos rfl]
          exact ⟨g1, by rw [hsz']; exact g2, g3, hhere⟩
        · obtain ⟨h1, h2⟩ := hother j V' hj hj0
          rw [hfar _ h1] at hl
          obtain ⟨k1, k2, k3, k4⟩ := hb1 j V' hj hl
          rw [hfar _ h2]
          exact ⟨k1, by rw [hsz']; exact k2, k3, by rw [hsame _ (hb2 j j0 V' V hj hV hl hla hj0)]; exact k4⟩
      · have e1 : ∀ {j : Nat} {V' : VarN}, vs[j]? = some V' → (listed.setIfInBounds V.s true).getD V'.a false = true → listed.getD V'.a false = true := fun {j V'} hj hl => by
          by_cases hj0 : j = j0
          · subst hj0; rw [hV] at hj; injection hj with hj; subst hj; exact hla
          · rwa [hfar _ (hother j V' hj hj0).1] at hl
        exact hb2 j j' V' V'' hj hj' (e1 hj hl) (e1 hj' hl') hne
/-- The environment that the new variables give. -/
def varEnv (bs : Nat → Nat) : Nat → List VarN → Env → Env
  | _, [], E => E
  | j, V :: r, E => (V.t, .v (.pointer (some ⟨bs j, 0, none⟩))) :: (1000000 + V.t, blk (bs j) V.T V.ys) :: varEnv bs (j + 1) r E
theorem varEnv_look {bs : Nat → Nat} {E : Env} {t : Nat} {d : D} : ∀ {l : List VarN} {j : Nat}, (varEnv bs j l E).look t = some d → (∃ k V, l[k]? = some V ∧ ((t = V.t ∧ d = .v (.pointer (some ⟨bs (j + k), 0, none⟩))) ∨ (t = 1000000 + V.t ∧ d = blk (bs (j + k)) V.T V.ys))) ∨ E.look t = some d
  | [], _, h => .inr h
  | V :: r, j, h => by
    unfold varEnv at h
    by_cases h1 : V.t = t
    · subst h1; rw [look_here] at h; injection h with h
      exact .inl ⟨0, V, rfl, .inl ⟨rfl, h.symm⟩⟩
    · rw [look_past _ _ h1] at h
      by_cases h2 : 1000000 + V.t = t
      · subst h2; rw [look_here] at h; injection h with h
        exact .inl ⟨0, V, rfl, .inr ⟨rfl, h.symm⟩⟩
      · rw [look_past _ _ h2] at h
        rcases varEnv_look h with ⟨k, V', h3, h4⟩ | h3
        · exact .inl ⟨k + 1, V', by simpa using h3, by rw [show j + (k + 1) = j + 1 + k from by omega]; exact h4⟩
        · exact .inr h3
theorem A.regsV {w₀ : World} {y : Code} {E1 : Env} {id : Nat} (vals : List (Option Value)) (vs : List VarN) (hm : P.follows .mixedOrders = true) (hfit : fits n ops = true) (hd : downsN ops = true) (hv : varsOk ops vals vs = true) (hn : Kops P ops vals vs E0 0 ops.toList) (hf : FromW ops vals E0 E1)
    (h : ∀ bs : Nat → Nat, (∀ j, j < vs.length → NewB w₀.heap.size E0 (bs j)) → (∀ j j', j < vs.length → j' < vs.length → j ≠ j' → bs j ≠ bs j') → A κ P w₀ n y (varEnv bs 0 vs E1) Q) : A κ P w₀ n (.seq (.region id ops true) y) E0 Q := A.seq fun a w hg hst => by
  have hdr : Below w₀.heap.size w w.drew := (Below.refl _ w).drew
  have hn0 := fits_base hfit
  have hst' := hst.grow (Grow.refl w).drew
  have hfin : ∀ l a' w', InvV κ n w₀.heap.size ops vals vs E0 w.drew l a' w' → (∀ i, i < ops.size → l.getD i false = true) → Exit.then (y.wpIn (FR κ.rd) 0 P Q) Q .normal a' w' := fun l a' w' I hall => by
    have key : ∀ t d, E1.look t = some d → d.Of w' (a'.tmps.getD t undef) := by
      clear h
      induction hf with
      | all => exact I.st.of
      | @op s v E j hdj hvj _ ih =>
        intro t d hl
        by_cases hts : s = t
        · subst hts; rw [look_here] at hl; injection hl with hl; subst hl
          cases hq : ops[j]? with
          | none => rw [hq] at hdj; cases hdj
          | some q =>
            rw [hq] at hdj
            exact I.got j q _ _ hq (hall j (Array.getElem?_eq_some_iff.1 hq).1) hdj hvj
        · rw [look_past _ _ hts] at hl; exact ih t d hl
    obtain ⟨bs, hb1, hb2⟩ := I.var
    have hla : ∀ (j : Nat) (V : VarN), vs[j]? = some V → l.getD V.a false = true := fun j V hj => hall _ (varsOk_get hv hj).2.2.2.1
    have hls : ∀ (j : Nat) (V : VarN), vs[j]? = some V → l.getD V.s false = true := fun j V hj => hall _ (varsOk_get hv hj).2.2.2.2.1
    refine h bs (fun j hj => ?_) (fun j j' hj hj' hne => hb2 j j' _ _ (List.getElem?_eq_getElem hj) (List.getElem?_eq_getElem hj') (hla _ _ (List.getElem?_eq_getElem hj)) (hla _ _ (List.getElem?_eq_getElem hj')) hne) a' w' (hg.trans (hdr.trans (Below.mono I.bel I.base))) ⟨Nat.le_trans I.base I.bel.size, I.defers, I.size, fun t d hl => ?_⟩
    · have hk := (hb1 j _ (List.getElem?_eq_getElem hj) (hla _ _ (List.getElem?_eq_getElem hj))).1
      exact ⟨Nat.le_trans I.base hk, fun s b' e xs hs => Nat.lt_of_lt_of_le (hst'.of s _ hs).1 hk⟩
    · rcases varEnv_look hl with ⟨k, V, hk, hd'⟩ | hl
      · rw [Nat.zero_add] at hd'
        obtain ⟨g1, g2, g3, g4⟩ := hb1 k V hk (hla k V hk)
        rw [hls k V hk, if_pos rfl] at g4
        rcases hd' with ⟨rfl, rfl⟩ | ⟨rfl, rfl⟩
        · exact g3
        · exact ⟨g2, g4⟩
      · exact key t d hl
  refine wpIn_region_any hm (wp_vars hn0 hfit hd hv hn hfin _ _ _ _ ?_ ⟨hst'.base, Below.refl _ _, hst'.defers, hst'.size, fun t d hl => hst'.of t d hl, by simp, fun i o t v hi hl => ?_, fun j V hj hl => ?_, fun _ => 0, fun j V hj hl => ?_, fun j j' V V' hj _ hl => ?_⟩)
  · refine Nat.le_trans List.countP_le_length ?_
    simp
  · simp [(Array.getElem?_eq_some_iff.1 hi).1] at hl
  · simp [(varsOk_get hv hj).2.2.2.2.1] at hl
  · simp [(varsOk_get hv hj).2.2.2.1] at hl
  · simp [(varsOk_get hv hj).2.2.2.1] at hl
/-! ### The same, operation by operation -/
theorem FromV.more {vals : List (Option Value)} {o : Oper} {E : Env} {pre : List (Option Value)} (hp : ∀ (j : Nat) (v : Option Value), pre[j]? = some v → vals[j]? = some v) (h : FromV ops pre E0 o E) : FromV ops vals E0 o E := by
  induction h with
  | nil => exact .nil
  | all => exact .all
  | op j he hd hv _ ih => exact .op j he hd (hp _ _ hv) ih
/-- From here on; pre is what the operations before have yielded. -/
def KopsK (P : Program) (ops : Array Oper) (vs : List VarN) (E0 : Env) (rest : List Oper) (pre : List (Option Value)) (C : List (Option Value) → Prop) : Prop :=
  ∃ vals : List (Option Value), (∀ (j : Nat) (v : Option Value), pre[j]? = some v → vals[j]? = some v) ∧ Kops P ops vals vs E0 pre.length rest ∧ C vals
theorem pre_snoc {α : Type} {pre vals : List α} {v : α} (h : ∀ (j : Nat) (u : α), (pre ++ [v])[j]? = some u → vals[j]? = some u) : (∀ (j : Nat) (u : α), pre[j]? = some u → vals[j]? = some u) ∧ vals[pre.length]? = some v :=
  ⟨fun j u hu => h j u (by rw [List.getElem?_append_left (List.getElem?_eq_some_iff.1 hu).1]; exact hu), h _ _ (by simp)⟩
theorem KopsK.nil {pre : List (Option Value)} {C : List (Option Value) → Prop} (h : C pre) : KopsK P ops vs E0 [] pre C := ⟨pre, fun _ _ h => h, .nil, h⟩
theorem KopsK.pure {o : Oper} {rest : List Oper} {pre : List (Option Value)} {C : List (Option Value) → Prop} {t : Nat} {v : Value} (E : Env) (hd : o.dst = some t) (h0 : E0.look t = none ∨ E0.look t = some (.v v)) (hf : FromV ops pre E0 o E) (hok : ∀ B', OpOk P B' o E (.v v))
    (hr : KopsK P ops vs E0 rest (pre ++ [some v]) C) : KopsK P ops vs E0 (o :: rest) pre C := by
  obtain ⟨vals, h1, h2, h3⟩ := hr
  obtain ⟨h4, h5⟩ := pre_snoc h1
  exact ⟨vals, h4, .cons (.pure E h5 hd h0 (hf.more h4) hok) (by simpa using h2), h3⟩
theorem KopsK.alloc {rest : List Oper} {pre : List (Option Value)} {C : List (Option Value) → Prop} {t : Tmp} {T ty : TypeId} {pos : String} {after : Array Edge} {V : VarN} (j : Nat) (hV : vs[j]? = some V) (ha : V.a = pre.length) (hT : V.T = T) (ht : V.t = t) (hz : ZeroIs P T V.zs) (h0 : E0.look t = none)
    (hr : KopsK P ops vs E0 rest (pre ++ [none]) C) : KopsK P ops vs E0 (⟨some t, .alloc T, ty, pos, after, none⟩ :: rest) pre C := by
  obtain ⟨vals, h1, h2, h3⟩ := hr
  obtain ⟨h4, _⟩ := pre_snoc h1
  exact ⟨vals, h4, .cons (.alloc j hV ha hT ht hz h0) (by simpa using h2), h3⟩
theorem KopsK.store {rest : List Oper} {pre : List (Option Value)} {C : List (Option Value) → Prop} {t T ty : TypeId} {x : Operand} {pos : String} {after : Array Edge} {V : VarN} (j : Nat) (E : Env) (hV : vs[j]? = some V) (hs : V.s = pre.length) (hT : V.T = T) (ht : V.t = t) (he : (after.any fun e => Region.binds .any e && e.on == V.a) = true)
    (hf : FromV ops pre E0 ⟨none, .store T (.tmp t) x, ty, pos, after, none⟩ E) (hx : E.at x = some (.v (aggV V.ys))) (hsz : SizeIs P T V.ys.length) (hl : V.zs.length = V.ys.length) (h1 : V.ys.all (·.oneCell') = true)
    (hr : KopsK P ops vs E0 rest (pre ++ [none]) C) : KopsK P ops vs E0 (⟨none, .store T (.tmp t) x, ty, pos, after, none⟩ :: rest) pre C := by
  obtain ⟨vals, g1, g2, g3⟩ := hr
  obtain ⟨g4, _⟩ := pre_snoc g1
  exact ⟨vals, g4, .cons (.store j E hV hs hT ht he (hf.more g4) hx hsz hl h1) (by simpa using g2), g3⟩
theorem A.regsK {w₀ : World} {y : Code} {id : Nat} (vs : List VarN) (hm : P.follows .mixedOrders = true) (hfit : fits n ops = true) (hd : downsN ops = true)
    (h : KopsK P ops vs E0 ops.toList [] fun vals => varsOk ops vals vs = true ∧ ∃ E1, FromW ops vals E0 E1 ∧ ∀ bs : Nat → Nat, (∀ j, j < vs.length → NewB w₀.heap.size E0 (bs j)) → (∀ j j', j < vs.length → j' < vs.length → j ≠ j' → bs j ≠ bs j') → A κ P w₀ n y (varEnv bs 0 vs E1) Q) : A κ P w₀ n (.seq (.region id ops true) y) E0 Q := by
  obtain ⟨vals, _, h2, h3, E1, h4, h5⟩ := h
  exact A.regsV vals vs hm hfit hd h3 h2 h4 h5
end
end Go.Proofs.YtfjpipkcfbmdeaaDoor
namespace Go.Proofs.YtfjpipkcfbmdeaaDoor
open Go Go.RowKit
set_option linter.unusedVariables false
set_option maxRecDepth 20000
set_option linter.unusedSimpArgs false
theorem buildE (e : Nat) : Tryd.prog.built 30 [(1, nQ e)] = some (CelT.v ⟨zD, e, 0⟩).toArray := by kernel_rfl
theorem field49_0 : FieldIs Tryd.prog 49 0 0 1 := by unfold FieldIs; kernel_rfl
theorem field49_1 : FieldIs Tryd.prog 49 1 1 1 := by unfold FieldIs; kernel_rfl
theorem size49 : SizeIs Tryd.prog 49 2 := by unfold SizeIs; kernel_rfl
theorem infoW : InfoP Tryd.prog 50 (.agg #[.int .u8 0, .int .u8 0]) 2 2 := by unfold InfoP; kernel_rfl
theorem digS_12 : digS 1 ≠ digS 2 := by decide
/-! The log that a law is about. -/
abbrev S2 := UInt8 × UInt8
def s2V (x : S2) : List Value := [byteV x.1, byteV x.2]
def s2R (q : List S2) : List Value := q.flatMap s2V
theorem s2_lens (q : List S2) : ∀ x ∈ q, (s2V x).length = 2 := fun _ _ => rfl
theorem s2R_len (q : List S2) : (s2R q).length = q.length * 2 := flat_length (s2_lens q)
def s2At (q : List S2) (i : Nat) : S2 := q.getD i (0, 0)
theorem s2R_at {q : List S2} {i : Nat} (hi : i < q.length) : ((s2R q).drop (i * 2)).take 2 = s2V (s2At q i) := flat_getD (s2_lens q) hi _
def stepC (c : CelT) (x : S2) : CelT := if x.1.toNat % 2 = 1 then ⟨digS x.2, c.e + 1, c.m⟩ else ⟨c.t, c.e, c.m + (1 + x.2.toNat * 2 ^ (x.1.toNat / 2 % 40))⟩
theorem step_y {c : CelT} {x : S2} (h : x.1.toNat % 2 = 1) : stepC c x = ⟨digS x.2, c.e + 1, c.m⟩ := if_pos h
theorem step_n {c : CelT} {x : S2} (h : ¬ x.1.toNat % 2 = 1) : stepC c x = ⟨c.t, c.e, c.m + (1 + x.2.toNat * 2 ^ (x.1.toNat / 2 % 40))⟩ := if_neg h
theorem pw_le (x : S2) : x.2.toNat * 2 ^ (x.1.toNat / 2 % 40) ≤ 255 * 549755813888 := Nat.mul_le_mul (by have := x.2.toNat_lt; omega) (Nat.pow_le_pow_right (n := 2) (by decide) (show x.1.toNat / 2 % 40 ≤ 39 by omega))
/-- The log's cell at i. -/
def lgN (n : Nat) (q : List S2) : Nat → CelT
 | 0 => frC n
 | i + 1 => stepC (lgN n q i) (s2At q i)
theorem lg_bd (n : Nat) (q : List S2) : ∀ i, (lgN n q i).t.length = 32 ∧ (lgN n q i).e ≤ i ∧ (lgN n q i).m ≤ i * 281474976710656
 | 0 => ⟨sha_length _, by simp [lgN, frC], by simp [lgN, frC]⟩
 | i + 1 => by
  obtain ⟨h1, h2, h3⟩ := lg_bd n q i
  have h4 := pw_le (s2At q i)
  unfold lgN stepC
  split
  ·clear h4
   refine ⟨digS_len _, ?_, ?_⟩
   ·dsimp only; omega
   ·exact Nat.le_trans h3 (Nat.mul_le_mul_right _ (Nat.le_succ i))
  ·refine ⟨h1, ?_, ?_⟩
   ·dsimp only; omega
   ·dsimp only; omega
theorem lg_fit (n : Nat) (q : List S2) {i : Nat} (h : i ≤ 40) : (lgN n q i).Fit := by
 obtain ⟨h1, h2, h3⟩ := lg_bd n q i
 exact ⟨h1, by omega, by omega⟩
def lgP (n : Nat) (q : List S2) (i : Nat) : List CelT := (List.range i).map (lgN n q)
def lgL (n : Nat) (q : List S2) : List CelT := lgP n q (min q.length 40 + 1)
theorem lgP_len (n : Nat) (q : List S2) (i : Nat) : (lgP n q i).length = i := by simp [lgP]
theorem lgP_succ (n : Nat) (q : List S2) (i : Nat) : celsV (lgP n q i) ++ (lgN n q i).v = celsV (lgP n q (i + 1)) := by
 unfold lgP; rw [List.range_succ, List.map_append, celsV, celsV, List.flatMap_append]; simp
theorem lgP_fit (n : Nat) (q : List S2) {i : Nat} (h : i ≤ 41) : ∀ c ∈ lgP n q i, c.Fit := fun c hc => by
 obtain ⟨j, hj, rfl⟩ := List.mem_map.1 hc
 exact lg_fit n q (by have := List.mem_range.1 hj; omega)
theorem lgL_fit (n : Nat) (q : List S2) : ∀ c ∈ lgL n q, c.Fit := lgP_fit n q (by omega)
theorem lgL_len (n : Nat) (q : List S2) : (lgL n q).length = min q.length 40 + 1 := lgP_len _ _ _
theorem cfit (t : UInt8) (e m : Nat) (he : Nat.blt e 18446744073709551616 = true) (hm : Nat.blt m 18446744073709551616 = true) : (⟨digS t, e, m⟩ : CelT).Fit := ⟨digS_len _, Nat.le_of_ble_eq_true he, Nat.le_of_ble_eq_true hm⟩
theorem zfit (e m : Nat) (he : Nat.blt e 18446744073709551616 = true) (hm : Nat.blt m 18446744073709551616 = true) : (⟨zD, e, m⟩ : CelT).Fit := ⟨rfl, Nat.le_of_ble_eq_true he, Nat.le_of_ble_eq_true hm⟩

theorem shl_u64 (a s : Nat) (hs : s < 64) (h : a * 2 ^ s < 18446744073709551616) : Value.int .u64 (IntKind.u64.wrap ((a : Int) * 2 ^ min ((s : Nat) : Int).toNat IntKind.u64.bits)) = nQ (a * 2 ^ s) := by
 rw [show min ((s : Nat) : Int).toNat IntKind.u64.bits = s from by show min s 64 = s; omega]
 congr 1
 rw [show (a : Int) * 2 ^ s = ((a * 2 ^ s : Nat) : Int) from by push_cast; rfl]
 exact wrapN_u64 h
set_option maxHeartbeats 1000000 in
theorem rFresh_fn (n : Nat) (h1 : 1 ≤ n) (h2 : n ≤ 4096)  : Fn Tryd.prog 11 [.v (nI (n))] (.v (aggV (frC n).v)) := by
 have hh := hg_le n
 have hb5 : (hgB n).toNat ≤ 5 := by rw [hgB_nat h1 h2]; omega
 refine Fn.of Tryd.func11 rfl (by kernel_rfl) Tryd.ntmps11 (by simp) (fun w => [(0, .v (nI (n)))]) (fun w => (Start.v rfl Start.nil)) fun w₀ => ?_
 refine GS ?_
 refine TN 0 ?_
 refine RN ?_
 refine ⟨_, _, eff_alloc (n := 9) (d := 2) (k := 1000002) zero30 (by decide), fun b2 hb2 => ?_⟩
 have hBb2 := hb2.1
 refine TL ?_
 refine RN ?_
 refine GS ?_
 refine TF 6 ?_
 refine RM rfl ?_
 refine RS (ok_call (rHeight_fn n h1 h2) (A1 rfl)) ?_
 refine RS (ok_conv Tryd.underlying3 Tryd.underlying5 rfl) ?_; refine RZ (byteV (hgB n)) (by rw [wrap_u8_nat]; rfl) ?_
 refine RS (ok_litS [(0, byteV (hgB n))] (NodT.emp (hgB n) 0).v ⟨rfl, rfl, trivial⟩ (buildX0 _)) ?_
 refine RS (ok_call (rDigest_fn (NodT.emp (hgB n) 0) (NodT.emp_fit (hgB n) (j := 0) (by decide)) hb5) (A1 rfl)) ?_
 refine RS (ok_litS [(0, aggV ((sha (NodT.emp (hgB n) 0).bl).map byteV))] (frC n).v ⟨rfl, rfl, trivial⟩ (buildC0 _ (sha_length _))) ?_
 refine RN ?_
 refine ⟨_, eff_storeA (n := 9) (s := 1000002) (size30.of ((frC_fit n).len)) rfl rfl (CelT.one _) hBb2 rfl (by rw [(frC_fit n).len]; rfl) (LV 2 rfl LN), ?_⟩
 refine TL ?_
 refine RN ?_
 refine A.ret ?_
 exact End.cell1 (s := 1000002) rfl Tryd.underlying30 rfl (size30.of ((frC_fit n).len)) rfl rfl (Le.refl _)
set_option maxHeartbeats 1000000 in
theorem rFol_1 (a b : CelT) (ha : a.Fit) (hb : b.Fit) (h1 : a.e + 1 = b.e) (h2 : a.m = b.m) : Fn Tryd.prog 18 [.v (aggV a.v), .v (aggV b.v)] (.v (.int .i64 (1))) := by
 refine Fn.of Tryd.func18 rfl (by kernel_rfl) Tryd.ntmps18 (by simp) (fun w => [(0, .v (aggV a.v)), (1, .v (aggV b.v))]) (fun w => (Start.v rfl (Start.v rfl Start.nil))) fun w₀ => ?_
 refine GS ?_
 refine TN 0 ?_
 refine RN ?_
 refine ⟨_, _, eff_box (n := 44) (d := 2) (k := 1000002) rfl (by decide), fun b2 hb2 => ?_⟩
 have hBb2 := hb2.1
 refine TN 1 ?_
 refine RN ?_
 refine ⟨_, _, eff_box (n := 44) (d := 3) (k := 1000003) rfl (by decide), fun b3 hb3 => ?_⟩
 have hBb3 := hb3.1
 have hlt_b2_b3 : b2 < b3 := hb3.2 1000002 _ _ _ rfl
 refine TL ?_
 refine RA rfl ?_
 refine RN ?_
 refine A.seq ?_
 refine GS ?_
 refine TL ?_
 refine RS (ok_field field30_1 (by decide) rfl) ?_
 refine RS (ok_loadV (s := 1000002) (by decide) Tryd.underlying28 rfl rfl rfl (ha.ve)) ?_
 refine RS (ok_field field30_1 (by decide) rfl) ?_
 refine RS (ok_loadV (s := 1000003) (by decide) Tryd.underlying28 rfl rfl rfl (hb.ve)) ?_
 refine RBS rfl rfl rfl (.bool true) (by simp; omega) ?_
 refine RM rfl ?_
 refine RQ (ok_field field30_1 (by decide) rfl) ?_
 refine RQ (ok_loadV (s := 1000003) (by decide) Tryd.underlying28 rfl rfl rfl (hb.ve)) ?_
 refine RQ (ok_field field30_1 (by decide) rfl) ?_
 refine RQ (ok_loadV (s := 1000002) (by decide) Tryd.underlying28 rfl rfl rfl (ha.ve)) ?_
 refine RQ (ok_bin rfl rfl rfl) ?_; refine RZ (nQ (b.e - a.e)) (by rw [show (b.e : Int) - (a.e : Int) = ((b.e - a.e : Nat) : Int) from by omega]; exact congrArg _ (wrap_u64 (by omega) (by have := hb.e; omega))) ?_
 refine RQ (ok_bin rfl rfl rfl) ?_; refine RZ (.bool true) (by simp; omega) ?_
 refine RP rfl rfl ?_
 refine RM rfl ?_
 refine RQ (ok_field field30_2 (by decide) rfl) ?_
 refine RQ (ok_loadV (s := 1000002) (by decide) Tryd.underlying28 rfl rfl rfl (ha.vm)) ?_
 refine RQ (ok_field field30_2 (by decide) rfl) ?_
 refine RQ (ok_loadV (s := 1000003) (by decide) Tryd.underlying28 rfl rfl rfl (hb.vm)) ?_
 refine RQ (ok_bin rfl rfl rfl) ?_; refine RZ (.bool true) (by simp; omega) ?_
 refine RP rfl rfl ?_
 refine RN ?_
 refine A.yes rfl ?_
 refine GS ?_
 refine TL ?_
 refine RA rfl ?_
 refine RN ?_
 refine A.ret ?_
 refine End.ret_then ?_
 exact End.ret1 rfl rfl (by first | exact Le.refl _ | exact Le.old _ _)
set_option maxHeartbeats 1000000 in
theorem rFol_2 (a b : CelT) (ha : a.Fit) (hb : b.Fit) (h1 : a.e = b.e) (h2 : a.t = b.t) (h3 : a.m < b.m) : Fn Tryd.prog 18 [.v (aggV a.v), .v (aggV b.v)] (.v (.int .i64 (2))) := by
 have hne : ¬ (a.e + 1 = b.e ∧ a.m = b.m) := by omega
 refine Fn.of Tryd.func18 rfl (by kernel_rfl) Tryd.ntmps18 (by simp) (fun w => [(0, .v (aggV a.v)), (1, .v (aggV b.v))]) (fun w => (Start.v rfl (Start.v rfl Start.nil))) fun w₀ => ?_
 refine GS ?_
 refine TN 0 ?_
 refine RN ?_
 refine ⟨_, _, eff_box (n := 44) (d := 2) (k := 1000002) rfl (by decide), fun b2 hb2 => ?_⟩
 have hBb2 := hb2.1
 refine TN 1 ?_
 refine RN ?_
 refine ⟨_, _, eff_box (n := 44) (d := 3) (k := 1000003) rfl (by decide), fun b3 hb3 => ?_⟩
 have hBb3 := hb3.1
 have hlt_b2_b3 : b2 < b3 := hb3.2 1000002 _ _ _ rfl
 refine TL ?_
 refine RA rfl ?_
 refine RN ?_
 refine A.seq ?_
 refine A.seqTo [(2, .v (ptr b2)), (3, .v (ptr b3)), (1000002, blk b2 30 a.v), (1000003, blk b3 30 b.v), (24, .v (.bool false))] ?_ ?_
 ·rcases (show ¬ a.e < b.e ∨ (a.e < b.e ∧ ¬ b.e - a.e = 1) ∨ (a.e < b.e ∧ b.e - a.e = 1 ∧ ¬ a.m = b.m) by omega) with hx | ⟨hx, hy⟩ | ⟨hx, hy, hz⟩
  ·refine GE ?_
   refine TL ?_
   refine RS (ok_field field30_1 (by decide) rfl) ?_
   refine RS (ok_loadV (s := 1000002) (by decide) Tryd.underlying28 rfl rfl rfl (ha.ve)) ?_
   refine RS (ok_field field30_1 (by decide) rfl) ?_
   refine RS (ok_loadV (s := 1000003) (by decide) Tryd.underlying28 rfl rfl rfl (hb.ve)) ?_
   refine RBS rfl rfl rfl (.bool false) (by simp; omega) ?_
   refine RM rfl ?_
   refine RK ?_
   refine RK ?_
   refine RK ?_
   refine RK ?_
   refine RK ?_
   refine RK ?_
   refine RP rfl rfl ?_
   refine RM rfl ?_
   refine RK ?_
   refine RK ?_
   refine RK ?_
   refine RK ?_
   refine RK ?_
   refine RP rfl rfl ?_
   refine RN ?_
   exact End.normal_then (End.toEnv (SubL.cons (t := 2) rfl (by first | exact Le.refl _ | exact Le.old _ _) (SubL.cons (t := 3) rfl (by first | exact Le.refl _ | exact Le.old _ _) (SubL.cons (t := 1000002) rfl (by first | exact Le.refl _ | exact Le.old _ _) (SubL.cons (t := 1000003) rfl (by first | exact Le.refl _ | exact Le.old _ _) (SubL.cons (t := 24) rfl (by first | exact Le.refl _ | exact Le.old _ _) SubL.nil))))))
  ·refine GE ?_
   refine TL ?_
   refine RS (ok_field field30_1 (by decide) rfl) ?_
   refine RS (ok_loadV (s := 1000002) (by decide) Tryd.underlying28 rfl rfl rfl (ha.ve)) ?_
   refine RS (ok_field field30_1 (by decide) rfl) ?_
   refine RS (ok_loadV (s := 1000003) (by decide) Tryd.underlying28 rfl rfl rfl (hb.ve)) ?_
   refine RBS rfl rfl rfl (.bool true) (by simp; omega) ?_
   refine RM rfl ?_
   refine RQ (ok_field field30_1 (by decide) rfl) ?_
   refine RQ (ok_loadV (s := 1000003) (by decide) Tryd.underlying28 rfl rfl rfl (hb.ve)) ?_
   refine RQ (ok_field field30_1 (by decide) rfl) ?_
   refine RQ (ok_loadV (s := 1000002) (by decide) Tryd.underlying28 rfl rfl rfl (ha.ve)) ?_
   refine RQ (ok_bin rfl rfl rfl) ?_; refine RZ (nQ (b.e - a.e)) (by rw [show (b.e : Int) - (a.e : Int) = ((b.e - a.e : Nat) : Int) from by omega]; exact congrArg _ (wrap_u64 (by omega) (by have := hb.e; omega))) ?_
   refine RQ (ok_bin rfl rfl rfl) ?_; refine RZ (.bool false) (by simp; omega) ?_
   refine RP rfl rfl ?_
   refine RM rfl ?_
   refine RK ?_
   refine RK ?_
   refine RK ?_
   refine RK ?_
   refine RK ?_
   refine RP rfl rfl ?_
   refine RN ?_
   exact End.normal_then (End.toEnv (SubL.cons (t := 2) rfl (by first | exact Le.refl _ | exact Le.old _ _) (SubL.cons (t := 3) rfl (by first | exact Le.refl _ | exact Le.old _ _) (SubL.cons (t := 1000002) rfl (by first | exact Le.refl _ | exact Le.old _ _) (SubL.cons (t := 1000003) rfl (by first | exact Le.refl _ | exact Le.old _ _) (SubL.cons (t := 24) rfl (by first | exact Le.refl _ | exact Le.old _ _) SubL.nil))))))
  ·refine GE ?_
   refine TL ?_
   refine RS (ok_field field30_1 (by decide) rfl) ?_
   refine RS (ok_loadV (s := 1000002) (by decide) Tryd.underlying28 rfl rfl rfl (ha.ve)) ?_
   refine RS (ok_field field30_1 (by decide) rfl) ?_
   refine RS (ok_loadV (s := 1000003) (by decide) Tryd.underlying28 rfl rfl rfl (hb.ve)) ?_
   refine RBS rfl rfl rfl (.bool true) (by simp; omega) ?_
   refine RM rfl ?_
   refine RQ (ok_field field30_1 (by decide) rfl) ?_
   refine RQ (ok_loadV (s := 1000003) (by decide) Tryd.underlying28 rfl rfl rfl (hb.ve)) ?_
   refine RQ (ok_field field30_1 (by decide) rfl) ?_
   refine RQ (ok_loadV (s := 1000002) (by decide) Tryd.underlying28 rfl rfl rfl (ha.ve)) ?_
   refine RQ (ok_bin rfl rfl rfl) ?_; refine RZ (nQ (b.e - a.e)) (by rw [show (b.e : Int) - (a.e : Int) = ((b.e - a.e : Nat) : Int) from by omega]; exact congrArg _ (wrap_u64 (by omega) (by have := hb.e; omega))) ?_
   refine RQ (ok_bin rfl rfl rfl) ?_; refine RZ (.bool true) (by simp; omega) ?_
   refine RP rfl rfl ?_
   refine RM rfl ?_
   refine RQ (ok_field field30_2 (by decide) rfl) ?_
   refine RQ (ok_loadV (s := 1000002) (by decide) Tryd.underlying28 rfl rfl rfl (ha.vm)) ?_
   refine RQ (ok_field field30_2 (by decide) rfl) ?_
   refine RQ (ok_loadV (s := 1000003) (by decide) Tryd.underlying28 rfl rfl rfl (hb.vm)) ?_
   refine RQ (ok_bin rfl rfl rfl) ?_; refine RZ (.bool false) (by simp; omega) ?_
   refine RP rfl rfl ?_
   refine RN ?_
   exact End.normal_then (End.toEnv (SubL.cons (t := 2) rfl (by first | exact Le.refl _ | exact Le.old _ _) (SubL.cons (t := 3) rfl (by first | exact Le.refl _ | exact Le.old _ _) (SubL.cons (t := 1000002) rfl (by first | exact Le.refl _ | exact Le.old _ _) (SubL.cons (t := 1000003) rfl (by first | exact Le.refl _ | exact Le.old _ _) (SubL.cons (t := 24) rfl (by first | exact Le.refl _ | exact Le.old _ _) SubL.nil))))))
 ·refine A.no rfl ?_
  refine A.skip ?_
  refine EN ?_
  refine A.seq ?_
  refine GS ?_
  refine TL ?_
  refine RS (ok_field field30_1 (by decide) rfl) ?_
  refine RS (ok_loadV (s := 1000002) (by decide) Tryd.underlying28 rfl rfl rfl (ha.ve)) ?_
  refine RS (ok_field field30_1 (by decide) rfl) ?_
  refine RS (ok_loadV (s := 1000003) (by decide) Tryd.underlying28 rfl rfl rfl (hb.ve)) ?_
  refine RBS rfl rfl rfl (.bool true) (by simp; omega) ?_
  refine RM rfl ?_
  refine RQ (ok_field field30_0 (by decide) rfl) ?_
  refine RQ (ok_loadP (s := 1000002) (by decide) Tryd.underlying27 rfl size27 rfl rfl (by rw [ha.len]; decide) (ha.vt)) ?_
  refine RQ (ok_field field30_0 (by decide) rfl) ?_
  refine RQ (ok_loadP (s := 1000003) (by decide) Tryd.underlying27 rfl size27 rfl rfl (by rw [hb.len]; decide) (hb.vt)) ?_
  refine RQ (ok_eqlT (n := 4) true flat27r (by decide) (by kernel_rfl) (by kernel_rfl) rfl rfl (kinB ha.t) (kinB hb.t) (iff_of_true rfl (congrArg _ h2))) ?_
  refine RP rfl rfl ?_
  refine RM rfl ?_
  refine RQ (ok_field field30_2 (by decide) rfl) ?_
  refine RQ (ok_loadV (s := 1000002) (by decide) Tryd.underlying28 rfl rfl rfl (ha.vm)) ?_
  refine RQ (ok_field field30_2 (by decide) rfl) ?_
  refine RQ (ok_loadV (s := 1000003) (by decide) Tryd.underlying28 rfl rfl rfl (hb.vm)) ?_
  refine RQ (ok_bin rfl rfl rfl) ?_; refine RZ (.bool true) (by simp; omega) ?_
  refine RP rfl rfl ?_
  refine RN ?_
  refine A.yes rfl ?_
  refine GS ?_
  refine TL ?_
  refine RA rfl ?_
  refine RN ?_
  refine A.ret ?_
  refine End.ret_then ?_
  exact End.ret1 rfl rfl (by first | exact Le.refl _ | exact Le.old _ _)
set_option maxHeartbeats 1000000 in
theorem rFol_0 (a b : CelT) (ha : a.Fit) (hb : b.Fit) (hne : ¬ (a.e + 1 = b.e ∧ a.m = b.m)) (hno : ¬ (a.e = b.e ∧ a.t = b.t ∧ a.m < b.m)) : Fn Tryd.prog 18 [.v (aggV a.v), .v (aggV b.v)] (.v (.int .i64 (0))) := by
 refine Fn.of Tryd.func18 rfl (by kernel_rfl) Tryd.ntmps18 (by simp) (fun w => [(0, .v (aggV a.v)), (1, .v (aggV b.v))]) (fun w => (Start.v rfl (Start.v rfl Start.nil))) fun w₀ => ?_
 refine GS ?_
 refine TN 0 ?_
 refine RN ?_
 refine ⟨_, _, eff_box (n := 44) (d := 2) (k := 1000002) rfl (by decide), fun b2 hb2 => ?_⟩
 have hBb2 := hb2.1
 refine TN 1 ?_
 refine RN ?_
 refine ⟨_, _, eff_box (n := 44) (d := 3) (k := 1000003) rfl (by decide), fun b3 hb3 => ?_⟩
 have hBb3 := hb3.1
 have hlt_b2_b3 : b2 < b3 := hb3.2 1000002 _ _ _ rfl
 refine TL ?_
 refine RA rfl ?_
 refine RN ?_
 refine A.seq ?_
 refine A.seqTo [(2, .v (ptr b2)), (3, .v (ptr b3)), (1000002, blk b2 30 a.v), (1000003, blk b3 30 b.v), (24, .v (.bool false))] ?_ ?_
 ·rcases (show ¬ a.e < b.e ∨ (a.e < b.e ∧ ¬ b.e - a.e = 1) ∨ (a.e < b.e ∧ b.e - a.e = 1 ∧ ¬ a.m = b.m) by omega) with hx | ⟨hx, hy⟩ | ⟨hx, hy, hz⟩
  ·refine GE ?_
   refine TL ?_
   refine RS (ok_field field30_1 (by decide) rfl) ?_
   refine RS (ok_loadV (s := 1000002) (by decide) Tryd.underlying28 rfl rfl rfl (ha.ve)) ?_
   refine RS (ok_field field30_1 (by decide) rfl) ?_
   refine RS (ok_loadV (s := 1000003) (by decide) Tryd.underlying28 rfl rfl rfl (hb.ve)) ?_
   refine RBS rfl rfl rfl (.bool false) (by simp; omega) ?_
   refine RM rfl ?_
   refine RK ?_
   refine RK ?_
   refine RK ?_
   refine RK ?_
   refine RK ?_
   refine RK ?_
   refine RP rfl rfl ?_
   refine RM rfl ?_
   refine RK ?_
   refine RK ?_
   refine RK ?_
   refine RK ?_
   refine RK ?_
   refine RP rfl rfl ?_
   refine RN ?_
   exact End.normal_then (End.toEnv (SubL.cons (t := 2) rfl (by first | exact Le.refl _ | exact Le.old _ _) (SubL.cons (t := 3) rfl (by first | exact Le.refl _ | exact Le.old _ _) (SubL.cons (t := 1000002) rfl (by first | exact Le.refl _ | exact Le.old _ _) (SubL.cons (t := 1000003) rfl (by first | exact Le.refl _ | exact Le.old _ _) (SubL.cons (t := 24) rfl (by first | exact Le.refl _ | exact Le.old _ _) SubL.nil))))))
  ·refine GE ?_
   refine TL ?_
   refine RS (ok_field field30_1 (by decide) rfl) ?_
   refine RS (ok_loadV (s := 1000002) (by decide) Tryd.underlying28 rfl rfl rfl (ha.ve)) ?_
   refine RS (ok_field field30_1 (by decide) rfl) ?_
   refine RS (ok_loadV (s := 1000003) (by decide) Tryd.underlying28 rfl rfl rfl (hb.ve)) ?_
   refine RBS rfl rfl rfl (.bool true) (by simp; omega) ?_
   refine RM rfl ?_
   refine RQ (ok_field field30_1 (by decide) rfl) ?_
   refine RQ (ok_loadV (s := 1000003) (by decide) Tryd.underlying28 rfl rfl rfl (hb.ve)) ?_
   refine RQ (ok_field field30_1 (by decide) rfl) ?_
   refine RQ (ok_loadV (s := 1000002) (by decide) Tryd.underlying28 rfl rfl rfl (ha.ve)) ?_
   refine RQ (ok_bin rfl rfl rfl) ?_; refine RZ (nQ (b.e - a.e)) (by rw [show (b.e : Int) - (a.e : Int) = ((b.e - a.e : Nat) : Int) from by omega]; exact congrArg _ (wrap_u64 (by omega) (by have := hb.e; omega))) ?_
   refine RQ (ok_bin rfl rfl rfl) ?_; refine RZ (.bool false) (by simp; omega) ?_
   refine RP rfl rfl ?_
   refine RM rfl ?_
   refine RK ?_
   refine RK ?_
   refine RK ?_
   refine RK ?_
   refine RK ?_
   refine RP rfl rfl ?_
   refine RN ?_
   exact End.normal_then (End.toEnv (SubL.cons (t := 2) rfl (by first | exact Le.refl _ | exact Le.old _ _) (SubL.cons (t := 3) rfl (by first | exact Le.refl _ | exact Le.old _ _) (SubL.cons (t := 1000002) rfl (by first | exact Le.refl _ | exact Le.old _ _) (SubL.cons (t := 1000003) rfl (by first | exact Le.refl _ | exact Le.old _ _) (SubL.cons (t := 24) rfl (by first | exact Le.refl _ | exact Le.old _ _) SubL.nil))))))
  ·refine GE ?_
   refine TL ?_
   refine RS (ok_field field30_1 (by decide) rfl) ?_
   refine RS (ok_loadV (s := 1000002) (by decide) Tryd.underlying28 rfl rfl rfl (ha.ve)) ?_
   refine RS (ok_field field30_1 (by decide) rfl) ?_
   refine RS (ok_loadV (s := 1000003) (by decide) Tryd.underlying28 rfl rfl rfl (hb.ve)) ?_
   refine RBS rfl rfl rfl (.bool true) (by simp; omega) ?_
   refine RM rfl ?_
   refine RQ (ok_field field30_1 (by decide) rfl) ?_
   refine RQ (ok_loadV (s := 1000003) (by decide) Tryd.underlying28 rfl rfl rfl (hb.ve)) ?_
   refine RQ (ok_field field30_1 (by decide) rfl) ?_
   refine RQ (ok_loadV (s := 1000002) (by decide) Tryd.underlying28 rfl rfl rfl (ha.ve)) ?_
   refine RQ (ok_bin rfl rfl rfl) ?_; refine RZ (nQ (b.e - a.e)) (by rw [show (b.e : Int) - (a.e : Int) = ((b.e - a.e : Nat) : Int) from by omega]; exact congrArg _ (wrap_u64 (by omega) (by have := hb.e; omega))) ?_
   refine RQ (ok_bin rfl rfl rfl) ?_; refine RZ (.bool true) (by simp; omega) ?_
   refine RP rfl rfl ?_
   refine RM rfl ?_
   refine RQ (ok_field field30_2 (by decide) rfl) ?_
   refine RQ (ok_loadV (s := 1000002) (by decide) Tryd.underlying28 rfl rfl rfl (ha.vm)) ?_
   refine RQ (ok_field field30_2 (by decide) rfl) ?_
   refine RQ (ok_loadV (s := 1000003) (by decide) Tryd.underlying28 rfl rfl rfl (hb.vm)) ?_
   refine RQ (ok_bin rfl rfl rfl) ?_; refine RZ (.bool false) (by simp; omega) ?_
   refine RP rfl rfl ?_
   refine RN ?_
   exact End.normal_then (End.toEnv (SubL.cons (t := 2) rfl (by first | exact Le.refl _ | exact Le.old _ _) (SubL.cons (t := 3) rfl (by first | exact Le.refl _ | exact Le.old _ _) (SubL.cons (t := 1000002) rfl (by first | exact Le.refl _ | exact Le.old _ _) (SubL.cons (t := 1000003) rfl (by first | exact Le.refl _ | exact Le.old _ _) (SubL.cons (t := 24) rfl (by first | exact Le.refl _ | exact Le.old _ _) SubL.nil))))))
 ·refine A.no rfl ?_
  refine A.skip ?_
  refine EN ?_
  refine A.seq ?_
  refine A.seqTo [(43, .v (.bool false))] ?_ ?_
  ·rcases (show ¬ a.e = b.e ∨ (a.e = b.e ∧ ¬ a.t = b.t) ∨ (a.e = b.e ∧ a.t = b.t ∧ ¬ a.m < b.m) by by_cases h1 : a.e = b.e <;> by_cases h2 : a.t = b.t <;> by_cases h3 : a.m < b.m <;> simp_all) with hu | ⟨hu, hv⟩ | ⟨hu, hv, hw⟩
   ·refine GE ?_
    refine TL ?_
    refine RS (ok_field field30_1 (by decide) rfl) ?_
    refine RS (ok_loadV (s := 1000002) (by decide) Tryd.underlying28 rfl rfl rfl (ha.ve)) ?_
    refine RS (ok_field field30_1 (by decide) rfl) ?_
    refine RS (ok_loadV (s := 1000003) (by decide) Tryd.underlying28 rfl rfl rfl (hb.ve)) ?_
    refine RBS rfl rfl rfl (.bool false) (by simp; omega) ?_
    refine RM rfl ?_
    refine RK ?_
    refine RK ?_
    refine RK ?_
    refine RK ?_
    refine RK ?_
    refine RP rfl rfl ?_
    refine RM rfl ?_
    refine RK ?_
    refine RK ?_
    refine RK ?_
    refine RK ?_
    refine RK ?_
    refine RP rfl rfl ?_
    refine RN ?_
    exact End.normal_then (End.toEnv (SubL.cons (t := 43) rfl (by first | exact Le.refl _ | exact Le.old _ _) SubL.nil))
   ·refine GE ?_
    refine TL ?_
    refine RS (ok_field field30_1 (by decide) rfl) ?_
    refine RS (ok_loadV (s := 1000002) (by decide) Tryd.underlying28 rfl rfl rfl (ha.ve)) ?_
    refine RS (ok_field field30_1 (by decide) rfl) ?_
    refine RS (ok_loadV (s := 1000003) (by decide) Tryd.underlying28 rfl rfl rfl (hb.ve)) ?_
    refine RBS rfl rfl rfl (.bool true) (by simp; omega) ?_
    refine RM rfl ?_
    refine RQ (ok_field field30_0 (by decide) rfl) ?_
    refine RQ (ok_loadP (s := 1000002) (by decide) Tryd.underlying27 rfl size27 rfl rfl (by rw [ha.len]; decide) (ha.vt)) ?_
    refine RQ (ok_field field30_0 (by decide) rfl) ?_
    refine RQ (ok_loadP (s := 1000003) (by decide) Tryd.underlying27 rfl size27 rfl rfl (by rw [hb.len]; decide) (hb.vt)) ?_
    refine RQ (ok_eqlT (n := 4) (decide (a.t = b.t)) flat27r (by decide) (by kernel_rfl) (by kernel_rfl) rfl rfl (kinB ha.t) (kinB hb.t) (by rw [decide_eq_true_iff]; exact ⟨fun h => congrArg _ h, fun h => bytes_inj h⟩)) ?_; refine RZ (.bool false) (by rw [decide_eq_false hv]) ?_
    refine RP rfl rfl ?_
    refine RM rfl ?_
    refine RK ?_
    refine RK ?_
    refine RK ?_
    refine RK ?_
    refine RK ?_
    refine RP rfl rfl ?_
    refine RN ?_
    exact End.normal_then (End.toEnv (SubL.cons (t := 43) rfl (by first | exact Le.refl _ | exact Le.old _ _) SubL.nil))
   ·refine GE ?_
    refine TL ?_
    refine RS (ok_field field30_1 (by decide) rfl) ?_
    refine RS (ok_loadV (s := 1000002) (by decide) Tryd.underlying28 rfl rfl rfl (ha.ve)) ?_
    refine RS (ok_field field30_1 (by decide) rfl) ?_
    refine RS (ok_loadV (s := 1000003) (by decide) Tryd.underlying28 rfl rfl rfl (hb.ve)) ?_
    refine RBS rfl rfl rfl (.bool true) (by simp; omega) ?_
    refine RM rfl ?_
    refine RQ (ok_field field30_0 (by decide) rfl) ?_
    refine RQ (ok_loadP (s := 1000002) (by decide) Tryd.underlying27 rfl size27 rfl rfl (by rw [ha.len]; decide) (ha.vt)) ?_
    refine RQ (ok_field field30_0 (by decide) rfl) ?_
    refine RQ (ok_loadP (s := 1000003) (by decide) Tryd.underlying27 rfl size27 rfl rfl (by rw [hb.len]; decide) (hb.vt)) ?_
    refine RQ (ok_eqlT (n := 4) (decide (a.t = b.t)) flat27r (by decide) (by kernel_rfl) (by kernel_rfl) rfl rfl (kinB ha.t) (kinB hb.t) (by rw [decide_eq_true_iff]; exact ⟨fun h => congrArg _ h, fun h => bytes_inj h⟩)) ?_; refine RZ (.bool true) (by rw [decide_eq_true hv]) ?_
    refine RP rfl rfl ?_
    refine RM rfl ?_
    refine RQ (ok_field field30_2 (by decide) rfl) ?_
    refine RQ (ok_loadV (s := 1000002) (by decide) Tryd.underlying28 rfl rfl rfl (ha.vm)) ?_
    refine RQ (ok_field field30_2 (by decide) rfl) ?_
    refine RQ (ok_loadV (s := 1000003) (by decide) Tryd.underlying28 rfl rfl rfl (hb.vm)) ?_
    refine RQ (ok_bin rfl rfl rfl) ?_; refine RZ (.bool false) (by simp; omega) ?_
    refine RP rfl rfl ?_
    refine RN ?_
    exact End.normal_then (End.toEnv (SubL.cons (t := 43) rfl (by first | exact Le.refl _ | exact Le.old _ _) SubL.nil))
  ·refine A.no rfl ?_
   refine A.skip ?_
   refine EN ?_
   refine GS ?_
   refine TL ?_
   refine RA rfl ?_
   refine RN ?_
   refine A.ret ?_
   exact End.ret1 rfl rfl (by first | exact Le.refl _ | exact Le.old _ _)
theorem rFollows_fn (a b : CelT) (ha : a.Fit) (hb : b.Fit) : Fn Tryd.prog 18 [.v (aggV a.v), .v (aggV b.v)] (.v (nI (CelT.fol a b))) := by
 by_cases h1 : a.e + 1 = b.e ∧ a.m = b.m
 ·rw [CelT.fol_one h1.1 h1.2]; exact rFol_1 a b ha hb h1.1 h1.2
 by_cases h2 : a.e = b.e ∧ a.t = b.t ∧ a.m < b.m
 ·rw [CelT.fol_two h2.1 h2.2.1 h2.2.2]; exact rFol_2 a b ha hb h2.1 h2.2.1 h2.2.2
 ·rw [CelT.fol_no h1 h2]; exact rFol_0 a b ha hb h1 h2
set_option maxHeartbeats 1000000 in
theorem rFault_fn (l : List CelT) (hl : ∀ c ∈ l, c.Fit) (hm : l.length ≤ 1000)  : Fn Tryd.prog 23 [rowLg l.length (celsV l)] (.v (nI (fault l))) := by
 refine Fn.of Tryd.func23 rfl (by kernel_rfl) Tryd.ntmps23 (by simp) (fun w => [(0, old w.heap.size (rowLg l.length (celsV l)))]) (fun w => (Start.old rfl Start.nil)) fun w₀ => ?_
 refine A.nameRC (t := 0) (k := 1000092) rfl fun A₀ q hmq => ?_
 refine GS ?_
 refine TL ?_
 refine RA rfl ?_
 refine RN ?_
 refine A.seq ?_
 refine GS ?_
 refine TL ?_
 refine RA rfl ?_
 refine RN ?_
 refine A.block ?_
 refine A.loop (ι := Nat) (fun i => i ≤ l.length - 1 ∧ ∀ k, k < i → okAt l k = true) (fun i => [(0, .v (.slice A₀ l.length q)), (3, .v (nI (i + 1))), (1000092, old w₀.heap.size (memR A₀ (celsV l)))]) (fun i => l.length - 1 - i) 0 ?_ ?_ ?_
 ·exact ⟨Nat.zero_le _, fun k h => absurd h (Nat.not_lt_zero _)⟩
 ·exact (KC 0 rfl (KE 3 rfl (by rfl) (KC 1000092 rfl KN)))
 intro i hG
 refine A.seq ?_
 refine GS ?_
 refine TL ?_
 refine RM rfl ?_
 refine RM rfl ?_
 refine RS (ok_lenV Tryd.underlying51 rfl) ?_
 refine RB rfl rfl rfl ?_
 refine RN ?_
 refine A.cond rfl (fun hc7 => ?_) (fun hc7 => ?_)
 ·have hlt : i + 1 < l.length := by simp at hc7; omega
  refine A.skip ?_
  refine EN ?_
  refine A.seq ?_
  refine A.block ?_
  refine GD ?_
  refine TL ?_
  refine RM rfl ?_
  refine RM rfl ?_
  refine RBS rfl rfl rfl (nI (i)) (wrap_eq (by omega) (by omega)) ?_
  refine RS (ok_indexR (s := 1000092) (i) Tryd.underlying51 infoC rfl rfl (by decide) rfl (by omega : i < l.length) (by rw [cels_len hl]; omega)) ?_
  refine RS (ok_loadElemT 34 Tryd.underlying30 rfl size30 (by rw [cels_at hl (by omega : i < l.length), (ceAt_fit hl _).len]; exact Nat.le_refl _) rfl) ?_; refine RZ (aggV (ceAt l (i)).v) (congrArg aggV (by rw [cels_at hl (by omega : i < l.length)]; exact List.take_of_length_le (Nat.le_of_eq (ceAt_fit hl _).len))) ?_
  refine RM rfl ?_
  refine RM rfl ?_
  refine RS (ok_indexR (s := 1000092) (i + 1) Tryd.underlying51 infoC rfl rfl (by decide) rfl (by omega : i + 1 < l.length) (by rw [cels_len hl]; omega)) ?_
  refine RS (ok_loadElemT 34 Tryd.underlying30 rfl size30 (by rw [cels_at hl (by omega : i + 1 < l.length), (ceAt_fit hl _).len]; exact Nat.le_refl _) rfl) ?_; refine RZ (aggV (ceAt l (i + 1)).v) (congrArg aggV (by rw [cels_at hl (by omega : i + 1 < l.length)]; exact List.take_of_length_le (Nat.le_of_eq (ceAt_fit hl _).len))) ?_
  refine RS (ok_call (rFollows_fn (ceAt l i) (ceAt l (i + 1)) (ceAt_fit hl _) (ceAt_fit hl _)) (A2 rfl rfl)) ?_; refine RZ (nI (folAt l i)) (by rfl) ?_
  refine RB rfl rfl rfl ?_
  refine RN ?_
  refine A.cond rfl (fun hc20 => ?_) (fun hc20 => ?_)
  ·have hk : okAt l i = false := okAt_false.2 (by simp at hc20; omega)
   refine GS ?_
   refine TL ?_
   refine RM rfl ?_
   refine RA rfl ?_
   refine RN ?_
   refine A.ret ?_
   refine End.ret_block ?_
   refine End.ret_then ?_
   refine End.ret_then ?_
   refine End.ret_block ?_
   refine End.ret_then ?_
   first | exact End.ret1 rfl rfl (Le.v (congrArg nI (flt_at hG.2 hk (by omega)).1.symm)) | exact End.ret1 rfl rfl (Le.v (by subst hend; exact congrArg nI (flt_ok hG.2).1.symm))
  ·have hk : okAt l i = true := okAt_true.2 (by simp at hc20; omega)
   refine A.skip ?_
   refine End.normal_block ?_
   refine EN ?_
   refine GE ?_
   refine TL ?_
   refine RM rfl ?_
   refine RBS rfl rfl rfl (nI (i + 1 + 1)) (wrap_eq (by omega) (by omega)) ?_
   refine RA rfl ?_
   refine RN ?_
   refine End.normal_then ?_
   refine End.again (i + 1) ?_ ?_ ?_
   ·exact ⟨by omega, fun k h => (Nat.lt_or_ge k i).elim (hG.2 k) fun h => by rw [show k = i from by omega]; exact hk⟩
   ·show _ - _ < _ - _; omega
   ·exact (KC 0 rfl (KC 3 rfl (KC 1000092 rfl KN)))
 ·have hend : i = l.length - 1 := by have := hG.1; simp at hc7; omega
  refine A.exit ?_
  refine End.exit_then ?_
  refine End.exit_then ?_
  refine End.exit_here ?_
  refine EN ?_
  refine GS ?_
  refine TL ?_
  refine RA rfl ?_
  refine RN ?_
  refine A.ret ?_
  first | exact End.ret1 rfl rfl (Le.v (congrArg nI (flt_at hG.2 hk (by omega)).1.symm)) | exact End.ret1 rfl rfl (Le.v (by subst hend; exact congrArg nI (flt_ok hG.2).1.symm))
theorem r15_fn  : Fn Tryd.prog 24 [] (.v (aggV ((digS 1).map byteV))) := by
 refine Fn.of Tryd.func24 rfl (by kernel_rfl) Tryd.ntmps24 (by simp) (fun w => []) (fun w => Start.nil) fun w₀ => ?_
 refine GS ?_
 refine TN 0 ?_
 refine RN ?_
 refine ⟨_, _, eff_alloc (n := 2) (d := 0) (k := 1000000) zero27 (by decide), fun b0 hb0 => ?_⟩
 have hBb0 := hb0.1
 refine TL ?_
 refine RN ?_
 refine GS ?_
 refine TF 1 ?_
 refine RS (ok_call (lDigest_fn 1) (A1 rfl)) ?_
 refine RN ?_
 refine ⟨_, eff_storeA (n := 2) (s := 1000000) (size27.of (by rw [List.length_map, digS_len])) rfl rfl (all_bytes _) hBb0 rfl (by rw [List.length_map, digS_len]; rfl) (LV 0 rfl LN), ?_⟩
 refine TL ?_
 refine RN ?_
 refine A.ret ?_
 exact End.cell1 (s := 1000000) rfl Tryd.underlying27 rfl (size27.of (by rw [List.length_map, digS_len])) rfl rfl (Le.refl _)
theorem s15_fn  : Fn Tryd.prog 30 [] (.v (aggV ((digS 2).map byteV))) := by
 refine Fn.of Tryd.func30 rfl (by kernel_rfl) Tryd.ntmps30 (by simp) (fun w => []) (fun w => Start.nil) fun w₀ => ?_
 refine GS ?_
 refine TN 0 ?_
 refine RN ?_
 refine ⟨_, _, eff_alloc (n := 2) (d := 0) (k := 1000000) zero27 (by decide), fun b0 hb0 => ?_⟩
 have hBb0 := hb0.1
 refine TL ?_
 refine RN ?_
 refine GS ?_
 refine TF 1 ?_
 refine RS (ok_call (lDigest_fn 2) (A1 rfl)) ?_
 refine RN ?_
 refine ⟨_, eff_storeA (n := 2) (s := 1000000) (size27.of (by rw [List.length_map, digS_len])) rfl rfl (all_bytes _) hBb0 rfl (by rw [List.length_map, digS_len]; rfl) (LV 0 rfl LN), ?_⟩
 refine TL ?_
 refine RN ?_
 refine A.ret ?_
 exact End.cell1 (s := 1000000) rfl Tryd.underlying27 rfl (size27.of (by rw [List.length_map, digS_len])) rfl rfl (Le.refl _)
set_option maxHeartbeats 4000000 in
theorem lives15_fn  : FnM Tryd.prog 14 tabN [] (.v (.bool true)) := by
 refine FnM.of Tryd.func14 rfl (by kernel_rfl) Tryd.ntmps14 (by simp) (by decide) (fun w => [(1900000, tab 0 (sizV)), (1900001, tab 1 (H8.list.map u32V)), (1900002, tab 2 (K64.map u32V))]) (fun w => (StartM.m (by simp [tabN]) (by decide) (StartM.m (by simp [tabN]) (by decide) (StartM.m (by simp [tabN]) (by decide) StartM.nil)))) fun w₀ hM => ?_
 have htab := tabN_hi hM
 refine GS ?_
 refine TL ?_
 refine RA rfl ?_
 refine RN ?_
 refine GS ?_
 refine TN 2 ?_
 refine RS (ok_call (r15_fn) Args.nil) ?_
 refine RS (ok_litS [(0, aggV ((digS 1).map byteV)), (1, nQ 4), (2, nQ 7)] (CelT.v ⟨(digS 1), 4, 7⟩) ⟨rfl, rfl, rfl, rfl, rfl, rfl, trivial⟩ (buildC _ _ _ (digS_len _))) ?_
 refine RN ?_
 refine ⟨_, _, eff_alloc (n := 103) (d := 1) (k := 1000001) zero30 (by decide), fun b1 hb1 => ?_⟩
 have hBb1 := hb1.1
 refine TF 3 ?_
 refine RN ?_
 refine ⟨_, eff_storeA (n := 103) (s := 1000001) (size30.of ((cfit 1 4 7 rfl rfl).len)) rfl rfl (CelT.one _) hBb1 rfl (by rw [(cfit 1 4 7 rfl rfl).len]; rfl) (LV 1 rfl (LeftS.cons (t := 1900000) rfl (Surv.tab (by omega)) (LeftS.cons (t := 1900001) rfl (Surv.tab (by omega)) (LeftS.cons (t := 1900002) rfl (Surv.tab (by omega)) LN)))), ?_⟩
 refine TL ?_
 refine RN ?_
 refine A.regsK [⟨6, 2, 30, CelT.v CelT.zero, 7, CelT.v ⟨digS 2, 5, 7⟩⟩] (by kernel_rfl) (by kernel_rfl) (by kernel_rfl) ?_
 refine KopsK.pure (_) rfl (.inl rfl) FromV.all (fun B' => (ok_loadA (s := 1000001) (by decide) Tryd.underlying30 rfl (size30.of ((cfit 1 4 7 rfl rfl).len)) rfl rfl)) ?_
 refine KopsK.pure (_) rfl (.inl rfl) FromV.all (fun B' => (ok_call (s15_fn) Args.nil)) ?_
 refine KopsK.pure ((17, .v _) :: (18, .v _) :: _) rfl (.inl rfl) (FromV.op 0 (by kernel_rfl) rfl rfl (FromV.op 1 (by kernel_rfl) rfl rfl FromV.all)) (fun B' => (ok_call (Next_ok ⟨digS 1, 4, 7⟩ (cfit 1 4 7 rfl rfl) (digS 2) (digS_len _) (by decide)) (A2 rfl rfl))) ?_
 refine KopsK.pure ((19, .v _) :: _) rfl (.inl rfl) (FromV.op 2 (by kernel_rfl) rfl rfl FromV.all) (fun B' => (ok_move rfl)) ?_
 refine KopsK.pure ((16, .v _) :: _) rfl (.inl rfl) (FromV.op 3 (by kernel_rfl) rfl rfl FromV.all) (fun B' => (ok_extractV rfl rfl)) ?_
 refine KopsK.pure ((16, .v _) :: _) rfl (.inl rfl) (FromV.op 3 (by kernel_rfl) rfl rfl FromV.all) (fun B' => (ok_extractV rfl rfl)) ?_
 refine KopsK.alloc 0 rfl rfl rfl rfl zero30 rfl ?_
 refine KopsK.store 0 ((20, .v _) :: _) rfl rfl rfl rfl (by kernel_rfl) (FromV.op 4 (by kernel_rfl) rfl rfl FromV.all) rfl (size30.of ((cfit 2 5 7 rfl rfl).len)) (by rw [(cfit 2 5 7 rfl rfl).len]; rfl) (CelT.one _) ?_
 refine KopsK.pure ((21, .v _) :: _) rfl (.inl rfl) (FromV.op 5 (by kernel_rfl) rfl rfl FromV.all) (fun B' => (ok_assign rfl)) ?_
 refine KopsK.nil ⟨by kernel_rfl, _, (FromW.op (t := 3) 8 rfl rfl FromW.all), fun bs hbs hds => ?_⟩
 have hb2 := hbs 0 (by simp)
 dsimp only [varEnv]
 generalize bs 0 = b2 at *
 have hBb2 := hb2.1
 have hlt_b1_b2 : b1 < b2 := hb2.2 1000001 _ _ _ rfl
 refine A.sub (KC 1 rfl (KC 2 rfl (KC 3 rfl (KC 1000001 rfl (KC 1000002 rfl (KC 1900000 rfl (KC 1900001 rfl (KC 1900002 rfl KN)))))))) ?_
 refine GS ?_
 refine TN 6 ?_
 refine RS (ok_litS [(1, nQ 18446744073709551615)] (CelT.v ⟨zD, 18446744073709551615, 0⟩) ⟨rfl, rfl, trivial⟩ (buildE _)) ?_
 refine RS (ok_call (s15_fn) Args.nil) ?_
 refine RS (ok_call (Next_max ⟨zD, 18446744073709551615, 0⟩ (zfit 18446744073709551615 0 rfl rfl) (digS 2) (digS_len _) rfl) (A2 rfl rfl)) ?_
 refine RM rfl ?_
 refine RS (ok_extractV rfl rfl) ?_
 refine RS (ok_extractV rfl rfl) ?_
 refine RN ?_
 refine ⟨_, _, eff_alloc (n := 103) (d := 4) (k := 1000004) zero30 (by decide), fun b4 hb4 => ?_⟩
 have hBb4 := hb4.1
 have hlt_b1_b4 : b1 < b4 := hb4.2 1000001 _ _ _ rfl
 have hlt_b2_b4 : b2 < b4 := hb4.2 1000002 _ _ _ rfl
 refine TF 7 ?_
 refine RN ?_
 refine ⟨_, eff_storeA (n := 103) (s := 1000004) (size30.of (CelT.zero_fit.len)) rfl rfl (CelT.one _) hBb4 rfl (by rw [CelT.zero_fit.len]; rfl) (LV 1 rfl (LV 2 rfl (LV 3 rfl (LV 27 rfl (LB 1000001 rfl (LB 1000002 rfl (LeftS.cons (t := 1900000) rfl (Surv.tab (by omega)) (LeftS.cons (t := 1900001) rfl (Surv.tab (by omega)) (LeftS.cons (t := 1900002) rfl (Surv.tab (by omega)) LN))))))))), ?_⟩
 refine TL ?_
 refine RA rfl ?_
 refine RN ?_
 refine GS ?_
 refine TN 5 ?_
 refine RS (ok_loadA (s := 1000001) (by decide) Tryd.underlying30 rfl (size30.of ((cfit 1 4 7 rfl rfl).len)) rfl rfl) ?_
 refine RS (ok_call (Res_ok ⟨digS 1, 4, 7⟩ (cfit 1 4 7 rfl rfl) 3 10 (by decide) (by decide) (by decide) (by decide) (by decide)) (A3 rfl rfl rfl)) ?_
 refine RM rfl ?_
 refine RS (ok_extractV rfl rfl) ?_
 refine RS (ok_extractV rfl rfl) ?_
 refine RN ?_
 refine ⟨_, _, eff_alloc (n := 103) (d := 6) (k := 1000006) zero30 (by decide), fun b6 hb6 => ?_⟩
 have hBb6 := hb6.1
 have hlt_b1_b6 : b1 < b6 := hb6.2 1000001 _ _ _ rfl
 have hlt_b2_b6 : b2 < b6 := hb6.2 1000002 _ _ _ rfl
 have hlt_b4_b6 : b4 < b6 := hb6.2 1000004 _ _ _ rfl
 refine TF 6 ?_
 refine RN ?_
 refine ⟨_, eff_storeA (n := 103) (s := 1000006) (size30.of ((cfit 1 4 10 rfl rfl).len)) rfl rfl (CelT.one _) hBb6 rfl (by rw [(cfit 1 4 10 rfl rfl).len]; rfl) (LV 1 rfl (LV 2 rfl (LV 3 rfl (LV 5 rfl (LV 6 rfl (LV 32 rfl (LB 1000001 rfl (LB 1000002 rfl (LB 1000004 rfl (LeftS.cons (t := 1900000) rfl (Surv.tab (by omega)) (LeftS.cons (t := 1900001) rfl (Surv.tab (by omega)) (LeftS.cons (t := 1900002) rfl (Surv.tab (by omega)) LN)))))))))))), ?_⟩
 refine TL ?_
 refine RA rfl ?_
 refine RN ?_
 refine GS ?_
 refine TN 5 ?_
 refine RS (ok_loadA (s := 1000001) (by decide) Tryd.underlying30 rfl (size30.of ((cfit 1 4 7 rfl rfl).len)) rfl rfl) ?_
 refine RS (ok_call (Res_far ⟨digS 1, 4, 7⟩ (cfit 1 4 7 rfl rfl) 4 10 (by decide) (by decide) (by decide) (by decide) (by decide)) (A3 rfl rfl rfl)) ?_
 refine RM rfl ?_
 refine RS (ok_extractV rfl rfl) ?_
 refine RS (ok_extractV rfl rfl) ?_
 refine RN ?_
 refine ⟨_, _, eff_alloc (n := 103) (d := 8) (k := 1000008) zero30 (by decide), fun b8 hb8 => ?_⟩
 have hBb8 := hb8.1
 have hlt_b1_b8 : b1 < b8 := hb8.2 1000001 _ _ _ rfl
 have hlt_b2_b8 : b2 < b8 := hb8.2 1000002 _ _ _ rfl
 have hlt_b4_b8 : b4 < b8 := hb8.2 1000004 _ _ _ rfl
 have hlt_b6_b8 : b6 < b8 := hb8.2 1000006 _ _ _ rfl
 refine TF 6 ?_
 refine RN ?_
 refine ⟨_, eff_storeA (n := 103) (s := 1000008) (size30.of (CelT.zero_fit.len)) rfl rfl (CelT.one _) hBb8 rfl (by rw [CelT.zero_fit.len]; rfl) (LV 1 rfl (LV 2 rfl (LV 3 rfl (LV 5 rfl (LV 6 rfl (LV 7 rfl (LV 37 rfl (LB 1000001 rfl (LB 1000002 rfl (LB 1000004 rfl (LB 1000006 rfl (LeftS.cons (t := 1900000) rfl (Surv.tab (by omega)) (LeftS.cons (t := 1900001) rfl (Surv.tab (by omega)) (LeftS.cons (t := 1900002) rfl (Surv.tab (by omega)) LN)))))))))))))), ?_⟩
 refine TL ?_
 refine RA rfl ?_
 refine RN ?_
 refine A.sub (KC 1 rfl (KC 2 rfl (KC 3 rfl (KC 5 rfl (KC 6 rfl (KC 7 rfl (KC 9 rfl (KC 1000001 rfl (KC 1000002 rfl (KC 1000004 rfl (KC 1000006 rfl (KC 1000008 rfl (KC 1900000 rfl (KC 1900001 rfl (KC 1900002 rfl KN))))))))))))))) ?_
 refine GS ?_
 refine TN 5 ?_
 refine RS (ok_loadA (s := 1000001) (by decide) Tryd.underlying30 rfl (size30.of ((cfit 1 4 7 rfl rfl).len)) rfl rfl) ?_
 refine RS (ok_call (Res_zero ⟨digS 1, 4, 7⟩ (cfit 1 4 7 rfl rfl) 0 10 (by decide) (by decide) rfl) (A3 rfl rfl rfl)) ?_
 refine RM rfl ?_
 refine RS (ok_extractV rfl rfl) ?_
 refine RS (ok_extractV rfl rfl) ?_
 refine RN ?_
 refine ⟨_, _, eff_alloc (n := 103) (d := 10) (k := 1000010) zero30 (by decide), fun b10 hb10 => ?_⟩
 have hBb10 := hb10.1
 have hlt_b1_b10 : b1 < b10 := hb10.2 1000001 _ _ _ rfl
 have hlt_b2_b10 : b2 < b10 := hb10.2 1000002 _ _ _ rfl
 have hlt_b4_b10 : b4 < b10 := hb10.2 1000004 _ _ _ rfl
 have hlt_b6_b10 : b6 < b10 := hb10.2 1000006 _ _ _ rfl
 have hlt_b8_b10 : b8 < b10 := hb10.2 1000008 _ _ _ rfl
 refine TF 6 ?_
 refine RN ?_
 refine ⟨_, eff_storeA (n := 103) (s := 1000010) (size30.of (CelT.zero_fit.len)) rfl rfl (CelT.one _) hBb10 rfl (by rw [CelT.zero_fit.len]; rfl) (LV 1 rfl (LV 2 rfl (LV 3 rfl (LV 5 rfl (LV 6 rfl (LV 7 rfl (LV 9 rfl (LV 42 rfl (LB 1000001 rfl (LB 1000002 rfl (LB 1000004 rfl (LB 1000006 rfl (LB 1000008 rfl (LeftS.cons (t := 1900000) rfl (Surv.tab (by omega)) (LeftS.cons (t := 1900001) rfl (Surv.tab (by omega)) (LeftS.cons (t := 1900002) rfl (Surv.tab (by omega)) LN)))))))))))))))), ?_⟩
 refine TL ?_
 refine RA rfl ?_
 refine RN ?_
 refine A.seq ?_
 refine GD ?_
 refine TL ?_
 refine RS (ok_loadA (s := 1000002) (by decide) Tryd.underlying30 rfl (size30.of ((cfit 2 5 7 rfl rfl).len)) rfl rfl) ?_
 refine RS (ok_call (s15_fn) Args.nil) ?_
 refine RS (ok_litS [(0, aggV ((digS 2).map byteV)), (1, nQ 5), (2, nQ 7)] (CelT.v ⟨(digS 2), 5, 7⟩) ⟨rfl, rfl, rfl, rfl, rfl, rfl, trivial⟩ (buildC _ _ _ (digS_len _))) ?_
 refine RS (ok_neqT (n := 4) true flat30 (by decide) (by kernel_rfl) (by kernel_rfl) rfl rfl (cfit 2 5 7 rfl rfl).kin (cfit 2 5 7 rfl rfl).kin (iff_of_true rfl rfl)) ?_; refine RZ (.bool false) (by rfl) ?_
 refine RM rfl ?_
 refine RQ (ok_loadA (s := 1000006) (by decide) Tryd.underlying30 rfl (size30.of ((cfit 1 4 10 rfl rfl).len)) rfl rfl) ?_
 refine RQ (ok_call (r15_fn) Args.nil) ?_
 refine RQ (ok_litS [(0, aggV ((digS 1).map byteV)), (1, nQ 4), (2, nQ 10)] (CelT.v ⟨(digS 1), 4, 10⟩) ⟨rfl, rfl, rfl, rfl, rfl, rfl, trivial⟩ (buildC _ _ _ (digS_len _))) ?_
 refine RQ (ok_neqT (n := 4) true flat30 (by decide) (by kernel_rfl) (by kernel_rfl) rfl rfl (cfit 1 4 10 rfl rfl).kin (cfit 1 4 10 rfl rfl).kin (iff_of_true rfl rfl)) ?_; refine RZ (.bool false) (by rfl) ?_
 refine RP rfl rfl ?_
 refine RM rfl ?_
 refine RQ (ok_move rfl) ?_
 refine RQ (ok_move rfl) ?_
 refine RQ (ok_bin rfl rfl rfl) ?_
 refine RQ (ok_bin rfl rfl rfl) ?_; refine RZ (.bool false) (by rfl) ?_
 refine RP rfl rfl ?_
 refine RM rfl ?_
 refine RQ (ok_move rfl) ?_
 refine RQ (ok_bin rfl rfl rfl) ?_; refine RZ (.bool false) (by rfl) ?_
 refine RP rfl rfl ?_
 refine RM rfl ?_
 refine RQ (ok_move rfl) ?_
 refine RQ (ok_bin rfl rfl rfl) ?_; refine RZ (.bool false) (by rfl) ?_
 refine RP rfl rfl ?_
 refine RM rfl ?_
 refine RQ (ok_move rfl) ?_
 refine RQ (ok_bin rfl rfl rfl) ?_; refine RZ (.bool false) (by rfl) ?_
 refine RP rfl rfl ?_
 refine RN ?_
 refine A.sub (KC 1 rfl (KC 70 rfl (KC 1000001 rfl (KC 1000002 rfl (KC 1000004 rfl (KC 1000006 rfl (KC 1000008 rfl (KC 1000010 rfl (KC 1900000 rfl (KC 1900001 rfl (KC 1900002 rfl KN))))))))))) ?_
 refine A.no rfl ?_
 refine A.skip ?_
 refine EN ?_
 refine GS ?_
 refine TL ?_
 refine RS (ok_callM (Sound_nil 1 (by decide) (by decide) [] (fun c hc => by cases hc) (by decide) rfl) (Sub.cons rfl (Sub.cons rfl (Sub.cons rfl KN))) tabN_v (Args.cons rfl (Le.refl _) (Args.cons rfl rowLg_nil Args.nil))) ?_
 refine RM rfl ?_
 refine RS (ok_extractV rfl rfl) ?_
 refine RS (ok_extractV rfl rfl) ?_
 refine RA rfl ?_
 refine RA rfl ?_
 refine RN ?_
 refine GD ?_
 refine TL ?_
 refine RS (ok_loadA (s := 1000001) (by decide) Tryd.underlying30 rfl (size30.of ((cfit 1 4 7 rfl rfl).len)) rfl rfl) ?_
 refine RS (ok_call (r15_fn) Args.nil) ?_
 refine RS (ok_litS [(0, aggV ((digS 1).map byteV)), (1, nQ 5), (2, nQ 7)] (CelT.v ⟨(digS 1), 5, 7⟩) ⟨rfl, rfl, rfl, rfl, rfl, rfl, trivial⟩ (buildC _ _ _ (digS_len _))) ?_
 refine RS (ok_call (Follows_fn ⟨digS 1, 4, 7⟩ ⟨digS 1, 5, 7⟩ (cfit 1 4 7 rfl rfl) (cfit 1 5 7 rfl rfl)) (A2 rfl rfl)) ?_; refine RZ (.int .u8 1) (congrArg (fun n : Nat => Value.int .u8 (n : Int)) (show CelT.fol ⟨digS 1, 4, 7⟩ ⟨digS 1, 5, 7⟩ = 1 from CelT.fol_one rfl rfl)) ?_
 refine RBS rfl rfl rfl (.bool true) (by rfl) ?_
 refine RM rfl ?_
 refine RQ (ok_loadA (s := 1000001) (by decide) Tryd.underlying30 rfl (size30.of ((cfit 1 4 7 rfl rfl).len)) rfl rfl) ?_
 refine RQ (ok_call (r15_fn) Args.nil) ?_
 refine RQ (ok_litS [(0, aggV ((digS 1).map byteV)), (1, nQ 5), (2, nQ 8)] (CelT.v ⟨(digS 1), 5, 8⟩) ⟨rfl, rfl, rfl, rfl, rfl, rfl, trivial⟩ (buildC _ _ _ (digS_len _))) ?_
 refine RQ (ok_call (Follows_fn ⟨digS 1, 4, 7⟩ ⟨digS 1, 5, 8⟩ (cfit 1 4 7 rfl rfl) (cfit 1 5 8 rfl rfl)) (A2 rfl rfl)) ?_; refine RZ (.int .u8 0) (congrArg (fun n : Nat => Value.int .u8 (n : Int)) (show CelT.fol ⟨digS 1, 4, 7⟩ ⟨digS 1, 5, 8⟩ = 0 from CelT.fol_no (fun h => absurd (show 7 = 8 from h.2) (by decide)) fun h => absurd (show 4 = 5 from h.1) (by decide))) ?_
 refine RQ (ok_bin rfl rfl rfl) ?_; refine RZ (.bool true) (by rfl) ?_
 refine RP rfl rfl ?_
 refine RM rfl ?_
 refine RQ (ok_loadA (s := 1000001) (by decide) Tryd.underlying30 rfl (size30.of ((cfit 1 4 7 rfl rfl).len)) rfl rfl) ?_
 refine RQ (ok_call (s15_fn) Args.nil) ?_
 refine RQ (ok_litS [(0, aggV ((digS 2).map byteV)), (1, nQ 4), (2, nQ 8)] (CelT.v ⟨(digS 2), 4, 8⟩) ⟨rfl, rfl, rfl, rfl, rfl, rfl, trivial⟩ (buildC _ _ _ (digS_len _))) ?_
 refine RQ (ok_call (Follows_fn ⟨digS 1, 4, 7⟩ ⟨digS 2, 4, 8⟩ (cfit 1 4 7 rfl rfl) (cfit 2 4 8 rfl rfl)) (A2 rfl rfl)) ?_; refine RZ (.int .u8 0) (congrArg (fun n : Nat => Value.int .u8 (n : Int)) (show CelT.fol ⟨digS 1, 4, 7⟩ ⟨digS 2, 4, 8⟩ = 0 from CelT.fol_no (fun h => absurd (show 4 + 1 = 4 from h.1) (by decide)) fun h => digS_12 h.2.1)) ?_
 refine RQ (ok_bin rfl rfl rfl) ?_; refine RZ (.bool true) (by rfl) ?_
 refine RP rfl rfl ?_
 refine RM rfl ?_
 refine RQ (ok_litS [(1, nQ 5)] (CelT.v ⟨zD, 5, 0⟩) ⟨rfl, rfl, trivial⟩ (buildE _)) ?_
 refine RQ (ok_call (Slot_fn ⟨zD, 5, 0⟩ (zfit 5 0 rfl rfl)) (A1 rfl)) ?_; refine RZ (nI (1)) (by rfl) ?_
 refine RQ (ok_bin rfl rfl rfl) ?_; refine RZ (.bool true) (by rfl) ?_
 refine RP rfl rfl ?_
 refine RM rfl ?_
 refine RQ (ok_move rfl) ?_
 refine RQ (ok_bin rfl rfl rfl) ?_; refine RZ (.bool true) (by rfl) ?_
 refine RP rfl rfl ?_
 refine RA rfl ?_
 refine RN ?_
 refine A.sub (KC 0 rfl (KC 1000001 rfl (KC 1000002 rfl (KC 1000004 rfl (KC 1000006 rfl (KC 1000008 rfl (KC 1000010 rfl (KC 1900000 rfl (KC 1900001 rfl (KC 1900002 rfl KN)))))))))) ?_
 refine A.ret ?_
 exact End.ret1 rfl rfl (by first | exact Le.refl _ | exact Le.old _ _)
set_option maxHeartbeats 4000000 in
theorem LOf_fn (k : Nat) (hk : k < 65536) (q : List S2)  : Fn Tryd.prog 19 [tlD [.int .u16 (k : Int)] (rowD q.length (s2R q))] (tup [.v (nI (nn k)), rowLg (lgL (nn k) q).length (celsV (lgL (nn k) q))]) := by
 refine Fn.of Tryd.func19 rfl (by kernel_rfl) Tryd.ntmps19 (by simp) (fun w => [(0, old w.heap.size (tlD [.int .u16 (k : Int)] (rowD q.length (s2R q))))]) (fun w => (Start.old rfl Start.nil)) fun w₀ => ?_
 refine A.nameTlR (t := 0) (k := 1000200) rfl fun A₀ m => ?_
 obtain ⟨n, hn⟩ : ∃ n, n = nn k := ⟨_, rfl⟩
 have h1 : 1 ≤ n := hn ▸ nn1 k
 have h2 : n ≤ 4096 := hn ▸ nn2 k
 rw [← hn]
 refine GS ?_
 refine TN 0 ?_
 refine RN ?_
 refine ⟨_, _, eff_box (n := 73) (d := 1) (k := 1000001) rfl (by decide), fun b1 hb1 => ?_⟩
 have hBb1 := hb1.1
 refine TL ?_
 refine RA rfl ?_
 refine RA rfl ?_
 refine RN ?_
 refine GS ?_
 refine TL ?_
 refine RS (ok_field field49_0 (by decide) rfl) ?_
 refine RS (ok_loadP (s := 1000001) (by decide) Tryd.underlying24 rfl size24 rfl rfl (by simp) (rfl)) ?_
 refine RS (ok_call (NOf_fn k hk) (A1 rfl)) ?_; refine RZ (nI (n)) (by rw [hn]) ?_
 refine RA rfl ?_
 refine RN ?_
 refine GS ?_
 refine TN 2 ?_
 refine RM rfl ?_
 refine RS (ok_call (rFresh_fn n h1 h2) (A1 rfl)) ?_
 refine RN ?_
 refine ⟨_, _, eff_alloc (n := 73) (d := 5) (k := 1000005) zero30 (by decide), fun b5 hb5 => ?_⟩
 have hBb5 := hb5.1
 refine TF 3 ?_
 refine RN ?_
 refine ⟨_, eff_storeA (n := 73) (s := 1000005) (size30.of ((frC_fit n).len)) rfl rfl (CelT.one _) hBb5 rfl (by rw [(frC_fit n).len]; rfl) (LV 1 rfl (LV 4 rfl (LV 5 rfl (LT 1000001 rfl (LO 1000200 rfl LN))))), ?_⟩
 refine TL ?_
 refine RN ?_
 refine GS ?_
 refine TL ?_
 refine RS (ok_loadA (s := 1000005) (by decide) Tryd.underlying30 rfl (size30.of ((frC_fit n).len)) rfl rfl) ?_
 refine RS (OpOk.raise (k := 1000005) (by decide) rfl (ok_build1O Tryd.underlying51 infoC rfl (by decide) (by decide) rfl (frC_fit n).len)) ?_
 refine RA rfl ?_
 refine RN ?_
 refine A.seq ?_
 refine GS ?_
 refine TL ?_
 refine RA rfl ?_
 refine RN ?_
 refine A.block ?_
 refine A.loop (ι := Nat) (fun i => i ≤ min q.length 40) (fun i => [(1, .v (ptr b1)), (4, .v (nI (n))), (5, .v (ptr b5)), (1000001, blk b1 49 [.int .u16 (k : Int), .slice A₀ q.length m]), (1000005, blk b5 30 (lgN n q i).v), (1000200, old w₀.heap.size (memR A₀ (s2R q))), (6, ownP (b5 + 1) 30 34 (i + 1) (celsV (lgP n q (i + 1)))), (7, .v (nI (i)))]) (fun i => 40 - i) 0 ?_ ?_ ?_
 ·exact Nat.zero_le _
 ·exact (KC 1 rfl (KC 4 rfl (KC 5 rfl (KC 1000001 rfl (KE 1000005 rfl (by rfl) (KC 1000200 rfl (KE 6 rfl (congrArg (ownP (b5 + 1) 30 34 1) (by simp [lgP, lgN])) (KE 7 rfl (by rfl) KN))))))))
 intro i hi'
 refine A.seq ?_
 rcases Bool.eq_false_or_eq_true (decide (i < q.length)) with hsp | hsp
 ·refine GS ?_
  refine TL ?_
  refine RM rfl ?_
  refine RS (ok_field field49_1 (by decide) rfl) ?_
  refine RS (ok_loadV (s := 1000001) (by decide) Tryd.underlying47 rfl rfl rfl (rfl)) ?_
  refine RS (ok_lenV Tryd.underlying47 rfl) ?_
  refine RBS rfl rfl rfl (.bool true) (congrArg Value.bool (by simpa using hsp)) ?_
  refine RM rfl ?_
  refine RQ (ok_move rfl) ?_
  refine RQ (ok_bin rfl rfl rfl) ?_
  refine RP rfl rfl ?_; refine RZ (.bool (decide (i < min q.length 40))) (congrArg Value.bool (by first | (exact (decide_eq_decide.2 (by have := of_decide_eq_true hsp; omega))) | (exact (decide_eq_false (by have := of_decide_eq_false hsp; omega)).symm))) ?_
  refine RN ?_
  refine A.cond rfl (fun hc23 => ?_) (fun hc23 => ?_)
  ·have hi40 : i < min q.length 40 := of_decide_eq_true hc23
   have hi : i < q.length := by omega
   obtain ⟨hb1, hb2, hb3⟩ := lg_bd n q i
   refine A.skip ?_
   refine EN ?_
   refine A.seq ?_
   refine A.block ?_
   refine A.seq ?_
   refine GS ?_
   refine TL ?_
   refine RS (ok_field field49_1 (by decide) rfl) ?_
   refine RS (ok_loadV (s := 1000001) (by decide) Tryd.underlying47 rfl rfl rfl (rfl)) ?_
   refine RM rfl ?_
   refine RS (ok_indexR (s := 1000200) i Tryd.underlying47 infoW rfl rfl (by decide) rfl hi (by rw [s2R_len]; omega)) ?_
   refine RS (ok_indexEP 0 Tryd.underlying50 info5 rfl rfl (by decide)) ?_
   refine RS (ok_loadP1 (u := byteV (s2At q i).1) (us := [byteV (s2At q i).2]) Tryd.underlying5 rfl (by show some (elemP _) = _; rw [s2R_at hi]; rfl)) ?_
   refine RS (ok_rem rfl rfl (by decide)) ?_; refine RZ (nB ((s2At q i).1.toNat % 2)) (by rw [tmod_lit _ (by decide)]; rfl) ?_
   refine RB rfl rfl rfl ?_
   refine RN ?_
   refine A.cond rfl (fun hc33 => ?_) (fun hc33 => ?_)
   ·have hy : (s2At q i).1.toNat % 2 = 1 := by simp at hc33; omega
    refine GS ?_
    refine TF 4 ?_
    refine RS (ok_field field30_1 (by decide) rfl) ?_
    refine RS (ok_loadV (s := 1000005) (by decide) Tryd.underlying28 rfl rfl rfl ((lg_fit n q (i := i) (by omega)).ve)) ?_
    refine RBS rfl rfl rfl (nQ ((lgN n q i).e + 1)) (congrArg (Value.int .u64) (by rw [show ((lgN n q i).e : Int) + 1 = (((lgN n q i).e + 1 : Nat) : Int) from rfl]; exact wrapN_u64 (by omega))) ?_
    refine RS (ok_field field30_1 (by decide) rfl) ?_
    refine RN ?_
    refine ⟨_, eff_storeS (n := 73) (s := 1000005) info28 rfl rfl rfl hBb5 rfl (by simp only [(lg_fit n q (i := i) (by omega)).len]; decide) (LV 1 rfl (LV 4 rfl (LV 5 rfl (LeftS.cons (t := 6) rfl (Surv.ownPB (by omega)) (LV 7 rfl (LT 1000001 rfl (LO 1000200 rfl LN))))))), ?_⟩
    refine TL ?_
    refine RN ?_
    refine A.sub (KC 1 rfl (KC 4 rfl (KC 5 rfl (KC 6 rfl (KC 7 rfl (KC 1000001 rfl (KE 1000005 rfl (show _ = blk b5 30 (⟨(lgN n q i).t, (lgN n q i).e + 1, (lgN n q i).m⟩ : CelT).v from congrArg _ (set_e (lg_fit n q (i := i) (by omega)) _)) (KC 1000200 rfl KN)))))))) ?_
    refine GE ?_
    refine TF 8 ?_
    refine RS (ok_field field49_1 (by decide) rfl) ?_
    refine RS (ok_loadV (s := 1000001) (by decide) Tryd.underlying47 rfl rfl rfl (rfl)) ?_
    refine RM rfl ?_
    refine RS (ok_indexR (s := 1000200) i Tryd.underlying47 infoW rfl rfl (by decide) rfl hi (by rw [s2R_len]; omega)) ?_
    refine RS (ok_indexEP 1 Tryd.underlying50 info5 rfl rfl (by decide)) ?_
    refine RS (ok_loadP1 (u := byteV (s2At q i).2) (us := []) Tryd.underlying5 rfl (by show some (elemP _) = _; rw [s2R_at hi]; rfl)) ?_
    refine RS (ok_call (lDigest_fn (s2At q i).2) (A1 rfl)) ?_
    refine RS (ok_field field30_0 (by decide) rfl) ?_
    refine RN ?_
    refine ⟨_, eff_storeP (n := 73) (s := 1000005) (size27.of (by rw [List.length_map, digS_len])) rfl rfl (all_bytes _) hBb5 rfl (by rw [show (CelT.v (⟨(lgN n q i).t, (lgN n q i).e + 1, (lgN n q i).m⟩ : CelT)).length = 34 from cel_len (lg_fit n q (i := i) (by omega)).t _ _]; simp [digS_len]) (LV 1 rfl (LV 4 rfl (LV 5 rfl (LeftS.cons (t := 6) rfl (Surv.ownPB (by omega)) (LV 7 rfl (LT 1000001 rfl (LO 1000200 rfl LN))))))), ?_⟩
    refine TL ?_
    refine RN ?_
    refine End.sub (KC 1 rfl (KC 4 rfl (KC 5 rfl (KC 6 rfl (KC 7 rfl (KC 1000001 rfl (KE 1000005 rfl (show _ = blk b5 30 (lgN n q (i + 1)).v from congrArg _ ((cel_set0 _ _ (digS_len _) (lg_fit n q (i := i) (by omega)).t).trans (congrArg CelT.v (step_y hy).symm))) (KC 1000200 rfl KN)))))))) ?_
    refine EN ?_
    refine GE ?_
    refine TF 3 ?_
    refine RM rfl ?_
    refine RS (ok_loadA (s := 1000005) (by decide) Tryd.underlying30 rfl (size30.of ((lg_fit n q (i := i + 1) (by omega)).len)) rfl rfl) ?_
    refine RS (ok_build1K Tryd.underlying51 infoC rfl (by decide) (by decide) rfl (lg_fit n q (i := i + 1) (by omega)).len) ?_
    refine RN ?_
    refine ⟨_, Eff.raise (k := 1000005) rfl hBb5 (eff_appendP Tryd.underlying51 infoC (by decide) (by decide) rfl rfl rfl (lg_fit n q (i := i + 1) (by omega)).len (CelT.one _) (by omega) (by decide) (fun g hg => (LV 1 rfl (LV 4 rfl (LV 5 rfl (LV 7 rfl (LT 1000001 rfl (LB 1000005 rfl (LO 1000200 rfl LN))))))))), ?_⟩
    refine TL ?_
    refine RA rfl ?_
    refine RN ?_
    refine End.normal_block ?_
    refine EN ?_
    refine GE ?_
    refine TL ?_
    refine RM rfl ?_
    refine RBS rfl rfl rfl (nI (i + 1)) (wrap_eq (by omega) (by omega)) ?_
    refine RA rfl ?_
    refine RN ?_
    refine End.normal_then ?_
    refine End.again (i + 1) ?_ ?_ ?_
    ·show _ ≤ _; omega
    ·show _ - _ < _ - _; omega
    ·exact (KC 1 rfl (KC 4 rfl (KC 5 rfl (KC 1000001 rfl (KC 1000005 rfl (KC 1000200 rfl (KE 6 rfl (congrArg (ownP (b5 + 1) 30 34 (i + 1 + 1)) (lgP_succ n q (i + 1))) (KC 7 rfl KN))))))))
   ·have hy : ¬ (s2At q i).1.toNat % 2 = 1 := by simp at hc33; omega
    refine A.reg (by kernel_rfl) (by kernel_rfl) (.inr (by kernel_rfl)) ?_
    refine TD 21 ?_
    refine RS (ok_field field30_2 (by decide) rfl) ?_
    refine RS (ok_loadV (s := 1000005) (by decide) Tryd.underlying28 rfl rfl rfl ((lg_fit n q (i := i) (by omega)).vm)) ?_
    refine RS (ok_field field49_1 (by decide) rfl) ?_
    refine RS (ok_loadV (s := 1000001) (by decide) Tryd.underlying47 rfl rfl rfl (rfl)) ?_
    refine RM rfl ?_
    refine RS (ok_indexR (s := 1000200) i Tryd.underlying47 infoW rfl rfl (by decide) rfl hi (by rw [s2R_len]; omega)) ?_
    refine RS (ok_indexEP 1 Tryd.underlying50 info5 rfl rfl (by decide)) ?_
    refine RS (ok_loadP1 (u := byteV (s2At q i).2) (us := []) Tryd.underlying5 rfl (by show some (elemP _) = _; rw [s2R_at hi]; rfl)) ?_
    refine RS (ok_conv Tryd.underlying5 Tryd.underlying28 rfl) ?_; refine RZ (nQ ((s2At q i).2.toNat)) (congrArg (Value.int .u64) (wrapN_u64 (by have := (s2At q i).2.toNat_lt; omega))) ?_
    refine RS (ok_field field49_1 (by decide) rfl) ?_
    refine RS (ok_loadV (s := 1000001) (by decide) Tryd.underlying47 rfl rfl rfl (rfl)) ?_
    refine RM rfl ?_
    refine RS (ok_indexR (s := 1000200) i Tryd.underlying47 infoW rfl rfl (by decide) rfl hi (by rw [s2R_len]; omega)) ?_
    refine RS (ok_indexEP 0 Tryd.underlying50 info5 rfl rfl (by decide)) ?_
    refine RS (ok_loadP1 (u := byteV (s2At q i).1) (us := [byteV (s2At q i).2]) Tryd.underlying5 rfl (by show some (elemP _) = _; rw [s2R_at hi]; rfl)) ?_
    refine RS (ok_div rfl rfl (by decide)) ?_; refine RZ (nB ((s2At q i).1.toNat / 2)) (by rw [tdiv_lit _ (by decide), show Int.toNat 2 = 2 from rfl]; exact congrArg (Value.int .u8) (wrap_u8 (by omega) (by have := (s2At q i).1.toNat_lt; omega))) ?_
    refine RS (ok_rem rfl rfl (by decide)) ?_; refine RZ (nB ((s2At q i).1.toNat / 2 % 40)) (by rw [tmod_lit _ (by decide)]; rfl) ?_
    refine RS (ok_shl rfl rfl (by omega)) ?_; refine RZ (nQ ((s2At q i).2.toNat * 2 ^ ((s2At q i).1.toNat / 2 % 40))) (shl_u64 _ _ (by omega) (by have := pw_le (s2At q i); omega)) ?_
    refine RBS rfl rfl rfl (nQ (1 + (s2At q i).2.toNat * 2 ^ ((s2At q i).1.toNat / 2 % 40))) (congrArg (Value.int .u64) (by rw [Int.add_comm, show (((s2At q i).2.toNat * 2 ^ ((s2At q i).1.toNat / 2 % 40) : Nat) : Int) + 1 = ((1 + (s2At q i).2.toNat * 2 ^ ((s2At q i).1.toNat / 2 % 40) : Nat) : Int) from by omega]; exact wrapN_u64 (by have := pw_le (s2At q i); omega))) ?_
    refine RBS rfl rfl rfl (nQ ((lgN n q i).m + (1 + (s2At q i).2.toNat * 2 ^ ((s2At q i).1.toNat / 2 % 40)))) (congrArg (Value.int .u64) (by rw [← Int.natCast_add]; exact wrapN_u64 (by have := pw_le (s2At q i); omega))) ?_
    refine RS (ok_field field30_2 (by decide) rfl) ?_
    refine RN ?_
    refine ⟨_, eff_storeS (n := 73) (s := 1000005) info28 rfl rfl rfl hBb5 rfl (by simp only [(lg_fit n q (i := i) (by omega)).len]; decide) (LV 1 rfl (LV 4 rfl (LV 5 rfl (LeftS.cons (t := 6) rfl (Surv.ownPB (by omega)) (LV 7 rfl (LT 1000001 rfl (LO 1000200 rfl LN))))))), ?_⟩
    refine TL ?_
    refine RN ?_
    refine End.sub (KC 1 rfl (KC 4 rfl (KC 5 rfl (KC 6 rfl (KC 7 rfl (KC 1000001 rfl (KE 1000005 rfl (show _ = blk b5 30 (lgN n q (i + 1)).v from congrArg _ ((set_m (lg_fit n q (i := i) (by omega)) _).trans (congrArg CelT.v (step_n hy).symm))) (KC 1000200 rfl KN)))))))) ?_
    refine EN ?_
    refine GE ?_
    refine TF 3 ?_
    refine RM rfl ?_
    refine RS (ok_loadA (s := 1000005) (by decide) Tryd.underlying30 rfl (size30.of ((lg_fit n q (i := i + 1) (by omega)).len)) rfl rfl) ?_
    refine RS (ok_build1K Tryd.underlying51 infoC rfl (by decide) (by decide) rfl (lg_fit n q (i := i + 1) (by omega)).len) ?_
    refine RN ?_
    refine ⟨_, Eff.raise (k := 1000005) rfl hBb5 (eff_appendP Tryd.underlying51 infoC (by decide) (by decide) rfl rfl rfl (lg_fit n q (i := i + 1) (by omega)).len (CelT.one _) (by omega) (by decide) (fun g hg => (LV 1 rfl (LV 4 rfl (LV 5 rfl (LV 7 rfl (LT 1000001 rfl (LB 1000005 rfl (LO 1000200 rfl LN))))))))), ?_⟩
    refine TL ?_
    refine RA rfl ?_
    refine RN ?_
    refine End.normal_block ?_
    refine EN ?_
    refine GE ?_
    refine TL ?_
    refine RM rfl ?_
    refine RBS rfl rfl rfl (nI (i + 1)) (wrap_eq (by omega) (by omega)) ?_
    refine RA rfl ?_
    refine RN ?_
    refine End.normal_then ?_
    refine End.again (i + 1) ?_ ?_ ?_
    ·show _ ≤ _; omega
    ·show _ - _ < _ - _; omega
    ·exact (KC 1 rfl (KC 4 rfl (KC 5 rfl (KC 1000001 rfl (KC 1000005 rfl (KC 1000200 rfl (KE 6 rfl (congrArg (ownP (b5 + 1) 30 34 (i + 1 + 1)) (lgP_succ n q (i + 1))) (KC 7 rfl KN))))))))
  ·have hi2 : i = min q.length 40 := by have := of_decide_eq_false hc23; omega
   refine A.exit ?_
   refine End.exit_then ?_
   refine End.exit_then ?_
   refine End.exit_here ?_
   refine EN ?_
   refine GS ?_
   refine TL ?_
   refine RM rfl ?_
   refine RM rfl ?_
   refine RA rfl ?_
   refine RA rfl ?_
   refine RN ?_
   refine A.ret ?_
   exact End.ret2 rfl rfl (Le.refl _) rfl (by subst hi2; exact ownP_rowLg.trans (Le.eq (by rw [lgL_len]; rfl)))
 ·refine GS ?_
  refine TL ?_
  refine RM rfl ?_
  refine RS (ok_field field49_1 (by decide) rfl) ?_
  refine RS (ok_loadV (s := 1000001) (by decide) Tryd.underlying47 rfl rfl rfl (rfl)) ?_
  refine RS (ok_lenV Tryd.underlying47 rfl) ?_
  refine RBS rfl rfl rfl (.bool false) (congrArg Value.bool (by simpa using hsp)) ?_
  refine RM rfl ?_
  refine RK ?_
  refine RK ?_
  refine RP rfl rfl ?_; refine RZ (.bool (decide (i < min q.length 40))) (congrArg Value.bool (by first | (exact (decide_eq_decide.2 (by have := of_decide_eq_true hsp; omega))) | (exact (decide_eq_false (by have := of_decide_eq_false hsp; omega)).symm))) ?_
  refine RN ?_
  refine A.cond rfl (fun hc23 => ?_) (fun hc23 => ?_)
  ·have hi40 : i < min q.length 40 := of_decide_eq_true hc23
   have hi : i < q.length := by omega
   obtain ⟨hb1, hb2, hb3⟩ := lg_bd n q i
   refine A.skip ?_
   refine EN ?_
   refine A.seq ?_
   refine A.block ?_
   refine A.seq ?_
   refine GS ?_
   refine TL ?_
   refine RS (ok_field field49_1 (by decide) rfl) ?_
   refine RS (ok_loadV (s := 1000001) (by decide) Tryd.underlying47 rfl rfl rfl (rfl)) ?_
   refine RM rfl ?_
   refine RS (ok_indexR (s := 1000200) i Tryd.underlying47 infoW rfl rfl (by decide) rfl hi (by rw [s2R_len]; omega)) ?_
   refine RS (ok_indexEP 0 Tryd.underlying50 info5 rfl rfl (by decide)) ?_
   refine RS (ok_loadP1 (u := byteV (s2At q i).1) (us := [byteV (s2At q i).2]) Tryd.underlying5 rfl (by show some (elemP _) = _; rw [s2R_at hi]; rfl)) ?_
   refine RS (ok_rem rfl rfl (by decide)) ?_; refine RZ (nB ((s2At q i).1.toNat % 2)) (by rw [tmod_lit _ (by decide)]; rfl) ?_
   refine RB rfl rfl rfl ?_
   refine RN ?_
   refine A.cond rfl (fun hc33 => ?_) (fun hc33 => ?_)
   ·have hy : (s2At q i).1.toNat % 2 = 1 := by simp at hc33; omega
    refine GS ?_
    refine TF 4 ?_
    refine RS (ok_field field30_1 (by decide) rfl) ?_
    refine RS (ok_loadV (s := 1000005) (by decide) Tryd.underlying28 rfl rfl rfl ((lg_fit n q (i := i) (by omega)).ve)) ?_
    refine RBS rfl rfl rfl (nQ ((lgN n q i).e + 1)) (congrArg (Value.int .u64) (by rw [show ((lgN n q i).e : Int) + 1 = (((lgN n q i).e + 1 : Nat) : Int) from rfl]; exact wrapN_u64 (by omega))) ?_
    refine RS (ok_field field30_1 (by decide) rfl) ?_
    refine RN ?_
    refine ⟨_, eff_storeS (n := 73) (s := 1000005) info28 rfl rfl rfl hBb5 rfl (by simp only [(lg_fit n q (i := i) (by omega)).len]; decide) (LV 1 rfl (LV 4 rfl (LV 5 rfl (LeftS.cons (t := 6) rfl (Surv.ownPB (by omega)) (LV 7 rfl (LT 1000001 rfl (LO 1000200 rfl LN))))))), ?_⟩
    refine TL ?_
    refine RN ?_
    refine A.sub (KC 1 rfl (KC 4 rfl (KC 5 rfl (KC 6 rfl (KC 7 rfl (KC 1000001 rfl (KE 1000005 rfl (show _ = blk b5 30 (⟨(lgN n q i).t, (lgN n q i).e + 1, (lgN n q i).m⟩ : CelT).v from congrArg _ (set_e (lg_fit n q (i := i) (by omega)) _)) (KC 1000200 rfl KN)))))))) ?_
    refine GE ?_
    refine TF 8 ?_
    refine RS (ok_field field49_1 (by decide) rfl) ?_
    refine RS (ok_loadV (s := 1000001) (by decide) Tryd.underlying47 rfl rfl rfl (rfl)) ?_
    refine RM rfl ?_
    refine RS (ok_indexR (s := 1000200) i Tryd.underlying47 infoW rfl rfl (by decide) rfl hi (by rw [s2R_len]; omega)) ?_
    refine RS (ok_indexEP 1 Tryd.underlying50 info5 rfl rfl (by decide)) ?_
    refine RS (ok_loadP1 (u := byteV (s2At q i).2) (us := []) Tryd.underlying5 rfl (by show some (elemP _) = _; rw [s2R_at hi]; rfl)) ?_
    refine RS (ok_call (lDigest_fn (s2At q i).2) (A1 rfl)) ?_
    refine RS (ok_field field30_0 (by decide) rfl) ?_
    refine RN ?_
    refine ⟨_, eff_storeP (n := 73) (s := 1000005) (size27.of (by rw [List.length_map, digS_len])) rfl rfl (all_bytes _) hBb5 rfl (by rw [show (CelT.v (⟨(lgN n q i).t, (lgN n q i).e + 1, (lgN n q i).m⟩ : CelT)).length = 34 from cel_len (lg_fit n q (i := i) (by omega)).t _ _]; simp [digS_len]) (LV 1 rfl (LV 4 rfl (LV 5 rfl (LeftS.cons (t := 6) rfl (Surv.ownPB (by omega)) (LV 7 rfl (LT 1000001 rfl (LO 1000200 rfl LN))))))), ?_⟩
    refine TL ?_
    refine RN ?_
    refine End.sub (KC 1 rfl (KC 4 rfl (KC 5 rfl (KC 6 rfl (KC 7 rfl (KC 1000001 rfl (KE 1000005 rfl (show _ = blk b5 30 (lgN n q (i + 1)).v from congrArg _ ((cel_set0 _ _ (digS_len _) (lg_fit n q (i := i) (by omega)).t).trans (congrArg CelT.v (step_y hy).symm))) (KC 1000200 rfl KN)))))))) ?_
    refine EN ?_
    refine GE ?_
    refine TF 3 ?_
    refine RM rfl ?_
    refine RS (ok_loadA (s := 1000005) (by decide) Tryd.underlying30 rfl (size30.of ((lg_fit n q (i := i + 1) (by omega)).len)) rfl rfl) ?_
    refine RS (ok_build1K Tryd.underlying51 infoC rfl (by decide) (by decide) rfl (lg_fit n q (i := i + 1) (by omega)).len) ?_
    refine RN ?_
    refine ⟨_, Eff.raise (k := 1000005) rfl hBb5 (eff_appendP Tryd.underlying51 infoC (by decide) (by decide) rfl rfl rfl (lg_fit n q (i := i + 1) (by omega)).len (CelT.one _) (by omega) (by decide) (fun g hg => (LV 1 rfl (LV 4 rfl (LV 5 rfl (LV 7 rfl (LT 1000001 rfl (LB 1000005 rfl (LO 1000200 rfl LN))))))))), ?_⟩
    refine TL ?_
    refine RA rfl ?_
    refine RN ?_
    refine End.normal_block ?_
    refine EN ?_
    refine GE ?_
    refine TL ?_
    refine RM rfl ?_
    refine RBS rfl rfl rfl (nI (i + 1)) (wrap_eq (by omega) (by omega)) ?_
    refine RA rfl ?_
    refine RN ?_
    refine End.normal_then ?_
    refine End.again (i + 1) ?_ ?_ ?_
    ·show _ ≤ _; omega
    ·show _ - _ < _ - _; omega
    ·exact (KC 1 rfl (KC 4 rfl (KC 5 rfl (KC 1000001 rfl (KC 1000005 rfl (KC 1000200 rfl (KE 6 rfl (congrArg (ownP (b5 + 1) 30 34 (i + 1 + 1)) (lgP_succ n q (i + 1))) (KC 7 rfl KN))))))))
   ·have hy : ¬ (s2At q i).1.toNat % 2 = 1 := by simp at hc33; omega
    refine A.reg (by kernel_rfl) (by kernel_rfl) (.inr (by kernel_rfl)) ?_
    refine TD 21 ?_
    refine RS (ok_field field30_2 (by decide) rfl) ?_
    refine RS (ok_loadV (s := 1000005) (by decide) Tryd.underlying28 rfl rfl rfl ((lg_fit n q (i := i) (by omega)).vm)) ?_
    refine RS (ok_field field49_1 (by decide) rfl) ?_
    refine RS (ok_loadV (s := 1000001) (by decide) Tryd.underlying47 rfl rfl rfl (rfl)) ?_
    refine RM rfl ?_
    refine RS (ok_indexR (s := 1000200) i Tryd.underlying47 infoW rfl rfl (by decide) rfl hi (by rw [s2R_len]; omega)) ?_
    refine RS (ok_indexEP 1 Tryd.underlying50 info5 rfl rfl (by decide)) ?_
    refine RS (ok_loadP1 (u := byteV (s2At q i).2) (us := []) Tryd.underlying5 rfl (by show some (elemP _) = _; rw [s2R_at hi]; rfl)) ?_
    refine RS (ok_conv Tryd.underlying5 Tryd.underlying28 rfl) ?_; refine RZ (nQ ((s2At q i).2.toNat)) (congrArg (Value.int .u64) (wrapN_u64 (by have := (s2At q i).2.toNat_lt; omega))) ?_
    refine RS (ok_field field49_1 (by decide) rfl) ?_
    refine RS (ok_loadV (s := 1000001) (by decide) Tryd.underlying47 rfl rfl rfl (rfl)) ?_
    refine RM rfl ?_
    refine RS (ok_indexR (s := 1000200) i Tryd.underlying47 infoW rfl rfl (by decide) rfl hi (by rw [s2R_len]; omega)) ?_
    refine RS (ok_indexEP 0 Tryd.underlying50 info5 rfl rfl (by decide)) ?_
    refine RS (ok_loadP1 (u := byteV (s2At q i).1) (us := [byteV (s2At q i).2]) Tryd.underlying5 rfl (by show some (elemP _) = _; rw [s2R_at hi]; rfl)) ?_
    refine RS (ok_div rfl rfl (by decide)) ?_; refine RZ (nB ((s2At q i).1.toNat / 2)) (by rw [tdiv_lit _ (by decide), show Int.toNat 2 = 2 from rfl]; exact congrArg (Value.int .u8) (wrap_u8 (by omega) (by have := (s2At q i).1.toNat_lt; omega))) ?_
    refine RS (ok_rem rfl rfl (by decide)) ?_; refine RZ (nB ((s2At q i).1.toNat / 2 % 40)) (by rw [tmod_lit _ (by decide)]; rfl) ?_
    refine RS (ok_shl rfl rfl (by omega)) ?_; refine RZ (nQ ((s2At q i).2.toNat * 2 ^ ((s2At q i).1.toNat / 2 % 40))) (shl_u64 _ _ (by omega) (by have := pw_le (s2At q i); omega)) ?_
    refine RBS rfl rfl rfl (nQ (1 + (s2At q i).2.toNat * 2 ^ ((s2At q i).1.toNat / 2 % 40))) (congrArg (Value.int .u64) (by rw [Int.add_comm, show (((s2At q i).2.toNat * 2 ^ ((s2At q i).1.toNat / 2 % 40) : Nat) : Int) + 1 = ((1 + (s2At q i).2.toNat * 2 ^ ((s2At q i).1.toNat / 2 % 40) : Nat) : Int) from by omega]; exact wrapN_u64 (by have := pw_le (s2At q i); omega))) ?_
    refine RBS rfl rfl rfl (nQ ((lgN n q i).m + (1 + (s2At q i).2.toNat * 2 ^ ((s2At q i).1.toNat / 2 % 40)))) (congrArg (Value.int .u64) (by rw [← Int.natCast_add]; exact wrapN_u64 (by have := pw_le (s2At q i); omega))) ?_
    refine RS (ok_field field30_2 (by decide) rfl) ?_
    refine RN ?_
    refine ⟨_, eff_storeS (n := 73) (s := 1000005) info28 rfl rfl rfl hBb5 rfl (by simp only [(lg_fit n q (i := i) (by omega)).len]; decide) (LV 1 rfl (LV 4 rfl (LV 5 rfl (LeftS.cons (t := 6) rfl (Surv.ownPB (by omega)) (LV 7 rfl (LT 1000001 rfl (LO 1000200 rfl LN))))))), ?_⟩
    refine TL ?_
    refine RN ?_
    refine End.sub (KC 1 rfl (KC 4 rfl (KC 5 rfl (KC 6 rfl (KC 7 rfl (KC 1000001 rfl (KE 1000005 rfl (show _ = blk b5 30 (lgN n q (i + 1)).v from congrArg _ ((set_m (lg_fit n q (i := i) (by omega)) _).trans (congrArg CelT.v (step_n hy).symm))) (KC 1000200 rfl KN)))))))) ?_
    refine EN ?_
    refine GE ?_
    refine TF 3 ?_
    refine RM rfl ?_
    refine RS (ok_loadA (s := 1000005) (by decide) Tryd.underlying30 rfl (size30.of ((lg_fit n q (i := i + 1) (by omega)).len)) rfl rfl) ?_
    refine RS (ok_build1K Tryd.underlying51 infoC rfl (by decide) (by decide) rfl (lg_fit n q (i := i + 1) (by omega)).len) ?_
    refine RN ?_
    refine ⟨_, Eff.raise (k := 1000005) rfl hBb5 (eff_appendP Tryd.underlying51 infoC (by decide) (by decide) rfl rfl rfl (lg_fit n q (i := i + 1) (by omega)).len (CelT.one _) (by omega) (by decide) (fun g hg => (LV 1 rfl (LV 4 rfl (LV 5 rfl (LV 7 rfl (LT 1000001 rfl (LB 1000005 rfl (LO 1000200 rfl LN))))))))), ?_⟩
    refine TL ?_
    refine RA rfl ?_
    refine RN ?_
    refine End.normal_block ?_
    refine EN ?_
    refine GE ?_
    refine TL ?_
    refine RM rfl ?_
    refine RBS rfl rfl rfl (nI (i + 1)) (wrap_eq (by omega) (by omega)) ?_
    refine RA rfl ?_
    refine RN ?_
    refine End.normal_then ?_
    refine End.again (i + 1) ?_ ?_ ?_
    ·show _ ≤ _; omega
    ·show _ - _ < _ - _; omega
    ·exact (KC 1 rfl (KC 4 rfl (KC 5 rfl (KC 1000001 rfl (KC 1000005 rfl (KC 1000200 rfl (KE 6 rfl (congrArg (ownP (b5 + 1) 30 34 (i + 1 + 1)) (lgP_succ n q (i + 1))) (KC 7 rfl KN))))))))
  ·have hi2 : i = min q.length 40 := by have := of_decide_eq_false hc23; omega
   refine A.exit ?_
   refine End.exit_then ?_
   refine End.exit_then ?_
   refine End.exit_here ?_
   refine EN ?_
   refine GS ?_
   refine TL ?_
   refine RM rfl ?_
   refine RM rfl ?_
   refine RA rfl ?_
   refine RA rfl ?_
   refine RN ?_
   refine A.ret ?_
   exact End.ret2 rfl rfl (Le.refl _) rfl (by subst hi2; exact ownP_rowLg.trans (Le.eq (by rw [lgL_len]; rfl)))
end Go.Proofs.YtfjpipkcfbmdeaaDoor
