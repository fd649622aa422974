/-
  The contracts of caissonref05: products by lists of coefficients, inverses by trying, substitutes bit by bit.
-/
import Derived.Test.YthggljahgnjcbaaScope
import Derived.Test.YthggljahgnjcbaaGf
import Derived.Test.YthggljahgnjcbaaProg
namespace Go.Proofs.Ythggljahgnjcbaa
open Go Go.RowKit
set_option linter.unusedVariables false

theorem info5 : InfoIs Try.prog 5 (.int .u8 0) 1 := by unfold InfoIs; kernel_rfl
theorem info3 : InfoIs Try.prog 3 (.int .i64 0) 8 := by unfold InfoIs; kernel_rfl
theorem info4 : InfoIs Try.prog 4 (.bool false) 1 := by unfold InfoIs; kernel_rfl
theorem info86 : InfoIs Try.prog 86 (.slice none 0 0) 24 := by unfold InfoIs; kernel_rfl
theorem zero83 : ZeroIs Try.prog 83 (List.replicate 256 (.int .u8 0)) := by unfold ZeroIs; kernel_rfl
theorem size83 : SizeIs Try.prog 83 256 := by unfold SizeIs; kernel_rfl

theorem red_yes {c m : Nat} (h : (red c m).testBit (14 - m) = true) : red c m ^^^ mask true (2 ^ (14 - m - 4)) ^^^ mask true (2 ^ (14 - m - 5)) ^^^ mask true (2 ^ (14 - m - 7)) ^^^ mask true (2 ^ (14 - m - 8)) = red c (m + 1) := by
  show _ = red c m ^^^ mask ((red c m).testBit (14 - m)) (redw (14 - m))
  rw [h]
  simp only [mask, cond_true, redw, Nat.xor_assoc]
theorem red_no {c m : Nat} (h : (red c m).testBit (14 - m) = false) : red c m = red c (m + 1) := by
  show _ = red c m ^^^ mask ((red c m).testBit (14 - m)) (redw (14 - m))
  rw [h]
  simp [mask]
theorem ginv_none {a : Nat} (ha : a < 256) (h : ∀ c, 1 ≤ c → c < 256 → gm a c ≠ 1) : 0 = ginv a := by
  by_cases h0 : a = 0
  · subst h0; exact ginv_zero.symm
  · have h1 := gm_ginv ha h0
    have h2 : ginv a ≠ 0 := fun h2 => by rw [h2, gm_zero] at h1; cases h1
    exact (h _ (by omega) (ginv_lt a) h1).elim
/-- The first k powers of 3, in a row of 256. -/
def pwV (k : Nat) : List Value := (List.range 256).map fun x => .int .u8 (((if x < k then gpow 3 x else 0 : Nat)) : Int)
theorem pwV_length (k : Nat) : (pwV k).length = 256 := by simp [pwV]
theorem pwV_get {k x : Nat} (h : x < k) (hx : x < 256) : (pwV k)[x]? = some (.int .u8 ((gpow 3 x : Nat) : Int)) := by simp [pwV, hx, h]
theorem pwV_set (k : Nat) : (pwV k).set k (.int .u8 ((gpow 3 k : Nat) : Int)) = pwV (k + 1) := by
  unfold pwV
  rw [map_set_range]
  apply List.map_congr_left
  intro x _
  by_cases hx : x = k
  · subst hx; rw [if_pos rfl, if_pos (by omega)]
  · rw [if_neg hx]
    by_cases h : x < k
    · rw [if_pos h, if_pos (by omega)]
    · rw [if_neg h, if_neg (by omega)]
theorem pwV_one : (List.replicate 256 (.int .u8 0) : List Value).set 0 (.int .u8 1) = pwV 1 := by kernel_rfl
/-- The substitutes of the first k powers of 3, each at its place. -/
def stV (k : Nat) : List Value := (List.range 256).map fun x => .int .u8 (((if isP k x then sub8 x else 0 : Nat)) : Int)
/-- All substitutes. -/
def subV : List Value := (List.range 256).map fun x => .int .u8 ((sub8 x : Nat) : Int)
theorem stV_length (k : Nat) : (stV k).length = 256 := by simp [stV]
theorem subV_length : subV.length = 256 := by simp [subV]
theorem subV_get {x : Nat} (hx : x < 256) : subV[x]? = some (.int .u8 ((sub8 x : Nat) : Int)) := by simp [subV, hx]
theorem subV_one : subV.all (·.oneCell') = true := by kernel_rfl
theorem stV_zero : (List.replicate 256 (.int .u8 0) : List Value) = stV 0 := by kernel_rfl
theorem stV_set {k : Nat} (hk : k < 255) : (stV k).set (gpow 3 k) (.int .u8 ((subst8 (gpow 3 (255 - k)) : Nat) : Int)) = stV (k + 1) := by
  rw [inv3 (by omega), sub8_eq]
  unfold stV
  rw [map_set_range]
  apply List.map_congr_left
  intro x _
  rw [isP_succ]
  by_cases hx : x = gpow 3 k
  · subst hx; simp
  · rw [if_neg hx]
    have : (gpow 3 k == x) = false := by simp [Ne.symm hx]
    rw [this, Bool.or_false]
theorem stV_full : (stV 255).set 0 (.int .u8 ((subst8 0 : Nat) : Int)) = subV := by
  unfold stV subV
  rw [map_set_range]
  apply List.map_congr_left
  intro x hx
  by_cases h0 : x = 0
  · subst h0; rw [if_pos rfl, ← sub8_eq, ginv_zero]
  · rw [if_neg h0, isP_full (by omega) (List.mem_range.1 hx) h0]; rfl

theorem coefficients_fnB (a : Nat) (ha : a < 256) : FnB Try.prog 53 [.v (.int .u8 ((a : Nat) : Int))] (fun B => own B 3 8 (bitsV 8 a)) := by
  refine FnB.of Try.func53 rfl (by kernel_rfl) Try.ntmps53 (by simp) (fun w => [(0, .v (.int .u8 ((a : Nat) : Int)))]) (fun w => (Start.v rfl Start.nil)) fun w₀ => ?_
  refine A.regs (by kernel_rfl) (by kernel_rfl) (.inl rfl) ?_
  refine RunTK.last ?_
  refine RunK.step rfl rfl (ok_assign rfl) ?_
  refine RunK.nil ?_
  refine A.sub (Sub.cons (t := 0) rfl Sub.nil) ?_
  refine A.regs (by kernel_rfl) (by kernel_rfl) (.inl rfl) ?_
  refine RunTK.last ?_
  refine RunK.step rfl rfl (ok_assign rfl) ?_
  refine RunK.nil ?_
  refine A.sub (Sub.cons (t := 0) rfl (Sub.cons (t := 3) rfl Sub.nil)) ?_
  refine A.seq ?_
  refine A.regs (by kernel_rfl) (by kernel_rfl) (.inl rfl) ?_
  refine RunTK.last ?_
  refine RunK.step rfl rfl (ok_assign rfl) ?_
  refine RunK.nil ?_
  refine A.sub (Sub.cons (t := 0) rfl (Sub.cons (t := 3) rfl (Sub.cons (t := 4) rfl Sub.nil))) ?_
  refine A.block ?_
  refine A.subL (SubL.cons (t := 0) rfl (Le.refl _) (SubL.cons (t := 3) rfl (own_nil (B := w₀.heap.size) (e := 3)) (SubL.cons (t := 4) rfl (Le.refl _) SubL.nil))) ?_
  refine A.loop (ι := Nat) (fun i => i ≤ 8) (fun i => [(0, .v (.int .u8 ((a : Nat) : Int))), (3, own w₀.heap.size 3 (i) (bitsV (i) a)), (4, .v (.int .i64 ((i : Nat) : Int)))]) (fun i => 8 - i) 0 ?_ ?_ ?_
  · exact Nat.zero_le _
  · exact (Sub.cons (t := 0) rfl (Sub.eq (t := 3) _ rfl (by simp [bitsV]) (Sub.cons (t := 4) rfl Sub.nil)))
  intro i hi
  refine A.seq ?_
  refine A.regs (by kernel_rfl) (by kernel_rfl) (.inl rfl) ?_
  refine RunTK.last ?_
  refine RunK.step rfl rfl (ok_move rfl) ?_
  refine RunK.step rfl rfl (ok_bin rfl rfl rfl) ?_
  refine RunK.nil ?_
  refine A.sub (Sub.cons (t := 0) rfl (Sub.cons (t := 3) rfl (Sub.cons (t := 4) rfl (Sub.cons (t := 6) rfl Sub.nil)))) ?_
  refine A.cond rfl (fun hc6 => ?_) (fun hc6 => ?_)
  · have hlt : i < 8 := by simp at hc6; omega
    refine A.skip ?_
    refine End.normal_then (End.code ?_)
    refine A.seq ?_
    refine A.block ?_
    refine A.reg (by kernel_rfl) (by kernel_rfl) (.inl rfl) ?_
    refine RunTK.eff 7 (by decide) rfl (.inl rfl) ?_
    refine RunK.step rfl rfl (ok_move rfl) ?_
    refine RunK.step rfl rfl (ok_move rfl) ?_
    refine RunK.step rfl rfl (ok_move rfl) ?_
    refine RunK.step rfl rfl (ok_shr rfl rfl (by omega)) ?_; refine RunK.as (.int .u8 ((a / 2 ^ (i) : Nat) : Int)) (by rw [Int.toNat_natCast, show min (i) IntKind.u8.bits = i from by simp only [IntKind.bits]; omega]; exact congrArg _ (shr_nat _ _)) ?_
    refine RunK.step rfl rfl (ok_rem rfl rfl (by decide)) ?_; refine RunK.as (.int .u8 ((a / 2 ^ i % 2 : Nat) : Int)) (by rw [tmod_lit _ (by decide)]; rfl) ?_
    refine RunK.step rfl rfl (ok_conv Try.underlying5 Try.underlying3 rfl) ?_; refine RunK.as (.int .i64 (((a.testBit i).toNat : Nat) : Int)) (by rw [wrapN_i64 (by omega), Nat.toNat_testBit]) ?_
    refine RunK.step rfl rfl (ok_build [.v (.int .i64 (((a.testBit i).toNat : Nat) : Int))] Try.underlying86 info3 rfl (by decide) (by decide) rfl ⟨rfl, rfl, trivial⟩ (fun d hd w x h => by simp only [List.mem_cons, List.not_mem_nil, or_false] at hd; rcases hd with rfl; exact v_one rfl h)) ?_
    refine RunK.nil ?_
    refine ⟨_, eff_appendS (vs := [.int .i64 (((a.testBit i).toNat : Nat) : Int)]) Try.underlying86 info3 (by decide) rfl rfl rfl (le_lst _ _) (by simp [Value.oneCell']) (by simp; omega) (by decide) (fun g hg => (LeftS.cons (t := 0) rfl (Surv.v _) (LeftS.cons (t := 4) rfl (Surv.v _) (LeftS.cons (t := 6) rfl (Surv.v _) (LeftS.cons (t := 10) rfl (Surv.v _) (LeftS.cons (t := 11) rfl (Surv.v _) (LeftS.cons (t := 12) rfl (Surv.v _) (LeftS.cons (t := 13) rfl (Surv.v _) (LeftS.cons (t := 14) rfl (Surv.v _) LeftS.nil))))))))), ?_⟩
    refine RunTK.last ?_
    refine RunK.step rfl rfl (ok_assign rfl) ?_
    refine RunK.nil ?_
    refine End.sub (Sub.cons (t := 0) rfl (Sub.cons (t := 3) rfl (Sub.cons (t := 4) rfl Sub.nil))) ?_
    refine End.normal_block ?_
    refine End.normal_then (End.code ?_)
    refine A.reg (by kernel_rfl) (by kernel_rfl) (.inl rfl) ?_
    refine RunTK.last ?_
    refine RunK.step rfl rfl (ok_move rfl) ?_
    refine RunK.step rfl rfl (ok_bin rfl rfl rfl) ?_; refine RunK.as (.int .i64 ((i + 1 : Nat) : Int)) (by rw [wrap_i64 (by omega) (by omega)]; first | rfl | (congr 1; omega)) ?_
    refine RunK.step rfl rfl (ok_assign rfl) ?_
    refine RunK.nil ?_
    refine End.sub (Sub.cons (t := 0) rfl (Sub.cons (t := 3) rfl (Sub.cons (t := 4) rfl Sub.nil))) ?_
    refine End.normal_then ?_
    refine End.again (i + 1) ?_ ?_ ?_
    · show _ ≤ _; omega
    · show _ - _ < _ - _; omega
    · exact (Sub.cons (t := 0) rfl (Sub.eq (t := 3) _ rfl (by rw [bitsV_succ]; rfl) (Sub.cons (t := 4) rfl Sub.nil)))
  · obtain rfl : i = 8 := by simp at hc6; omega
    refine A.exit ?_
    refine End.exit_then ?_
    refine End.exit_then ?_
    refine End.exit_here ?_
    refine End.normal_then (End.code ?_)
    refine A.regs (by kernel_rfl) (by kernel_rfl) (.inl rfl) ?_
    refine RunTK.last ?_
    refine RunK.step rfl rfl (ok_move rfl) ?_
    refine RunK.step rfl rfl (ok_assign rfl) ?_
    refine RunK.nil ?_
    refine A.sub (Sub.cons (t := 2) rfl Sub.nil) ?_
    refine A.ret ?_
    exact End.ret1 rfl rfl (by first | exact Le.refl _ | exact Le.old _ _)
set_option maxHeartbeats 4000000 in
theorem refMul_fn (a b : Nat) (ha : a < 256) (hb : b < 256) : Fn Try.prog 48 [.v (.int .u8 ((a : Nat) : Int)), .v (.int .u8 ((b : Nat) : Int))] (.v (.int .u8 ((gm a b : Nat) : Int))) := by
  refine Fn.of Try.func48 rfl (by kernel_rfl) Try.ntmps48 (by simp) (fun w => [(0, .v (.int .u8 ((a : Nat) : Int))), (1, .v (.int .u8 ((b : Nat) : Int)))]) (fun w => (Start.v rfl (Start.v rfl Start.nil))) fun w₀ => ?_
  refine A.regs (by kernel_rfl) (by kernel_rfl) (.inl rfl) ?_
  refine RunTK.last ?_
  refine RunK.step rfl rfl (ok_assign rfl) ?_
  refine RunK.nil ?_
  refine A.sub (Sub.cons (t := 0) rfl (Sub.cons (t := 1) rfl Sub.nil)) ?_
  refine A.regs (by kernel_rfl) (by kernel_rfl) (.inl rfl) ?_
  refine RunTK.last ?_
  refine RunK.step rfl rfl (ok_make 15 Try.underlying86 info3 (by decide) rfl rfl rfl rfl rfl (by decide)) ?_
  refine RunK.step rfl rfl (ok_assign rfl) ?_
  refine RunK.nil ?_
  refine A.sub (Sub.cons (t := 0) rfl (Sub.cons (t := 1) rfl (Sub.cons (t := 5) rfl Sub.nil))) ?_
  refine A.open (t := 5) (k := 1000005) rfl fun g hBg => ?_
  refine A.regsG _ (fun B => (OldOf.v (t := 0) rfl (OldOf.v (t := 1) rfl (OldOf.v (t := 5) rfl (OldOf.p (t := 1000005) rfl OldOf.nil))))) (by kernel_rfl) (by kernel_rfl) (.inl rfl) (fun B hB => ?_)
  refine RunTK.last ?_
  refine RunK.step rfl rfl (ok_move rfl) ?_
  refine RunK.step rfl rfl (ok_callB (coefficients_fnB a ha) (fun _ _ h => own_mono h) (Args.cons rfl (Le.refl _) Args.nil)) ?_
  refine RunK.step rfl rfl (ok_move rfl) ?_
  refine RunK.step rfl rfl (ok_callB (coefficients_fnB b hb) (fun _ _ h => own_mono h) (Args.cons rfl (Le.refl _) Args.nil)) ?_
  refine RunK.step rfl rfl (ok_assign rfl) ?_
  refine RunK.step rfl rfl (ok_assign rfl) ?_
  refine RunK.nil ?_
  refine A.sub (Sub.cons (t := 5) rfl (Sub.cons (t := 6) rfl (Sub.cons (t := 7) rfl (Sub.cons (t := 1000005) rfl Sub.nil)))) ?_
  refine A.ltBlk (k := 1000005) rfl fun hgB => ?_
  refine A.away (t := 6) (g := g) (B' := w₀.heap.size) rfl hgB hB ?_
  refine A.away (t := 7) (g := g) (B' := w₀.heap.size) rfl hgB hB ?_
  refine A.subL (SubL.cons (t := 5) rfl (Le.refl _) (SubL.cons (t := 6) rfl (Le.refl _) (SubL.cons (t := 7) rfl (Le.refl _) (SubL.cons (t := 1000005) rfl (Le.old _ _) SubL.nil)))) ?_
  refine A.seq ?_
  refine A.regs (by kernel_rfl) (by kernel_rfl) (.inl rfl) ?_
  refine RunTK.last ?_
  refine RunK.step rfl rfl (ok_assign rfl) ?_
  refine RunK.nil ?_
  refine A.sub (Sub.cons (t := 5) rfl (Sub.cons (t := 6) rfl (Sub.cons (t := 7) rfl (Sub.cons (t := 8) rfl (Sub.cons (t := 1000005) rfl Sub.nil))))) ?_
  refine A.block ?_
  refine A.loop (ι := Nat) (fun i => i ≤ 8) (fun i => [(5, .v (.slice (some ⟨g, 0, none⟩) 15 15)), (6, away g w₀.heap.size 3 8 (bitsV 8 a)), (7, away g w₀.heap.size 3 8 (bitsV 8 b)), (8, .v (.int .i64 ((i : Nat) : Int))), (1000005, blk g 3 (bitsV 15 (cml a b i)))]) (fun i => 8 - i) 0 ?_ ?_ ?_
  · exact Nat.zero_le _
  · exact (Sub.cons (t := 5) rfl (Sub.cons (t := 6) rfl (Sub.cons (t := 7) rfl (Sub.cons (t := 8) rfl (Sub.eq (t := 1000005) _ rfl (by rw [show cml a b 0 = 0 from rfl, bitsV_zero]) Sub.nil)))))
  intro i hi
  refine A.seq ?_
  refine A.regs (by kernel_rfl) (by kernel_rfl) (.inl rfl) ?_
  refine RunTK.last ?_
  refine RunK.step rfl rfl (ok_move rfl) ?_
  refine RunK.step rfl rfl (ok_bin rfl rfl rfl) ?_
  refine RunK.nil ?_
  refine A.sub (Sub.cons (t := 5) rfl (Sub.cons (t := 6) rfl (Sub.cons (t := 7) rfl (Sub.cons (t := 8) rfl (Sub.cons (t := 19) rfl (Sub.cons (t := 1000005) rfl Sub.nil)))))) ?_
  refine A.cond rfl (fun hc19 => ?_) (fun hc19 => ?_)
  · have hi8 : i < 8 := by simp at hc19; omega
    refine A.skip ?_
    refine End.normal_then (End.code ?_)
    refine A.seq ?_
    refine A.block ?_
    refine A.regs (by kernel_rfl) (by kernel_rfl) (.inl rfl) ?_
    refine RunTK.last ?_
    refine RunK.step rfl rfl (ok_assign rfl) ?_
    refine RunK.nil ?_
    refine A.sub (Sub.cons (t := 5) rfl (Sub.cons (t := 6) rfl (Sub.cons (t := 7) rfl (Sub.cons (t := 8) rfl (Sub.cons (t := 9) rfl (Sub.cons (t := 1000005) rfl Sub.nil)))))) ?_
    refine A.block ?_
    refine A.loop (ι := Nat) (fun k => k ≤ 8) (fun k => [(5, .v (.slice (some ⟨g, 0, none⟩) 15 15)), (6, away g w₀.heap.size 3 8 (bitsV 8 a)), (7, away g w₀.heap.size 3 8 (bitsV 8 b)), (8, .v (.int .i64 ((i : Nat) : Int))), (9, .v (.int .i64 ((k : Nat) : Int))), (1000005, blk g 3 (bitsV 15 (cml a b i ^^^ crow a b i k)))]) (fun k => 8 - k) 0 ?_ ?_ ?_
    · exact Nat.zero_le _
    · exact (Sub.cons (t := 5) rfl (Sub.cons (t := 6) rfl (Sub.cons (t := 7) rfl (Sub.cons (t := 8) rfl (Sub.cons (t := 9) rfl (Sub.eq (t := 1000005) _ rfl (by rw [show crow a b i 0 = 0 from rfl, Nat.xor_zero]) Sub.nil))))))
    intro k hk
    refine A.seq ?_
    refine A.regs (by kernel_rfl) (by kernel_rfl) (.inl rfl) ?_
    refine RunTK.last ?_
    refine RunK.step rfl rfl (ok_move rfl) ?_
    refine RunK.step rfl rfl (ok_bin rfl rfl rfl) ?_
    refine RunK.nil ?_
    refine A.sub (Sub.cons (t := 5) rfl (Sub.cons (t := 6) rfl (Sub.cons (t := 7) rfl (Sub.cons (t := 8) rfl (Sub.cons (t := 9) rfl (Sub.cons (t := 23) rfl (Sub.cons (t := 1000005) rfl Sub.nil))))))) ?_
    refine A.cond rfl (fun hc23 => ?_) (fun hc23 => ?_)
    · have hk8 : k < 8 := by simp at hc23; omega
      have hx1 := bit_le ((cml a b i ^^^ crow a b i k).testBit (i + k))
      refine A.skip ?_
      refine End.normal_then (End.code ?_)
      refine A.seq ?_
      refine A.block ?_
      refine A.reg (by kernel_rfl) (by kernel_rfl) (.inr (by kernel_rfl)) ?_
      refine RunTK.eff 22 (by decide) rfl (.inr (by kernel_rfl)) ?_
      refine RunK.step rfl rfl (ok_move rfl) ?_
      refine RunK.step rfl rfl (ok_move rfl) ?_
      refine RunK.step rfl rfl (ok_move rfl) ?_
      refine RunK.step rfl rfl (ok_bin rfl rfl rfl) ?_; refine RunK.as (.int .i64 ((i + k : Nat) : Int)) (by rw [wrap_i64 (by omega) (by omega)]; first | rfl | (congr 1; omega)) ?_
      refine RunK.step rfl rfl (ok_move rfl) ?_
      refine RunK.step rfl rfl (ok_move rfl) ?_
      refine RunK.step rfl rfl (ok_move rfl) ?_
      refine RunK.step rfl rfl (ok_bin rfl rfl rfl) ?_; refine RunK.as (.int .i64 ((i + k : Nat) : Int)) (by rw [wrap_i64 (by omega) (by omega)]; first | rfl | (congr 1; omega)) ?_
      refine RunK.step rfl rfl (ok_indexV (i + k) Try.underlying86 info3 rfl rfl rfl (by omega)) ?_
      refine RunK.step rfl rfl (ok_loadV (s := 1000005) (by decide) Try.underlying3 rfl rfl rfl (by rw [Nat.zero_add]; exact bitsV_get (by omega))) ?_
      refine RunK.step rfl rfl (ok_move rfl) ?_
      refine RunK.step rfl rfl (ok_move rfl) ?_
      refine RunK.step rfl rfl (ok_index (d := .v (.int .i64 (((a.testBit i).toNat : Nat) : Int))) Try.underlying86 info3 rfl (away_le (bitsV_length _ _).symm) rfl (by omega) (by rw [List.getElem?_map, Int.toNat_natCast, bitsV_get (by omega)]; rfl)) ?_
      refine RunK.step rfl rfl (ok_load Try.underlying3 rfl rfl) ?_
      refine RunK.step rfl rfl (ok_move rfl) ?_
      refine RunK.step rfl rfl (ok_move rfl) ?_
      refine RunK.step rfl rfl (ok_index (d := .v (.int .i64 (((b.testBit k).toNat : Nat) : Int))) Try.underlying86 info3 rfl (away_le (bitsV_length _ _).symm) rfl (by omega) (by rw [List.getElem?_map, Int.toNat_natCast, bitsV_get (by omega)]; rfl)) ?_
      refine RunK.step rfl rfl (ok_load Try.underlying3 rfl rfl) ?_
      refine RunK.step rfl rfl (ok_bin rfl rfl rfl) ?_
      refine RunK.step rfl rfl (ok_bin rfl rfl rfl) ?_
      refine RunK.step rfl rfl (ok_rem rfl rfl (by decide)) ?_; refine RunK.as (.int .i64 ((((cml a b i ^^^ crow a b i k).testBit (i + k) ^^ (a.testBit i && b.testBit k)).toNat : Nat) : Int)) (by cases (cml a b i ^^^ crow a b i k).testBit (i + k) <;> cases a.testBit i <;> cases b.testBit k <;> rfl) ?_
      refine RunK.step rfl rfl (ok_indexV (i + k) Try.underlying86 info3 rfl rfl rfl (by omega)) ?_
      refine RunK.nil ?_
      refine ⟨_, eff_storeS (n := 110) (s := 1000005) info3 rfl rfl rfl hBg rfl (by simp only [bitsV_length]; omega) (LeftS.cons (t := 5) rfl (Surv.v _) (LeftS.cons (t := 6) rfl (Surv.away) (LeftS.cons (t := 7) rfl (Surv.away) (LeftS.cons (t := 8) rfl (Surv.v _) (LeftS.cons (t := 9) rfl (Surv.v _) (LeftS.cons (t := 23) rfl (Surv.v _) (LeftS.cons (t := 26) rfl (Surv.v _) (LeftS.cons (t := 27) rfl (Surv.v _) (LeftS.cons (t := 28) rfl (Surv.v _) (LeftS.cons (t := 29) rfl (Surv.v _) (LeftS.cons (t := 30) rfl (Surv.v _) (LeftS.cons (t := 31) rfl (Surv.v _) (LeftS.cons (t := 32) rfl (Surv.v _) (LeftS.cons (t := 33) rfl (Surv.v _) (LeftS.cons (t := 34) rfl (Surv.v _) (LeftS.cons (t := 35) rfl (Surv.v _) (LeftS.cons (t := 36) rfl (Surv.away) (LeftS.cons (t := 37) rfl (Surv.v _) (LeftS.cons (t := 39) rfl (Surv.v _) (LeftS.cons (t := 40) rfl (Surv.away) (LeftS.cons (t := 41) rfl (Surv.v _) (LeftS.cons (t := 43) rfl (Surv.v _) (LeftS.cons (t := 44) rfl (Surv.v _) (LeftS.cons (t := 45) rfl (Surv.v _) (LeftS.cons (t := 46) rfl (Surv.v _) (LeftS.cons (t := 47) rfl (Surv.v _) LeftS.nil)))))))))))))))))))))))))), ?_⟩
      refine RunTK.last ?_
      refine RunK.nil ?_
      refine End.sub (Sub.cons (t := 5) rfl (Sub.cons (t := 6) rfl (Sub.cons (t := 7) rfl (Sub.cons (t := 8) rfl (Sub.cons (t := 9) rfl (Sub.cons (t := 1000005) rfl Sub.nil)))))) ?_
      refine End.normal_block ?_
      refine End.normal_then (End.code ?_)
      refine A.reg (by kernel_rfl) (by kernel_rfl) (.inl rfl) ?_
      refine RunTK.last ?_
      refine RunK.step rfl rfl (ok_move rfl) ?_
      refine RunK.step rfl rfl (ok_bin rfl rfl rfl) ?_; refine RunK.as (.int .i64 ((k + 1 : Nat) : Int)) (by rw [wrap_i64 (by omega) (by omega)]; first | rfl | (congr 1; omega)) ?_
      refine RunK.step rfl rfl (ok_assign rfl) ?_
      refine RunK.nil ?_
      refine End.sub (Sub.cons (t := 5) rfl (Sub.cons (t := 6) rfl (Sub.cons (t := 7) rfl (Sub.cons (t := 8) rfl (Sub.cons (t := 9) rfl (Sub.cons (t := 1000005) rfl Sub.nil)))))) ?_
      refine End.normal_then ?_
      refine End.again (k + 1) ?_ ?_ ?_
      · show _ ≤ _; omega
      · show _ - _ < _ - _; omega
      · exact (Sub.cons (t := 5) rfl (Sub.cons (t := 6) rfl (Sub.cons (t := 7) rfl (Sub.cons (t := 8) rfl (Sub.cons (t := 9) rfl (Sub.eq (t := 1000005) _ rfl (congrArg _ (by rw [Nat.zero_add, show crow a b i (k + 1) = crow a b i k ^^^ mask (a.testBit i && b.testBit k) (2 ^ (i + k)) from rfl, ← Nat.xor_assoc]; exact bitsV_set rfl)) Sub.nil))))))
    · obtain rfl : k = 8 := by simp at hc23; omega
      refine A.exit ?_
      refine End.exit_then ?_
      refine End.exit_then ?_
      refine End.exit_here ?_
      refine End.normal_block ?_
      refine End.normal_then (End.code ?_)
      refine A.reg (by kernel_rfl) (by kernel_rfl) (.inl rfl) ?_
      refine RunTK.last ?_
      refine RunK.step rfl rfl (ok_move rfl) ?_
      refine RunK.step rfl rfl (ok_bin rfl rfl rfl) ?_; refine RunK.as (.int .i64 ((i + 1 : Nat) : Int)) (by rw [wrap_i64 (by omega) (by omega)]; first | rfl | (congr 1; omega)) ?_
      refine RunK.step rfl rfl (ok_assign rfl) ?_
      refine RunK.nil ?_
      refine End.sub (Sub.cons (t := 5) rfl (Sub.cons (t := 6) rfl (Sub.cons (t := 7) rfl (Sub.cons (t := 8) rfl (Sub.cons (t := 1000005) rfl Sub.nil))))) ?_
      refine End.normal_then ?_
      refine End.again (i + 1) ?_ ?_ ?_
      · show _ ≤ _; omega
      · show _ - _ < _ - _; omega
      · exact (Sub.cons (t := 5) rfl (Sub.cons (t := 6) rfl (Sub.cons (t := 7) rfl (Sub.cons (t := 8) rfl (Sub.cons (t := 1000005) rfl Sub.nil)))))
  · obtain rfl : i = 8 := by simp at hc19; omega
    refine A.exit ?_
    refine End.exit_then ?_
    refine End.exit_then ?_
    refine End.exit_here ?_
    refine End.normal_then (End.code ?_)
    refine A.seq ?_
    refine A.regs (by kernel_rfl) (by kernel_rfl) (.inl rfl) ?_
    refine RunTK.last ?_
    refine RunK.step rfl rfl (ok_assign rfl) ?_
    refine RunK.nil ?_
    refine A.sub (Sub.cons (t := 5) rfl (Sub.cons (t := 10) rfl (Sub.cons (t := 1000005) rfl Sub.nil))) ?_
    refine A.block ?_
    refine A.loop (ι := Nat) (fun m => m ≤ 7) (fun m => [(5, .v (.slice (some ⟨g, 0, none⟩) 15 15)), (10, .v (.int .i64 ((14 - m : Nat) : Int))), (1000005, blk g 3 (bitsV 15 (red (cml a b 8) m)))]) (fun m => 7 - m) 0 ?_ ?_ ?_
    · exact Nat.zero_le _
    · exact (Sub.cons (t := 5) rfl (Sub.cons (t := 10) rfl (Sub.cons (t := 1000005) rfl Sub.nil)))
    intro m hm
    refine A.seq ?_
    refine A.regs (by kernel_rfl) (by kernel_rfl) (.inl rfl) ?_
    refine RunTK.last ?_
    refine RunK.step rfl rfl (ok_move rfl) ?_
    refine RunK.step rfl rfl (ok_bin rfl rfl rfl) ?_
    refine RunK.nil ?_
    refine A.sub (Sub.cons (t := 5) rfl (Sub.cons (t := 10) rfl (Sub.cons (t := 49) rfl (Sub.cons (t := 1000005) rfl Sub.nil)))) ?_
    refine A.cond rfl (fun hc49 => ?_) (fun hc49 => ?_)
    · have hm7 : m < 7 := by simp at hc49; omega
      refine A.skip ?_
      refine End.normal_then (End.code ?_)
      refine A.seq ?_
      refine A.block ?_
      refine A.regs (by kernel_rfl) (by kernel_rfl) (.inl rfl) ?_
      refine RunTK.last ?_
      refine RunK.step rfl rfl (ok_move rfl) ?_
      refine RunK.step rfl rfl (ok_move rfl) ?_
      refine RunK.step rfl rfl (ok_indexV (14 - m) Try.underlying86 info3 rfl rfl rfl (by omega)) ?_
      refine RunK.step rfl rfl (ok_loadV (s := 1000005) (by decide) Try.underlying3 rfl rfl rfl (by rw [Nat.zero_add]; exact bitsV_get (by omega))) ?_
      refine RunK.step rfl rfl (ok_bin rfl rfl rfl) ?_
      refine RunK.nil ?_
      refine A.sub (Sub.cons (t := 5) rfl (Sub.cons (t := 10) rfl (Sub.cons (t := 56) rfl (Sub.cons (t := 1000005) rfl Sub.nil)))) ?_
      refine A.cond rfl (fun hc56 => ?_) (fun hc56 => ?_)
      · have hbit : (red (cml a b 8) m).testBit (14 - m) = true := by revert hc56; cases (red (cml a b 8) m).testBit (14 - m) <;> simp
        refine A.regs (by kernel_rfl) (by kernel_rfl) (.inl rfl) ?_
        refine RunTK.eff 10 (by decide) rfl (.inl rfl) ?_
        refine RunK.step rfl rfl (ok_move rfl) ?_
        refine RunK.step rfl rfl (ok_move rfl) ?_
        refine RunK.step rfl rfl (ok_bin rfl rfl rfl) ?_; refine RunK.as (.int .i64 ((14 - m - 4 : Nat) : Int)) (by rw [wrap_i64 (by omega) (by omega)]; first | rfl | (congr 1; omega)) ?_
        refine RunK.step rfl rfl (ok_move rfl) ?_
        refine RunK.step rfl rfl (ok_move rfl) ?_
        refine RunK.step rfl rfl (ok_bin rfl rfl rfl) ?_; refine RunK.as (.int .i64 ((14 - m - 4 : Nat) : Int)) (by rw [wrap_i64 (by omega) (by omega)]; first | rfl | (congr 1; omega)) ?_
        refine RunK.step rfl rfl (ok_indexV (14 - m - 4) Try.underlying86 info3 rfl rfl rfl (by omega)) ?_
        refine RunK.step rfl rfl (ok_loadV (s := 1000005) (by decide) Try.underlying3 rfl rfl rfl (by rw [Nat.zero_add]; exact bitsV_get (by omega))) ?_
        refine RunK.step rfl rfl (ok_bin rfl rfl rfl) ?_; refine RunK.as (.int .i64 ((((red (cml a b 8) m).testBit (14 - m - 4) ^^ true).toNat : Nat) : Int)) (by cases (red (cml a b 8) m).testBit (14 - m - 4) <;> rfl) ?_
        refine RunK.step rfl rfl (ok_indexV (14 - m - 4) Try.underlying86 info3 rfl rfl rfl (by omega)) ?_
        refine RunK.nil ?_
        refine ⟨_, eff_storeS (n := 110) (s := 1000005) info3 rfl rfl rfl hBg rfl (by simp only [bitsV_length]; omega) (LeftS.cons (t := 5) rfl (Surv.v _) (LeftS.cons (t := 10) rfl (Surv.v _) (LeftS.cons (t := 56) rfl (Surv.v _) (LeftS.cons (t := 57) rfl (Surv.v _) (LeftS.cons (t := 58) rfl (Surv.v _) (LeftS.cons (t := 59) rfl (Surv.v _) (LeftS.cons (t := 60) rfl (Surv.v _) (LeftS.cons (t := 61) rfl (Surv.v _) (LeftS.cons (t := 62) rfl (Surv.v _) (LeftS.cons (t := 63) rfl (Surv.v _) (LeftS.cons (t := 64) rfl (Surv.v _) (LeftS.cons (t := 65) rfl (Surv.v _) (LeftS.cons (t := 66) rfl (Surv.v _) LeftS.nil))))))))))))), ?_⟩
        refine RunTK.last ?_
        refine RunK.nil ?_
        refine A.sub (Sub.cons (t := 5) rfl (Sub.cons (t := 10) rfl (Sub.eq (t := 1000005) _ rfl (show blk g 3 _ = blk g 3 (bitsV 15 ((red (cml a b 8) m) ^^^ mask true (2 ^ (14 - m - 4)))) from congrArg _ (by rw [Nat.zero_add]; exact bitsV_set rfl)) Sub.nil))) ?_
        refine A.regs (by kernel_rfl) (by kernel_rfl) (.inl rfl) ?_
        refine RunTK.eff 10 (by decide) rfl (.inl rfl) ?_
        refine RunK.step rfl rfl (ok_move rfl) ?_
        refine RunK.step rfl rfl (ok_move rfl) ?_
        refine RunK.step rfl rfl (ok_bin rfl rfl rfl) ?_; refine RunK.as (.int .i64 ((14 - m - 5 : Nat) : Int)) (by rw [wrap_i64 (by omega) (by omega)]; first | rfl | (congr 1; omega)) ?_
        refine RunK.step rfl rfl (ok_move rfl) ?_
        refine RunK.step rfl rfl (ok_move rfl) ?_
        refine RunK.step rfl rfl (ok_bin rfl rfl rfl) ?_; refine RunK.as (.int .i64 ((14 - m - 5 : Nat) : Int)) (by rw [wrap_i64 (by omega) (by omega)]; first | rfl | (congr 1; omega)) ?_
        refine RunK.step rfl rfl (ok_indexV (14 - m - 5) Try.underlying86 info3 rfl rfl rfl (by omega)) ?_
        refine RunK.step rfl rfl (ok_loadV (s := 1000005) (by decide) Try.underlying3 rfl rfl rfl (by rw [Nat.zero_add]; exact bitsV_get (by omega))) ?_
        refine RunK.step rfl rfl (ok_bin rfl rfl rfl) ?_; refine RunK.as (.int .i64 (((((red (cml a b 8) m) ^^^ mask true (2 ^ (14 - m - 4))).testBit (14 - m - 5) ^^ true).toNat : Nat) : Int)) (by cases ((red (cml a b 8) m) ^^^ mask true (2 ^ (14 - m - 4))).testBit (14 - m - 5) <;> rfl) ?_
        refine RunK.step rfl rfl (ok_indexV (14 - m - 5) Try.underlying86 info3 rfl rfl rfl (by omega)) ?_
        refine RunK.nil ?_
        refine ⟨_, eff_storeS (n := 110) (s := 1000005) info3 rfl rfl rfl hBg rfl (by simp only [bitsV_length]; omega) (LeftS.cons (t := 5) rfl (Surv.v _) (LeftS.cons (t := 10) rfl (Surv.v _) (LeftS.cons (t := 67) rfl (Surv.v _) (LeftS.cons (t := 68) rfl (Surv.v _) (LeftS.cons (t := 69) rfl (Surv.v _) (LeftS.cons (t := 70) rfl (Surv.v _) (LeftS.cons (t := 71) rfl (Surv.v _) (LeftS.cons (t := 72) rfl (Surv.v _) (LeftS.cons (t := 73) rfl (Surv.v _) (LeftS.cons (t := 74) rfl (Surv.v _) (LeftS.cons (t := 75) rfl (Surv.v _) (LeftS.cons (t := 76) rfl (Surv.v _) LeftS.nil)))))))))))), ?_⟩
        refine RunTK.last ?_
        refine RunK.nil ?_
        refine A.sub (Sub.cons (t := 5) rfl (Sub.cons (t := 10) rfl (Sub.eq (t := 1000005) _ rfl (show blk g 3 _ = blk g 3 (bitsV 15 (((red (cml a b 8) m) ^^^ mask true (2 ^ (14 - m - 4))) ^^^ mask true (2 ^ (14 - m - 5)))) from congrArg _ (by rw [Nat.zero_add]; exact bitsV_set rfl)) Sub.nil))) ?_
        refine A.regs (by kernel_rfl) (by kernel_rfl) (.inl rfl) ?_
        refine RunTK.eff 10 (by decide) rfl (.inl rfl) ?_
        refine RunK.step rfl rfl (ok_move rfl) ?_
        refine RunK.step rfl rfl (ok_move rfl) ?_
        refine RunK.step rfl rfl (ok_bin rfl rfl rfl) ?_; refine RunK.as (.int .i64 ((14 - m - 7 : Nat) : Int)) (by rw [wrap_i64 (by omega) (by omega)]; first | rfl | (congr 1; omega)) ?_
        refine RunK.step rfl rfl (ok_move rfl) ?_
        refine RunK.step rfl rfl (ok_move rfl) ?_
        refine RunK.step rfl rfl (ok_bin rfl rfl rfl) ?_; refine RunK.as (.int .i64 ((14 - m - 7 : Nat) : Int)) (by rw [wrap_i64 (by omega) (by omega)]; first | rfl | (congr 1; omega)) ?_
        refine RunK.step rfl rfl (ok_indexV (14 - m - 7) Try.underlying86 info3 rfl rfl rfl (by omega)) ?_
        refine RunK.step rfl rfl (ok_loadV (s := 1000005) (by decide) Try.underlying3 rfl rfl rfl (by rw [Nat.zero_add]; exact bitsV_get (by omega))) ?_
        refine RunK.step rfl rfl (ok_bin rfl rfl rfl) ?_; refine RunK.as (.int .i64 ((((((red (cml a b 8) m) ^^^ mask true (2 ^ (14 - m - 4))) ^^^ mask true (2 ^ (14 - m - 5))).testBit (14 - m - 7) ^^ true).toNat : Nat) : Int)) (by cases (((red (cml a b 8) m) ^^^ mask true (2 ^ (14 - m - 4))) ^^^ mask true (2 ^ (14 - m - 5))).testBit (14 - m - 7) <;> rfl) ?_
        refine RunK.step rfl rfl (ok_indexV (14 - m - 7) Try.underlying86 info3 rfl rfl rfl (by omega)) ?_
        refine RunK.nil ?_
        refine ⟨_, eff_storeS (n := 110) (s := 1000005) info3 rfl rfl rfl hBg rfl (by simp only [bitsV_length]; omega) (LeftS.cons (t := 5) rfl (Surv.v _) (LeftS.cons (t := 10) rfl (Surv.v _) (LeftS.cons (t := 77) rfl (Surv.v _) (LeftS.cons (t := 78) rfl (Surv.v _) (LeftS.cons (t := 79) rfl (Surv.v _) (LeftS.cons (t := 80) rfl (Surv.v _) (LeftS.cons (t := 81) rfl (Surv.v _) (LeftS.cons (t := 82) rfl (Surv.v _) (LeftS.cons (t := 83) rfl (Surv.v _) (LeftS.cons (t := 84) rfl (Surv.v _) (LeftS.cons (t := 85) rfl (Surv.v _) (LeftS.cons (t := 86) rfl (Surv.v _) LeftS.nil)))))))))))), ?_⟩
        refine RunTK.last ?_
        refine RunK.nil ?_
        refine A.sub (Sub.cons (t := 5) rfl (Sub.cons (t := 10) rfl (Sub.eq (t := 1000005) _ rfl (show blk g 3 _ = blk g 3 (bitsV 15 ((((red (cml a b 8) m) ^^^ mask true (2 ^ (14 - m - 4))) ^^^ mask true (2 ^ (14 - m - 5))) ^^^ mask true (2 ^ (14 - m - 7)))) from congrArg _ (by rw [Nat.zero_add]; exact bitsV_set rfl)) Sub.nil))) ?_
        refine A.reg (by kernel_rfl) (by kernel_rfl) (.inl rfl) ?_
        refine RunTK.eff 10 (by decide) rfl (.inl rfl) ?_
        refine RunK.step rfl rfl (ok_move rfl) ?_
        refine RunK.step rfl rfl (ok_move rfl) ?_
        refine RunK.step rfl rfl (ok_bin rfl rfl rfl) ?_; refine RunK.as (.int .i64 ((14 - m - 8 : Nat) : Int)) (by rw [wrap_i64 (by omega) (by omega)]; first | rfl | (congr 1; omega)) ?_
        refine RunK.step rfl rfl (ok_move rfl) ?_
        refine RunK.step rfl rfl (ok_move rfl) ?_
        refine RunK.step rfl rfl (ok_bin rfl rfl rfl) ?_; refine RunK.as (.int .i64 ((14 - m - 8 : Nat) : Int)) (by rw [wrap_i64 (by omega) (by omega)]; first | rfl | (congr 1; omega)) ?_
        refine RunK.step rfl rfl (ok_indexV (14 - m - 8) Try.underlying86 info3 rfl rfl rfl (by omega)) ?_
        refine RunK.step rfl rfl (ok_loadV (s := 1000005) (by decide) Try.underlying3 rfl rfl rfl (by rw [Nat.zero_add]; exact bitsV_get (by omega))) ?_
        refine RunK.step rfl rfl (ok_bin rfl rfl rfl) ?_; refine RunK.as (.int .i64 (((((((red (cml a b 8) m) ^^^ mask true (2 ^ (14 - m - 4))) ^^^ mask true (2 ^ (14 - m - 5))) ^^^ mask true (2 ^ (14 - m - 7))).testBit (14 - m - 8) ^^ true).toNat : Nat) : Int)) (by cases ((((red (cml a b 8) m) ^^^ mask true (2 ^ (14 - m - 4))) ^^^ mask true (2 ^ (14 - m - 5))) ^^^ mask true (2 ^ (14 - m - 7))).testBit (14 - m - 8) <;> rfl) ?_
        refine RunK.step rfl rfl (ok_indexV (14 - m - 8) Try.underlying86 info3 rfl rfl rfl (by omega)) ?_
        refine RunK.nil ?_
        refine ⟨_, eff_storeS (n := 110) (s := 1000005) info3 rfl rfl rfl hBg rfl (by simp only [bitsV_length]; omega) (LeftS.cons (t := 5) rfl (Surv.v _) (LeftS.cons (t := 10) rfl (Surv.v _) (LeftS.cons (t := 87) rfl (Surv.v _) (LeftS.cons (t := 88) rfl (Surv.v _) (LeftS.cons (t := 89) rfl (Surv.v _) (LeftS.cons (t := 90) rfl (Surv.v _) (LeftS.cons (t := 91) rfl (Surv.v _) (LeftS.cons (t := 92) rfl (Surv.v _) (LeftS.cons (t := 93) rfl (Surv.v _) (LeftS.cons (t := 94) rfl (Surv.v _) (LeftS.cons (t := 95) rfl (Surv.v _) (LeftS.cons (t := 96) rfl (Surv.v _) LeftS.nil)))))))))))), ?_⟩
        refine RunTK.last ?_
        refine RunK.nil ?_
        refine End.sub (Sub.cons (t := 5) rfl (Sub.cons (t := 10) rfl (Sub.eq (t := 1000005) _ rfl (show blk g 3 _ = blk g 3 (bitsV 15 (((((red (cml a b 8) m) ^^^ mask true (2 ^ (14 - m - 4))) ^^^ mask true (2 ^ (14 - m - 5))) ^^^ mask true (2 ^ (14 - m - 7))) ^^^ mask true (2 ^ (14 - m - 8)))) from congrArg _ (by rw [Nat.zero_add]; exact bitsV_set rfl)) Sub.nil))) ?_
        refine End.normal_block ?_
        refine End.normal_then (End.code ?_)
        refine A.reg (by kernel_rfl) (by kernel_rfl) (.inl rfl) ?_
        refine RunTK.last ?_
        refine RunK.step rfl rfl (ok_move rfl) ?_
        refine RunK.step rfl rfl (ok_bin rfl rfl rfl) ?_; refine RunK.as (.int .i64 ((14 - (m + 1) : Nat) : Int)) (by rw [wrap_i64 (by omega) (by omega)]; first | rfl | (congr 1; omega)) ?_
        refine RunK.step rfl rfl (ok_assign rfl) ?_
        refine RunK.nil ?_
        refine End.sub (Sub.cons (t := 5) rfl (Sub.cons (t := 10) rfl (Sub.cons (t := 1000005) rfl Sub.nil))) ?_
        refine End.normal_then ?_
        refine End.again (m + 1) ?_ ?_ ?_
        · show _ ≤ _; omega
        · show _ - _ < _ - _; omega
        · exact (Sub.cons (t := 5) rfl (Sub.cons (t := 10) rfl (Sub.eq (t := 1000005) _ rfl (congrArg _ (congrArg _ (by first | exact red_yes hbit | exact red_no hbit))) Sub.nil)))
      · have hbit : (red (cml a b 8) m).testBit (14 - m) = false := by revert hc56; cases (red (cml a b 8) m).testBit (14 - m) <;> simp
        refine A.skip ?_
        refine End.normal_block ?_
        refine End.normal_then (End.code ?_)
        refine A.reg (by kernel_rfl) (by kernel_rfl) (.inl rfl) ?_
        refine RunTK.last ?_
        refine RunK.step rfl rfl (ok_move rfl) ?_
        refine RunK.step rfl rfl (ok_bin rfl rfl rfl) ?_; refine RunK.as (.int .i64 ((14 - (m + 1) : Nat) : Int)) (by rw [wrap_i64 (by omega) (by omega)]; first | rfl | (congr 1; omega)) ?_
        refine RunK.step rfl rfl (ok_assign rfl) ?_
        refine RunK.nil ?_
        refine End.sub (Sub.cons (t := 5) rfl (Sub.cons (t := 10) rfl (Sub.cons (t := 1000005) rfl Sub.nil))) ?_
        refine End.normal_then ?_
        refine End.again (m + 1) ?_ ?_ ?_
        · show _ ≤ _; omega
        · show _ - _ < _ - _; omega
        · exact (Sub.cons (t := 5) rfl (Sub.cons (t := 10) rfl (Sub.eq (t := 1000005) _ rfl (congrArg _ (congrArg _ (by first | exact red_yes hbit | exact red_no hbit))) Sub.nil)))
    · obtain rfl : m = 7 := by simp at hc49; omega
      refine A.exit ?_
      refine End.exit_then ?_
      refine End.exit_then ?_
      refine End.exit_here ?_
      refine End.normal_then (End.code ?_)
      refine A.regs (by kernel_rfl) (by kernel_rfl) (.inl rfl) ?_
      refine RunTK.last ?_
      refine RunK.step rfl rfl (ok_assign rfl) ?_
      refine RunK.nil ?_
      refine A.sub (Sub.cons (t := 5) rfl (Sub.cons (t := 11) rfl (Sub.cons (t := 1000005) rfl Sub.nil))) ?_
      refine A.seq ?_
      refine A.regs (by kernel_rfl) (by kernel_rfl) (.inl rfl) ?_
      refine RunTK.last ?_
      refine RunK.step rfl rfl (ok_assign rfl) ?_
      refine RunK.nil ?_
      refine A.sub (Sub.cons (t := 5) rfl (Sub.cons (t := 11) rfl (Sub.cons (t := 12) rfl (Sub.cons (t := 1000005) rfl Sub.nil)))) ?_
      refine A.block ?_
      refine A.loop (ι := Nat) (fun m => m ≤ 8) (fun m => [(5, .v (.slice (some ⟨g, 0, none⟩) 15 15)), (11, .v (.int .i64 (((red (cml a b 8) 7) % 256 / 2 ^ m : Nat) : Int))), (12, .v (.int .i64 ((m : Int) - 1))), (1000005, blk g 3 (bitsV 15 (red (cml a b 8) 7)))]) (fun m => m) 8 ?_ ?_ ?_
      · exact Nat.le_refl _
      · exact (Sub.cons (t := 5) rfl (Sub.eq (t := 11) _ rfl (congrArg (fun z : Int => D.v (.int .i64 z)) (show (0 : Int) = _ by omega)) (Sub.cons (t := 12) rfl (Sub.cons (t := 1000005) rfl Sub.nil))))
      intro m hm
      refine A.seq ?_
      refine A.regs (by kernel_rfl) (by kernel_rfl) (.inl rfl) ?_
      refine RunTK.last ?_
      refine RunK.step rfl rfl (ok_move rfl) ?_
      refine RunK.step rfl rfl (ok_bin rfl rfl rfl) ?_
      refine RunK.nil ?_
      refine A.sub (Sub.cons (t := 5) rfl (Sub.cons (t := 11) rfl (Sub.cons (t := 12) rfl (Sub.cons (t := 98) rfl (Sub.cons (t := 1000005) rfl Sub.nil))))) ?_
      refine A.cond rfl (fun hc98 => ?_) (fun hc98 => ?_)
      · obtain ⟨k, rfl⟩ : ∃ k, m = k + 1 := ⟨m - 1, by simp at hc98; omega⟩
        have hx1 := bit_le ((red (cml a b 8) 7).testBit k)
        have hx2 : (red (cml a b 8) 7) % 256 / 2 ^ (k + 1) ≤ 255 := Nat.le_trans (Nat.div_le_self _ _) (by omega)
        have hx3 : (0 : Int) ≤ (((red (cml a b 8) 7) % 256 / 2 ^ (k + 1) : Nat) : Int) := Int.natCast_nonneg _
        refine A.skip ?_
        refine End.normal_then (End.code ?_)
        refine A.seq ?_
        refine A.block ?_
        refine A.reg (by kernel_rfl) (by kernel_rfl) (.inl rfl) ?_
        refine RunTK.last ?_
        refine RunK.step rfl rfl (ok_move rfl) ?_
        refine RunK.step rfl rfl (ok_bin rfl rfl rfl) ?_; refine RunK.as (.int .i64 ((2 * (red (cml a b 8) 7 % 256 / 2 ^ (k + 1)) : Nat) : Int)) (by rw [wrap_i64 (by omega) (by omega)]; first | rfl | (congr 1; omega)) ?_
        refine RunK.step rfl rfl (ok_move rfl) ?_
        refine RunK.step rfl rfl (ok_move rfl) ?_; refine RunK.as (.int .i64 ((k : Nat) : Int)) (by congr 1; omega) ?_
        refine RunK.step rfl rfl (ok_indexV (k) Try.underlying86 info3 rfl rfl rfl (by omega)) ?_
        refine RunK.step rfl rfl (ok_loadV (s := 1000005) (by decide) Try.underlying3 rfl rfl rfl (by rw [Nat.zero_add]; exact bitsV_get (by omega))) ?_
        refine RunK.step rfl rfl (ok_bin rfl rfl rfl) ?_; refine RunK.as (.int .i64 ((red (cml a b 8) 7 % 256 / 2 ^ k : Nat) : Int)) (by rw [← out_step _ (show k < 8 by omega), wrap_i64 (by omega) (by omega)]; first | rfl | (congr 1; omega)) ?_
        refine RunK.step rfl rfl (ok_assign rfl) ?_
        refine RunK.nil ?_
        refine End.sub (Sub.cons (t := 5) rfl (Sub.cons (t := 11) rfl (Sub.cons (t := 12) rfl (Sub.cons (t := 1000005) rfl Sub.nil)))) ?_
        refine End.normal_block ?_
        refine End.normal_then (End.code ?_)
        refine A.reg (by kernel_rfl) (by kernel_rfl) (.inl rfl) ?_
        refine RunTK.last ?_
        refine RunK.step rfl rfl (ok_move rfl) ?_
        refine RunK.step rfl rfl (ok_bin rfl rfl rfl) ?_; refine RunK.as (.int .i64 ((k : Int) - 1)) (by rw [wrap_i64 (by omega) (by omega)]; congr 1; omega) ?_
        refine RunK.step rfl rfl (ok_assign rfl) ?_
        refine RunK.nil ?_
        refine End.sub (Sub.cons (t := 5) rfl (Sub.cons (t := 11) rfl (Sub.cons (t := 12) rfl (Sub.cons (t := 1000005) rfl Sub.nil)))) ?_
        refine End.normal_then ?_
        refine End.again k ?_ ?_ ?_
        · show _ ≤ _; omega
        · exact Nat.lt_succ_self _
        · exact (Sub.cons (t := 5) rfl (Sub.cons (t := 11) rfl (Sub.cons (t := 12) rfl (Sub.cons (t := 1000005) rfl Sub.nil))))
      · obtain rfl : m = 0 := by simp at hc98; omega
        refine A.exit ?_
        refine End.exit_then ?_
        refine End.exit_then ?_
        refine End.exit_here ?_
        refine End.normal_then (End.code ?_)
        refine A.regs (by kernel_rfl) (by kernel_rfl) (.inl rfl) ?_
        refine RunTK.last ?_
        refine RunK.step rfl rfl (ok_move rfl) ?_
        refine RunK.step rfl rfl (ok_conv Try.underlying3 Try.underlying5 rfl) ?_; refine RunK.as (.int .u8 ((gm a b : Nat) : Int)) (by rw [Nat.pow_zero, Nat.div_one, wrapN_u8 (Nat.mod_lt _ (by decide))]; exact congrArg (fun z : Nat => Value.int .u8 (z : Int)) (refm_eq ha hb)) ?_
        refine RunK.step rfl rfl (ok_assign rfl) ?_
        refine RunK.nil ?_
        refine A.sub (Sub.cons (t := 4) rfl (Sub.cons (t := 1000005) rfl Sub.nil)) ?_
        refine A.ret ?_
        exact End.ret1 rfl rfl (by first | exact Le.refl _ | exact Le.old _ _)
-- caisson/caissonref05.Inverse: not at this seat
set_option maxHeartbeats 1000000 in
theorem refSubst_fn (v : Nat) (hv : v < 256) : Fn Try.prog 52 [.v (.int .u8 ((v : Nat) : Int))] (.v (.int .u8 ((subst8 v : Nat) : Int))) := by
  refine Fn.of Try.func52 rfl (by kernel_rfl) Try.ntmps52 (by simp) (fun w => [(0, .v (.int .u8 ((v : Nat) : Int)))]) (fun w => (Start.v rfl Start.nil)) fun w₀ => ?_
  refine A.regs (by kernel_rfl) (by kernel_rfl) (.inl rfl) ?_
  refine RunTK.last ?_
  refine RunK.step rfl rfl (ok_assign rfl) ?_
  refine RunK.nil ?_
  refine A.sub (Sub.cons (t := 0) rfl Sub.nil) ?_
  refine A.regs (by kernel_rfl) (by kernel_rfl) (.inl rfl) ?_
  refine RunTK.last ?_
  refine RunK.step rfl rfl (ok_assign rfl) ?_
  refine RunK.nil ?_
  refine A.sub (Sub.cons (t := 0) rfl (Sub.cons (t := 3) rfl Sub.nil)) ?_
  refine A.seq ?_
  refine A.regs (by kernel_rfl) (by kernel_rfl) (.inl rfl) ?_
  refine RunTK.last ?_
  refine RunK.step rfl rfl (ok_assign rfl) ?_
  refine RunK.nil ?_
  refine A.sub (Sub.cons (t := 0) rfl (Sub.cons (t := 3) rfl (Sub.cons (t := 4) rfl Sub.nil))) ?_
  refine A.block ?_
  refine A.loop (ι := Nat) (fun c => c ≤ 8) (fun c => [(0, .v (.int .u8 ((v : Nat) : Int))), (3, .v (.int .i64 ((sout v c : Nat) : Int))), (4, .v (.int .i64 (7 - (c : Int))))]) (fun c => 8 - c) 0 ?_ ?_ ?_
  · exact Nat.zero_le _
  · exact (Sub.cons (t := 0) rfl (Sub.cons (t := 3) rfl (Sub.cons (t := 4) rfl Sub.nil)))
  intro c hc
  refine A.seq ?_
  refine A.regs (by kernel_rfl) (by kernel_rfl) (.inl rfl) ?_
  refine RunTK.last ?_
  refine RunK.step rfl rfl (ok_move rfl) ?_
  refine RunK.step rfl rfl (ok_bin rfl rfl rfl) ?_
  refine RunK.nil ?_
  refine A.sub (Sub.cons (t := 0) rfl (Sub.cons (t := 3) rfl (Sub.cons (t := 4) rfl (Sub.cons (t := 8) rfl Sub.nil)))) ?_
  refine A.cond rfl (fun hc8 => ?_) (fun hc8 => ?_)
  · have hc8' : c < 8 := by simp at hc8; omega
    have hs1 : sout v c < 256 := Nat.lt_of_lt_of_le (sout_lt v c) (show 2 ^ c ≤ 2 ^ 8 from Nat.pow_le_pow_right (by decide) (by omega))
    refine A.skip ?_
    refine End.normal_then (End.code ?_)
    refine A.seq ?_
    refine A.block ?_
    refine A.regs (by kernel_rfl) (by kernel_rfl) (.inl rfl) ?_
    refine RunTK.last ?_
    refine RunK.step rfl rfl (ok_move rfl) ?_; refine RunK.as (.int .i64 ((7 - c : Nat) : Int)) (by congr 1; omega) ?_
    refine RunK.step rfl rfl (ok_shr rfl rfl (by omega)) ?_; refine RunK.as (.int .i64 ((ssum v (7 - c) 0 : Nat) : Int)) (by rw [Int.toNat_natCast, show min (7 - c) IntKind.i64.bits = 7 - c from by simp only [IntKind.bits]; omega]; exact congrArg _ (shr_nat 99 _)) ?_
    refine RunK.step rfl rfl (ok_assign rfl) ?_
    refine RunK.nil ?_
    refine A.sub (Sub.cons (t := 0) rfl (Sub.cons (t := 3) rfl (Sub.cons (t := 4) rfl (Sub.cons (t := 5) rfl Sub.nil)))) ?_
    refine A.seq ?_
    refine A.regs (by kernel_rfl) (by kernel_rfl) (.inl rfl) ?_
    refine RunTK.last ?_
    refine RunK.step rfl rfl (ok_assign rfl) ?_
    refine RunK.nil ?_
    refine A.sub (Sub.cons (t := 0) rfl (Sub.cons (t := 3) rfl (Sub.cons (t := 4) rfl (Sub.cons (t := 5) rfl (Sub.cons (t := 6) rfl Sub.nil))))) ?_
    refine A.block ?_
    refine A.loop (ι := Nat) (fun e => e ≤ 5) (fun e => [(0, .v (.int .u8 ((v : Nat) : Int))), (3, .v (.int .i64 ((sout v c : Nat) : Int))), (4, .v (.int .i64 (7 - (c : Int)))), (5, .v (.int .i64 ((ssum v (7 - c) e : Nat) : Int))), (6, .v (.int .i64 ((4 + e : Nat) : Int)))]) (fun e => 5 - e) 0 ?_ ?_ ?_
    · exact Nat.zero_le _
    · exact (Sub.cons (t := 0) rfl (Sub.cons (t := 3) rfl (Sub.cons (t := 4) rfl (Sub.cons (t := 5) rfl (Sub.cons (t := 6) rfl Sub.nil)))))
    intro e he
    refine A.seq ?_
    refine A.regs (by kernel_rfl) (by kernel_rfl) (.inl rfl) ?_
    refine RunTK.last ?_
    refine RunK.step rfl rfl (ok_move rfl) ?_
    refine RunK.step rfl rfl (ok_bin rfl rfl rfl) ?_
    refine RunK.nil ?_
    refine A.sub (Sub.cons (t := 0) rfl (Sub.cons (t := 3) rfl (Sub.cons (t := 4) rfl (Sub.cons (t := 5) rfl (Sub.cons (t := 6) rfl (Sub.cons (t := 14) rfl Sub.nil)))))) ?_
    refine A.cond rfl (fun hc14 => ?_) (fun hc14 => ?_)
    · have he5 : e < 5 := by simp at hc14; omega
      have hs2 := ssum_le hv (7 - c) e
      have hs3 := Nat.div_le_self v (2 ^ ((7 - c + (4 + e)) % 8))
      refine A.skip ?_
      refine End.normal_then (End.code ?_)
      refine A.seq ?_
      refine A.block ?_
      refine A.reg (by kernel_rfl) (by kernel_rfl) (.inl rfl) ?_
      refine RunTK.last ?_
      refine RunK.step rfl rfl (ok_move rfl) ?_
      refine RunK.step rfl rfl (ok_move rfl) ?_
      refine RunK.step rfl rfl (ok_conv Try.underlying5 Try.underlying3 rfl) ?_; refine RunK.as (.int .i64 ((v : Nat) : Int)) (by rw [wrapN_i64 (by omega)]) ?_
      refine RunK.step rfl rfl (ok_move rfl) ?_; refine RunK.as (.int .i64 ((7 - c : Nat) : Int)) (by congr 1; omega) ?_
      refine RunK.step rfl rfl (ok_move rfl) ?_
      refine RunK.step rfl rfl (ok_bin rfl rfl rfl) ?_; refine RunK.as (.int .i64 ((7 - c + (4 + e) : Nat) : Int)) (by rw [wrap_i64 (by omega) (by omega)]; first | rfl | (congr 1; omega)) ?_
      refine RunK.step rfl rfl (ok_rem rfl rfl (by decide)) ?_; refine RunK.as (.int .i64 (((7 - c + (4 + e)) % 8 : Nat) : Int)) (by rw [tmod_lit _ (by decide)]; rfl) ?_
      refine RunK.step rfl rfl (ok_shr rfl rfl (by omega)) ?_; refine RunK.as (.int .i64 ((v / 2 ^ ((7 - c + (4 + e)) % 8) : Nat) : Int)) (by rw [Int.toNat_natCast, show min ((7 - c + (4 + e)) % 8) IntKind.i64.bits = (7 - c + (4 + e)) % 8 from by simp only [IntKind.bits]; omega]; exact congrArg _ (shr_nat _ _)) ?_
      refine RunK.step rfl rfl (ok_bin rfl rfl rfl) ?_; refine RunK.as (.int .i64 ((ssum v (7 - c) (e + 1) : Nat) : Int)) (by rw [← Int.natCast_add, wrapN_i64 (by omega)]; rfl) ?_
      refine RunK.step rfl rfl (ok_assign rfl) ?_
      refine RunK.nil ?_
      refine End.sub (Sub.cons (t := 0) rfl (Sub.cons (t := 3) rfl (Sub.cons (t := 4) rfl (Sub.cons (t := 5) rfl (Sub.cons (t := 6) rfl Sub.nil))))) ?_
      refine End.normal_block ?_
      refine End.normal_then (End.code ?_)
      refine A.reg (by kernel_rfl) (by kernel_rfl) (.inl rfl) ?_
      refine RunTK.last ?_
      refine RunK.step rfl rfl (ok_move rfl) ?_
      refine RunK.step rfl rfl (ok_bin rfl rfl rfl) ?_; refine RunK.as (.int .i64 ((4 + (e + 1) : Nat) : Int)) (by rw [wrap_i64 (by omega) (by omega)]; first | rfl | (congr 1; omega)) ?_
      refine RunK.step rfl rfl (ok_assign rfl) ?_
      refine RunK.nil ?_
      refine End.sub (Sub.cons (t := 0) rfl (Sub.cons (t := 3) rfl (Sub.cons (t := 4) rfl (Sub.cons (t := 5) rfl (Sub.cons (t := 6) rfl Sub.nil))))) ?_
      refine End.normal_then ?_
      refine End.again (e + 1) ?_ ?_ ?_
      · show _ ≤ _; omega
      · show _ - _ < _ - _; omega
      · exact (Sub.cons (t := 0) rfl (Sub.cons (t := 3) rfl (Sub.cons (t := 4) rfl (Sub.cons (t := 5) rfl (Sub.cons (t := 6) rfl Sub.nil)))))
    · obtain rfl : e = 5 := by simp at hc14; omega
      refine A.exit ?_
      refine End.exit_then ?_
      refine End.exit_then ?_
      refine End.exit_here ?_
      refine End.normal_then (End.code ?_)
      refine A.reg (by kernel_rfl) (by kernel_rfl) (.inl rfl) ?_
      refine RunTK.last ?_
      refine RunK.step rfl rfl (ok_move rfl) ?_
      refine RunK.step rfl rfl (ok_bin rfl rfl rfl) ?_; refine RunK.as (.int .i64 ((2 * sout v c : Nat) : Int)) (by rw [wrap_i64 (by omega) (by omega)]; first | rfl | (congr 1; omega)) ?_
      refine RunK.step rfl rfl (ok_move rfl) ?_
      refine RunK.step rfl rfl (ok_rem rfl rfl (by decide)) ?_; refine RunK.as (.int .i64 ((ssum v (7 - c) 5 % 2 : Nat) : Int)) (by rw [tmod_lit _ (by decide)]; rfl) ?_
      refine RunK.step rfl rfl (ok_bin rfl rfl rfl) ?_; refine RunK.as (.int .i64 ((sout v (c + 1) : Nat) : Int)) (by rw [← Int.natCast_add, wrapN_i64 (by omega)]; rfl) ?_
      refine RunK.step rfl rfl (ok_assign rfl) ?_
      refine RunK.nil ?_
      refine End.sub (Sub.cons (t := 0) rfl (Sub.cons (t := 3) rfl (Sub.cons (t := 4) rfl Sub.nil))) ?_
      refine End.normal_block ?_
      refine End.normal_then (End.code ?_)
      refine A.reg (by kernel_rfl) (by kernel_rfl) (.inl rfl) ?_
      refine RunTK.last ?_
      refine RunK.step rfl rfl (ok_move rfl) ?_
      refine RunK.step rfl rfl (ok_bin rfl rfl rfl) ?_; refine RunK.as (.int .i64 (7 - ((c + 1 : Nat) : Int))) (by rw [wrap_i64 (by omega) (by omega)]; congr 1; omega) ?_
      refine RunK.step rfl rfl (ok_assign rfl) ?_
      refine RunK.nil ?_
      refine End.sub (Sub.cons (t := 0) rfl (Sub.cons (t := 3) rfl (Sub.cons (t := 4) rfl Sub.nil))) ?_
      refine End.normal_then ?_
      refine End.again (c + 1) ?_ ?_ ?_
      · show _ ≤ _; omega
      · show _ - _ < _ - _; omega
      · exact (Sub.cons (t := 0) rfl (Sub.cons (t := 3) rfl (Sub.cons (t := 4) rfl Sub.nil)))
  · obtain rfl : c = 8 := by simp at hc8; omega
    refine A.exit ?_
    refine End.exit_then ?_
    refine End.exit_then ?_
    refine End.exit_here ?_
    refine End.normal_then (End.code ?_)
    refine A.regs (by kernel_rfl) (by kernel_rfl) (.inl rfl) ?_
    refine RunTK.last ?_
    refine RunK.step rfl rfl (ok_move rfl) ?_
    refine RunK.step rfl rfl (ok_conv Try.underlying3 Try.underlying5 rfl) ?_; refine RunK.as (.int .u8 ((subst8 v : Nat) : Int)) (by rw [wrapN_u8 (sout_lt v 8)]; rfl) ?_
    refine RunK.step rfl rfl (ok_assign rfl) ?_
    refine RunK.nil ?_
    refine A.sub (Sub.cons (t := 2) rfl Sub.nil) ?_
    refine A.ret ?_
    exact End.ret1 rfl rfl (by first | exact Le.refl _ | exact Le.old _ _)
-- caisson/caissonref05.Sub: not at this seat
set_option maxHeartbeats 2000000 in
theorem refTable_fn  : Fn Try.prog 46 [] (.v (aggV subV)) := by
  refine Fn.of Try.func46 rfl (by kernel_rfl) Try.ntmps46 (by simp) (fun w => []) (fun w => Start.nil) fun w₀ => ?_
  refine A.regs (by kernel_rfl) (by kernel_rfl) (.inl rfl) ?_
  refine RunTK.new 0 (by decide) rfl (.inl rfl) ?_
  refine RunK.nil ?_
  refine ⟨_, _, eff_alloc (n := 46) (d := 0) (k := 1000000) zero83 (by decide), fun b0 hb0 => ?_⟩
  have hBb0 := hb0.1
  refine RunTK.last ?_
  refine RunK.nil ?_
  refine A.sub (Sub.cons (t := 0) rfl (Sub.cons (t := 1000000) rfl Sub.nil)) ?_
  refine A.regs (by kernel_rfl) (by kernel_rfl) (.inl rfl) ?_
  refine RunTK.new 0 (by decide) rfl (.inl rfl) ?_
  refine RunK.nil ?_
  refine ⟨_, _, eff_alloc (n := 46) (d := 1) (k := 1000001) zero83 (by decide), fun b1 hb1 => ?_⟩
  have hBb1 := hb1.1
  have hlt_b0_b1 : b0 < b1 := hb1.2 1000000 _ _ _ rfl
  refine RunTK.last ?_
  refine RunK.nil ?_
  refine A.sub (Sub.cons (t := 0) rfl (Sub.cons (t := 1) rfl (Sub.cons (t := 1000000) rfl (Sub.cons (t := 1000001) rfl Sub.nil)))) ?_
  refine A.regs (by kernel_rfl) (by kernel_rfl) (.inl rfl) ?_
  refine RunTK.new 0 (by decide) rfl (.inl rfl) ?_
  refine RunK.nil ?_
  refine ⟨_, _, eff_alloc (n := 46) (d := 2) (k := 1000002) zero83 (by decide), fun b2 hb2 => ?_⟩
  have hBb2 := hb2.1
  have hlt_b0_b2 : b0 < b2 := hb2.2 1000000 _ _ _ rfl
  have hlt_b1_b2 : b1 < b2 := hb2.2 1000001 _ _ _ rfl
  refine RunTK.last ?_
  refine RunK.nil ?_
  refine A.sub (Sub.cons (t := 0) rfl (Sub.cons (t := 1) rfl (Sub.cons (t := 2) rfl (Sub.cons (t := 1000000) rfl (Sub.cons (t := 1000001) rfl (Sub.cons (t := 1000002) rfl Sub.nil)))))) ?_
  refine A.regs (by kernel_rfl) (by kernel_rfl) (.inl rfl) ?_
  refine RunTK.eff 1 (by decide) rfl (.inl rfl) ?_
  refine RunK.step rfl rfl (ok_index0 (0) Try.underlying83 info5 rfl rfl (rfl) (by decide)) ?_
  refine RunK.nil ?_
  refine ⟨_, eff_storeS (n := 46) (s := 1000002) info5 rfl rfl rfl hBb2 rfl (by first | (rw [pwV_length]; omega) | (rw [List.length_replicate]; decide)) (LeftS.cons (t := 0) rfl (Surv.v _) (LeftS.cons (t := 1) rfl (Surv.v _) (LeftS.cons (t := 2) rfl (Surv.v _) (LeftS.cons (t := 6) rfl (Surv.v _) (LeftS.cons (t := 1000000) rfl (Surv.blk (by omega)) (LeftS.cons (t := 1000001) rfl (Surv.blk (by omega)) LeftS.nil)))))), ?_⟩
  refine RunTK.last ?_
  refine RunK.nil ?_
  refine A.sub (Sub.cons (t := 0) rfl (Sub.cons (t := 1) rfl (Sub.cons (t := 2) rfl (Sub.cons (t := 1000000) rfl (Sub.cons (t := 1000001) rfl (Sub.cons (t := 1000002) rfl Sub.nil)))))) ?_
  refine A.seq ?_
  refine A.regs (by kernel_rfl) (by kernel_rfl) (.inl rfl) ?_
  refine RunTK.last ?_
  refine RunK.step rfl rfl (ok_assign rfl) ?_
  refine RunK.nil ?_
  refine A.sub (Sub.cons (t := 0) rfl (Sub.cons (t := 1) rfl (Sub.cons (t := 2) rfl (Sub.cons (t := 3) rfl (Sub.cons (t := 1000000) rfl (Sub.cons (t := 1000001) rfl (Sub.cons (t := 1000002) rfl Sub.nil))))))) ?_
  refine A.block ?_
  refine A.loop (ι := Nat) (fun q => q ≤ 255) (fun q => [(0, .v (.pointer (some ⟨b0, 0, none⟩))), (1, .v (.pointer (some ⟨b1, 0, none⟩))), (2, .v (.pointer (some ⟨b2, 0, none⟩))), (3, .v (.int .i64 ((q + 1 : Nat) : Int))), (1000000, blk b0 83 (List.replicate 256 (.int .u8 0))), (1000001, blk b1 83 (List.replicate 256 (.int .u8 0))), (1000002, blk b2 83 (pwV (q + 1)))]) (fun q => 255 - q) 0 ?_ ?_ ?_
  · exact Nat.zero_le _
  · exact (Sub.cons (t := 0) rfl (Sub.cons (t := 1) rfl (Sub.cons (t := 2) rfl (Sub.cons (t := 3) rfl (Sub.cons (t := 1000000) rfl (Sub.cons (t := 1000001) rfl (Sub.eq (t := 1000002) _ rfl (congrArg _ pwV_one) Sub.nil)))))))
  intro q hq
  refine A.seq ?_
  refine A.regs (by kernel_rfl) (by kernel_rfl) (.inl rfl) ?_
  refine RunTK.last ?_
  refine RunK.step rfl rfl (ok_move rfl) ?_
  refine RunK.step rfl rfl (ok_bin rfl rfl rfl) ?_
  refine RunK.nil ?_
  refine A.sub (Sub.cons (t := 0) rfl (Sub.cons (t := 1) rfl (Sub.cons (t := 2) rfl (Sub.cons (t := 3) rfl (Sub.cons (t := 8) rfl (Sub.cons (t := 1000000) rfl (Sub.cons (t := 1000001) rfl (Sub.cons (t := 1000002) rfl Sub.nil)))))))) ?_
  refine A.cond rfl (fun hc8 => ?_) (fun hc8 => ?_)
  · have hlt : q < 255 := by simp at hc8; omega
    have hx := gpow_lt (a := 3) q
    refine A.skip ?_
    refine End.normal_then (End.code ?_)
    refine A.seq ?_
    refine A.block ?_
    refine A.regs (by kernel_rfl) (by kernel_rfl) (.inl rfl) ?_
    refine RunTK.last ?_
    refine RunK.step rfl rfl (ok_move rfl) ?_
    refine RunK.step rfl rfl (ok_bin rfl rfl rfl) ?_; refine RunK.as (.int .i64 ((q : Nat) : Int)) (by rw [wrap_i64 (by omega) (by omega)]; exact congrArg (Value.int .i64) (by omega)) ?_
    refine RunK.step rfl rfl (ok_index0 (q) Try.underlying83 info5 rfl rfl (rfl) (by omega)) ?_
    refine RunK.step rfl rfl (ok_loadV (s := 1000002) (by decide) Try.underlying5 rfl rfl rfl (pwV_get (by omega) (by omega))) ?_
    refine RunK.step rfl rfl (ok_conv Try.underlying5 Try.underlying3 rfl) ?_; refine RunK.as (.int .i64 ((gpow 3 q : Nat) : Int)) (by rw [wrapN_i64 (by omega)]) ?_
    refine RunK.step rfl rfl (ok_bin rfl rfl rfl) ?_; refine RunK.as (.int .i64 ((2 * (gpow 3 q) : Nat) : Int)) (by rw [wrap_i64 (by omega) (by omega)]; first | rfl | (congr 1; omega)) ?_
    refine RunK.step rfl rfl (ok_assign rfl) ?_
    refine RunK.nil ?_
    refine A.sub (Sub.cons (t := 0) rfl (Sub.cons (t := 1) rfl (Sub.cons (t := 2) rfl (Sub.cons (t := 3) rfl (Sub.cons (t := 4) rfl (Sub.cons (t := 1000000) rfl (Sub.cons (t := 1000001) rfl (Sub.cons (t := 1000002) rfl Sub.nil)))))))) ?_
    refine A.seq ?_
    refine A.regs (by kernel_rfl) (by kernel_rfl) (.inl rfl) ?_
    refine RunTK.last ?_
    refine RunK.step rfl rfl (ok_move rfl) ?_
    refine RunK.step rfl rfl (ok_bin rfl rfl rfl) ?_
    refine RunK.nil ?_
    refine A.sub (Sub.cons (t := 0) rfl (Sub.cons (t := 1) rfl (Sub.cons (t := 2) rfl (Sub.cons (t := 3) rfl (Sub.cons (t := 4) rfl (Sub.cons (t := 18) rfl (Sub.cons (t := 1000000) rfl (Sub.cons (t := 1000001) rfl (Sub.cons (t := 1000002) rfl Sub.nil))))))))) ?_
    refine A.cond rfl (fun hc18 => ?_) (fun hc18 => ?_)
    · have hbr : (if 255 < 2 * gpow 3 q then (2 * gpow 3 q) ^^^ 283 else 2 * gpow 3 q) = (2 * gpow 3 q) ^^^ 283 := if_pos (by simp at hc18; omega)
      refine A.reg (by kernel_rfl) (by kernel_rfl) (.inl rfl) ?_
      refine RunTK.last ?_
      refine RunK.step rfl rfl (ok_move rfl) ?_
      refine RunK.step rfl rfl (ok_bin rfl rfl rfl) ?_; refine RunK.as (.int .i64 (((2 * gpow 3 q) ^^^ 283 : Nat) : Int)) (by rw [show IntKind.i64.bits = 64 from rfl, show (283 : Int) = ((283 : Nat) : Int) from rfl, xor_i64N (by omega) (by decide)]) ?_
      refine RunK.step rfl rfl (ok_assign rfl) ?_
      refine RunK.nil ?_
      refine End.sub (Sub.cons (t := 0) rfl (Sub.cons (t := 1) rfl (Sub.cons (t := 2) rfl (Sub.cons (t := 3) rfl (Sub.cons (t := 4) rfl (Sub.cons (t := 1000000) rfl (Sub.cons (t := 1000001) rfl (Sub.cons (t := 1000002) rfl Sub.nil)))))))) ?_
      refine End.normal_then (End.code ?_)
      refine A.reg (by kernel_rfl) (by kernel_rfl) (.inl rfl) ?_
      refine RunTK.eff 9 (by decide) rfl (.inl rfl) ?_
      refine RunK.step rfl rfl (ok_move rfl) ?_
      refine RunK.step rfl rfl (ok_move rfl) ?_
      refine RunK.step rfl rfl (ok_conv Try.underlying3 Try.underlying5 rfl) ?_; refine RunK.as (.int .u8 (((if 255 < 2 * gpow 3 q then (2 * gpow 3 q) ^^^ 283 else 2 * gpow 3 q) % 256 : Nat) : Int)) (by rw [hbr, wrap_u8N]) ?_
      refine RunK.step rfl rfl (ok_move rfl) ?_
      refine RunK.step rfl rfl (ok_bin rfl rfl rfl) ?_; refine RunK.as (.int .i64 ((q : Nat) : Int)) (by rw [wrap_i64 (by omega) (by omega)]; exact congrArg (Value.int .i64) (by omega)) ?_
      refine RunK.step rfl rfl (ok_index0 (q) Try.underlying83 info5 rfl rfl (rfl) (by omega)) ?_
      refine RunK.step rfl rfl (ok_loadV (s := 1000002) (by decide) Try.underlying5 rfl rfl rfl (pwV_get (by omega) (by omega))) ?_
      refine RunK.step rfl rfl (ok_bin rfl rfl rfl) ?_; refine RunK.as (.int .u8 ((gpow 3 (q + 1) : Nat) : Int)) (by rw [show IntKind.u8.bits = 8 from rfl, xor_u8N (Nat.mod_lt _ (by decide)) (gpow_lt _), pow3_step (gpow_lt _)]; rfl) ?_
      refine RunK.step rfl rfl (ok_index0 (q + 1) Try.underlying83 info5 rfl rfl (rfl) (by omega)) ?_
      refine RunK.nil ?_
      refine ⟨_, eff_storeS (n := 46) (s := 1000002) info5 rfl rfl rfl hBb2 rfl (by first | (rw [pwV_length]; omega) | (rw [List.length_replicate]; decide)) (LeftS.cons (t := 0) rfl (Surv.v _) (LeftS.cons (t := 1) rfl (Surv.v _) (LeftS.cons (t := 2) rfl (Surv.v _) (LeftS.cons (t := 3) rfl (Surv.v _) (LeftS.cons (t := 4) rfl (Surv.v _) (LeftS.cons (t := 21) rfl (Surv.v _) (LeftS.cons (t := 22) rfl (Surv.v _) (LeftS.cons (t := 23) rfl (Surv.v _) (LeftS.cons (t := 24) rfl (Surv.v _) (LeftS.cons (t := 25) rfl (Surv.v _) (LeftS.cons (t := 26) rfl (Surv.v _) (LeftS.cons (t := 27) rfl (Surv.v _) (LeftS.cons (t := 28) rfl (Surv.v _) (LeftS.cons (t := 29) rfl (Surv.v _) (LeftS.cons (t := 1000000) rfl (Surv.blk (by omega)) (LeftS.cons (t := 1000001) rfl (Surv.blk (by omega)) LeftS.nil)))))))))))))))), ?_⟩
      refine RunTK.last ?_
      refine RunK.nil ?_
      refine End.sub (Sub.cons (t := 0) rfl (Sub.cons (t := 1) rfl (Sub.cons (t := 2) rfl (Sub.cons (t := 3) rfl (Sub.cons (t := 1000000) rfl (Sub.cons (t := 1000001) rfl (Sub.cons (t := 1000002) rfl Sub.nil))))))) ?_
      refine End.normal_block ?_
      refine End.normal_then (End.code ?_)
      refine A.reg (by kernel_rfl) (by kernel_rfl) (.inl rfl) ?_
      refine RunTK.last ?_
      refine RunK.step rfl rfl (ok_move rfl) ?_
      refine RunK.step rfl rfl (ok_bin rfl rfl rfl) ?_; refine RunK.as (.int .i64 ((q + 1 + 1 : Nat) : Int)) (by rw [wrap_i64 (by omega) (by omega)]; exact congrArg (Value.int .i64) (by omega)) ?_
      refine RunK.step rfl rfl (ok_assign rfl) ?_
      refine RunK.nil ?_
      refine End.sub (Sub.cons (t := 0) rfl (Sub.cons (t := 1) rfl (Sub.cons (t := 2) rfl (Sub.cons (t := 3) rfl (Sub.cons (t := 1000000) rfl (Sub.cons (t := 1000001) rfl (Sub.cons (t := 1000002) rfl Sub.nil))))))) ?_
      refine End.normal_then ?_
      refine End.again (q + 1) ?_ ?_ ?_
      · show _ ≤ _; omega
      · show _ - _ < _ - _; omega
      · exact (Sub.cons (t := 0) rfl (Sub.cons (t := 1) rfl (Sub.cons (t := 2) rfl (Sub.cons (t := 3) rfl (Sub.cons (t := 1000000) rfl (Sub.cons (t := 1000001) rfl (Sub.eq (t := 1000002) _ rfl (congrArg _ (pwV_set (q + 1))) Sub.nil)))))))
    · have hbr : (if 255 < 2 * gpow 3 q then (2 * gpow 3 q) ^^^ 283 else 2 * gpow 3 q) = 2 * gpow 3 q := if_neg (by simp at hc18; omega)
      refine A.skip ?_
      refine End.normal_then (End.code ?_)
      refine A.reg (by kernel_rfl) (by kernel_rfl) (.inl rfl) ?_
      refine RunTK.eff 9 (by decide) rfl (.inl rfl) ?_
      refine RunK.step rfl rfl (ok_move rfl) ?_
      refine RunK.step rfl rfl (ok_move rfl) ?_
      refine RunK.step rfl rfl (ok_conv Try.underlying3 Try.underlying5 rfl) ?_; refine RunK.as (.int .u8 (((if 255 < 2 * gpow 3 q then (2 * gpow 3 q) ^^^ 283 else 2 * gpow 3 q) % 256 : Nat) : Int)) (by rw [hbr, wrap_u8N]) ?_
      refine RunK.step rfl rfl (ok_move rfl) ?_
      refine RunK.step rfl rfl (ok_bin rfl rfl rfl) ?_; refine RunK.as (.int .i64 ((q : Nat) : Int)) (by rw [wrap_i64 (by omega) (by omega)]; exact congrArg (Value.int .i64) (by omega)) ?_
      refine RunK.step rfl rfl (ok_index0 (q) Try.underlying83 info5 rfl rfl (rfl) (by omega)) ?_
      refine RunK.step rfl rfl (ok_loadV (s := 1000002) (by decide) Try.underlying5 rfl rfl rfl (pwV_get (by omega) (by omega))) ?_
      refine RunK.step rfl rfl (ok_bin rfl rfl rfl) ?_; refine RunK.as (.int .u8 ((gpow 3 (q + 1) : Nat) : Int)) (by rw [show IntKind.u8.bits = 8 from rfl, xor_u8N (Nat.mod_lt _ (by decide)) (gpow_lt _), pow3_step (gpow_lt _)]; rfl) ?_
      refine RunK.step rfl rfl (ok_index0 (q + 1) Try.underlying83 info5 rfl rfl (rfl) (by omega)) ?_
      refine RunK.nil ?_
      refine ⟨_, eff_storeS (n := 46) (s := 1000002) info5 rfl rfl rfl hBb2 rfl (by first | (rw [pwV_length]; omega) | (rw [List.length_replicate]; decide)) (LeftS.cons (t := 0) rfl (Surv.v _) (LeftS.cons (t := 1) rfl (Surv.v _) (LeftS.cons (t := 2) rfl (Surv.v _) (LeftS.cons (t := 3) rfl (Surv.v _) (LeftS.cons (t := 4) rfl (Surv.v _) (LeftS.cons (t := 18) rfl (Surv.v _) (LeftS.cons (t := 21) rfl (Surv.v _) (LeftS.cons (t := 22) rfl (Surv.v _) (LeftS.cons (t := 23) rfl (Surv.v _) (LeftS.cons (t := 24) rfl (Surv.v _) (LeftS.cons (t := 25) rfl (Surv.v _) (LeftS.cons (t := 26) rfl (Surv.v _) (LeftS.cons (t := 27) rfl (Surv.v _) (LeftS.cons (t := 28) rfl (Surv.v _) (LeftS.cons (t := 29) rfl (Surv.v _) (LeftS.cons (t := 1000000) rfl (Surv.blk (by omega)) (LeftS.cons (t := 1000001) rfl (Surv.blk (by omega)) LeftS.nil))))))))))))))))), ?_⟩
      refine RunTK.last ?_
      refine RunK.nil ?_
      refine End.sub (Sub.cons (t := 0) rfl (Sub.cons (t := 1) rfl (Sub.cons (t := 2) rfl (Sub.cons (t := 3) rfl (Sub.cons (t := 1000000) rfl (Sub.cons (t := 1000001) rfl (Sub.cons (t := 1000002) rfl Sub.nil))))))) ?_
      refine End.normal_block ?_
      refine End.normal_then (End.code ?_)
      refine A.reg (by kernel_rfl) (by kernel_rfl) (.inl rfl) ?_
      refine RunTK.last ?_
      refine RunK.step rfl rfl (ok_move rfl) ?_
      refine RunK.step rfl rfl (ok_bin rfl rfl rfl) ?_; refine RunK.as (.int .i64 ((q + 1 + 1 : Nat) : Int)) (by rw [wrap_i64 (by omega) (by omega)]; exact congrArg (Value.int .i64) (by omega)) ?_
      refine RunK.step rfl rfl (ok_assign rfl) ?_
      refine RunK.nil ?_
      refine End.sub (Sub.cons (t := 0) rfl (Sub.cons (t := 1) rfl (Sub.cons (t := 2) rfl (Sub.cons (t := 3) rfl (Sub.cons (t := 1000000) rfl (Sub.cons (t := 1000001) rfl (Sub.cons (t := 1000002) rfl Sub.nil))))))) ?_
      refine End.normal_then ?_
      refine End.again (q + 1) ?_ ?_ ?_
      · show _ ≤ _; omega
      · show _ - _ < _ - _; omega
      · exact (Sub.cons (t := 0) rfl (Sub.cons (t := 1) rfl (Sub.cons (t := 2) rfl (Sub.cons (t := 3) rfl (Sub.cons (t := 1000000) rfl (Sub.cons (t := 1000001) rfl (Sub.eq (t := 1000002) _ rfl (congrArg _ (pwV_set (q + 1))) Sub.nil)))))))
  · obtain rfl : q = 255 := by simp at hc8; omega
    refine A.exit ?_
    refine End.exit_then ?_
    refine End.exit_then ?_
    refine End.exit_here ?_
    refine End.normal_then (End.code ?_)
    refine A.seq ?_
    refine A.regs (by kernel_rfl) (by kernel_rfl) (.inl rfl) ?_
    refine RunTK.last ?_
    refine RunK.step rfl rfl (ok_assign rfl) ?_
    refine RunK.nil ?_
    refine A.sub (Sub.cons (t := 0) rfl (Sub.cons (t := 1) rfl (Sub.cons (t := 2) rfl (Sub.cons (t := 5) rfl (Sub.cons (t := 1000000) rfl (Sub.cons (t := 1000001) rfl (Sub.cons (t := 1000002) rfl Sub.nil))))))) ?_
    refine A.block ?_
    refine A.loop (ι := Nat) (fun k => k ≤ 255) (fun k => [(0, .v (.pointer (some ⟨b0, 0, none⟩))), (1, .v (.pointer (some ⟨b1, 0, none⟩))), (2, .v (.pointer (some ⟨b2, 0, none⟩))), (5, .v (.int .i64 ((k : Nat) : Int))), (1000000, blk b0 83 (List.replicate 256 (.int .u8 0))), (1000001, blk b1 83 (stV k)), (1000002, blk b2 83 (pwV 256))]) (fun k => 255 - k) 0 ?_ ?_ ?_
    · exact Nat.zero_le _
    · exact (Sub.cons (t := 0) rfl (Sub.cons (t := 1) rfl (Sub.cons (t := 2) rfl (Sub.cons (t := 5) rfl (Sub.cons (t := 1000000) rfl (Sub.eq (t := 1000001) _ rfl (congrArg _ stV_zero) (Sub.cons (t := 1000002) rfl Sub.nil)))))))
    intro k hk
    refine A.seq ?_
    refine A.regs (by kernel_rfl) (by kernel_rfl) (.inl rfl) ?_
    refine RunTK.last ?_
    refine RunK.step rfl rfl (ok_move rfl) ?_
    refine RunK.step rfl rfl (ok_bin rfl rfl rfl) ?_
    refine RunK.nil ?_
    refine A.sub (Sub.cons (t := 0) rfl (Sub.cons (t := 1) rfl (Sub.cons (t := 2) rfl (Sub.cons (t := 5) rfl (Sub.cons (t := 31) rfl (Sub.cons (t := 1000000) rfl (Sub.cons (t := 1000001) rfl (Sub.cons (t := 1000002) rfl Sub.nil)))))))) ?_
    refine A.cond rfl (fun hc31 => ?_) (fun hc31 => ?_)
    · have hlt : k < 255 := by simp at hc31; omega
      refine A.skip ?_
      refine End.normal_then (End.code ?_)
      refine A.seq ?_
      refine A.block ?_
      refine A.reg (by kernel_rfl) (by kernel_rfl) (.inr (by kernel_rfl)) ?_
      refine RunTK.eff 9 (by decide) rfl (.inr (by kernel_rfl)) ?_
      refine RunK.step rfl rfl (ok_move rfl) ?_
      refine RunK.step rfl rfl (ok_index0 (k) Try.underlying83 info5 rfl rfl (rfl) (by omega)) ?_
      refine RunK.step rfl rfl (ok_loadV (s := 1000002) (by decide) Try.underlying5 rfl rfl rfl (pwV_get (by omega) (by omega))) ?_
      refine RunK.step rfl rfl (ok_move rfl) ?_
      refine RunK.step rfl rfl (ok_bin rfl rfl rfl) ?_; refine RunK.as (.int .i64 ((255 - k : Nat) : Int)) (by rw [wrap_i64 (by omega) (by omega)]; exact congrArg (Value.int .i64) (by omega)) ?_
      refine RunK.step rfl rfl (ok_index0 (255 - k) Try.underlying83 info5 rfl rfl (rfl) (by omega)) ?_
      refine RunK.step rfl rfl (ok_loadV (s := 1000002) (by decide) Try.underlying5 rfl rfl rfl (pwV_get (by omega) (by omega))) ?_
      refine RunK.step rfl rfl (ok_call (refSubst_fn (gpow 3 (255 - k)) (gpow_lt _)) (Args.cons rfl (by first | exact Le.refl _ | exact Le.old _ _ | exact le_byt _ _ | exact (Le.old _ _).trans (le_byt _ _) | exact le_lst _ _ | exact (Le.old _ _).trans (le_lst _ _) | exact (Le.old _ _).trans (Le.old _ _) | exact (Le.old _ _).trans ((Le.old _ _).trans (le_byt _ _)) | exact byt_nil_le | exact lst_nil_le | exact bytes_nil_le | exact list_nil_le) Args.nil)) ?_
      refine RunK.step rfl rfl (ok_index0 (gpow 3 k) Try.underlying83 info5 rfl rfl (rfl) (gpow_lt _)) ?_
      refine RunK.nil ?_
      refine ⟨_, eff_storeS (n := 46) (s := 1000001) info5 rfl rfl rfl hBb1 rfl (by rw [stV_length]; first | exact gpow_lt _ | decide) (LeftS.cons (t := 0) rfl (Surv.v _) (LeftS.cons (t := 1) rfl (Surv.v _) (LeftS.cons (t := 2) rfl (Surv.v _) (LeftS.cons (t := 5) rfl (Surv.v _) (LeftS.cons (t := 31) rfl (Surv.v _) (LeftS.cons (t := 34) rfl (Surv.v _) (LeftS.cons (t := 35) rfl (Surv.v _) (LeftS.cons (t := 36) rfl (Surv.v _) (LeftS.cons (t := 37) rfl (Surv.v _) (LeftS.cons (t := 38) rfl (Surv.v _) (LeftS.cons (t := 39) rfl (Surv.v _) (LeftS.cons (t := 40) rfl (Surv.v _) (LeftS.cons (t := 41) rfl (Surv.v _) (LeftS.cons (t := 42) rfl (Surv.v _) (LeftS.cons (t := 1000000) rfl (Surv.blk (by omega)) (LeftS.cons (t := 1000002) rfl (Surv.blk (by omega)) LeftS.nil)))))))))))))))), ?_⟩
      refine RunTK.last ?_
      refine RunK.nil ?_
      refine End.sub (Sub.cons (t := 0) rfl (Sub.cons (t := 1) rfl (Sub.cons (t := 2) rfl (Sub.cons (t := 5) rfl (Sub.cons (t := 1000000) rfl (Sub.cons (t := 1000001) rfl (Sub.cons (t := 1000002) rfl Sub.nil))))))) ?_
      refine End.normal_block ?_
      refine End.normal_then (End.code ?_)
      refine A.reg (by kernel_rfl) (by kernel_rfl) (.inl rfl) ?_
      refine RunTK.last ?_
      refine RunK.step rfl rfl (ok_move rfl) ?_
      refine RunK.step rfl rfl (ok_bin rfl rfl rfl) ?_; refine RunK.as (.int .i64 ((k + 1 : Nat) : Int)) (by rw [wrap_i64 (by omega) (by omega)]; exact congrArg (Value.int .i64) (by omega)) ?_
      refine RunK.step rfl rfl (ok_assign rfl) ?_
      refine RunK.nil ?_
      refine End.sub (Sub.cons (t := 0) rfl (Sub.cons (t := 1) rfl (Sub.cons (t := 2) rfl (Sub.cons (t := 5) rfl (Sub.cons (t := 1000000) rfl (Sub.cons (t := 1000001) rfl (Sub.cons (t := 1000002) rfl Sub.nil))))))) ?_
      refine End.normal_then ?_
      refine End.again (k + 1) ?_ ?_ ?_
      · show _ ≤ _; omega
      · show _ - _ < _ - _; omega
      · exact (Sub.cons (t := 0) rfl (Sub.cons (t := 1) rfl (Sub.cons (t := 2) rfl (Sub.cons (t := 5) rfl (Sub.cons (t := 1000000) rfl (Sub.eq (t := 1000001) _ rfl (congrArg _ (stV_set hlt)) (Sub.cons (t := 1000002) rfl Sub.nil)))))))
    · obtain rfl : k = 255 := by simp at hc31; omega
      refine A.exit ?_
      refine End.exit_then ?_
      refine End.exit_then ?_
      refine End.exit_here ?_
      refine End.normal_then (End.code ?_)
      refine A.regs (by kernel_rfl) (by kernel_rfl) (.inl rfl) ?_
      refine RunTK.eff 2 (by decide) rfl (.inl rfl) ?_
      refine RunK.step rfl rfl (ok_call (refSubst_fn 0 (by decide)) (Args.cons rfl (by first | exact Le.refl _ | exact Le.old _ _ | exact le_byt _ _ | exact (Le.old _ _).trans (le_byt _ _) | exact le_lst _ _ | exact (Le.old _ _).trans (le_lst _ _) | exact (Le.old _ _).trans (Le.old _ _) | exact (Le.old _ _).trans ((Le.old _ _).trans (le_byt _ _)) | exact byt_nil_le | exact lst_nil_le | exact bytes_nil_le | exact list_nil_le) Args.nil)) ?_
      refine RunK.step rfl rfl (ok_index0 (0) Try.underlying83 info5 rfl rfl (rfl) (by decide)) ?_
      refine RunK.nil ?_
      refine ⟨_, eff_storeS (n := 46) (s := 1000001) info5 rfl rfl rfl hBb1 rfl (by rw [stV_length]; first | exact gpow_lt _ | decide) (LeftS.cons (t := 0) rfl (Surv.v _) (LeftS.cons (t := 1) rfl (Surv.v _) (LeftS.cons (t := 2) rfl (Surv.v _) (LeftS.cons (t := 5) rfl (Surv.v _) (LeftS.cons (t := 31) rfl (Surv.v _) (LeftS.cons (t := 43) rfl (Surv.v _) (LeftS.cons (t := 44) rfl (Surv.v _) (LeftS.cons (t := 1000000) rfl (Surv.blk (by omega)) (LeftS.cons (t := 1000002) rfl (Surv.blk (by omega)) LeftS.nil))))))))), ?_⟩
      refine RunTK.last ?_
      refine RunK.nil ?_
      refine A.sub (Sub.cons (t := 0) rfl (Sub.cons (t := 1) rfl (Sub.cons (t := 1000000) rfl (Sub.cons (t := 1000001) rfl (Sub.cons (t := 1000002) rfl Sub.nil))))) ?_
      refine A.regs (by kernel_rfl) (by kernel_rfl) (.inl rfl) ?_
      refine RunTK.eff 1 (by decide) rfl (.inl rfl) ?_
      refine RunK.step rfl rfl (ok_loadA (s := 1000001) (by decide) Try.underlying83 rfl (size83.of (by rw [List.length_set, stV_length])) rfl rfl) ?_
      refine RunK.nil ?_
      refine ⟨_, eff_storeA (n := 46) (s := 1000000) (size83.of (by rw [List.length_set, stV_length])) rfl rfl (by rw [stV_full]; exact subV_one) hBb0 rfl (by rw [List.length_set, stV_length, List.length_replicate]) (LeftS.cons (t := 0) rfl (Surv.v _) (LeftS.cons (t := 1) rfl (Surv.v _) (LeftS.cons (t := 45) rfl (Surv.v _) (LeftS.cons (t := 1000001) rfl (Surv.blk (by omega)) (LeftS.cons (t := 1000002) rfl (Surv.blk (by omega)) LeftS.nil))))), ?_⟩
      refine RunTK.last ?_
      refine RunK.nil ?_
      refine A.sub (Sub.cons (t := 0) rfl (Sub.cons (t := 1000000) rfl (Sub.cons (t := 1000001) rfl (Sub.cons (t := 1000002) rfl Sub.nil)))) ?_
      refine A.ret ?_
      exact End.cell1 (s := 1000000) rfl Try.underlying83 rfl (size83.of (by rw [List.length_set, stV_length])) rfl rfl (Le.v (congrArg aggV stV_full))
end Go.Proofs.Ythggljahgnjcbaa
