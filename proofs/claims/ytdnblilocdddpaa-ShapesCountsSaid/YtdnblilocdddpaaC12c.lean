/-
 Package shapes by facts, part three: the path of a block, and the sequence of its places.
-/
import Derived.Test.YtdnblilocdddpaaShort
import Derived.Test.YtdnblilocdddpaaC12a
namespace Go.Proofs.Ytdnblilocdddpaa
open Go Go.RowKit
set_option linter.unusedVariables false
set_option maxRecDepth 20000
theorem zero54 : ZeroIs Try.prog 54 [.slice none 0 0] := by unfold ZeroIs; kernel_rfl

theorem info54 : InfoIs Try.prog 54 (.slice none 0 0) 24 := by unfold InfoIs; kernel_rfl
theorem Path_no (n : Nat) (h1 : 1 ≤ n) (h2 : n ≤ 4096) (x : Int) (hx : ¬ (0 ≤ x ∧ x < n)) : Fn Try.prog 31 [.v (nI (n)), .v (.int .i64 (x))] (.v (.tuple #[.slice none 0 0, .int .i64 1])) := by
 refine Fn.of Try.func31 rfl (by kernel_rfl) Try.ntmps31 (by simp) (fun w => [(0, .v (nI (n))), (1, .v (.int .i64 (x)))]) (fun w => (Start.v rfl (Start.v rfl Start.nil))) fun w₀ => ?_
 refine GS ?_
 refine TL ?_
 refine RA rfl ?_
 refine RA rfl ?_
 refine RN ?_
 refine A.seq ?_
 refine GS ?_
 refine TL ?_
 refine RM rfl ?_
 refine RM rfl ?_
 refine RS (ok_call (hasBlock_n n h1 h2 x hx) (A2 rfl rfl)) ?_
 refine RS (ok_not rfl) ?_
 refine RN ?_
 refine A.yes rfl ?_
 refine GS ?_
 refine TL ?_
 refine RA rfl ?_
 refine RA rfl ?_
 refine RN ?_
 refine A.ret ?_
 refine End.ret_then ?_
 exact End.ret2V rfl rfl rfl
theorem Path_bad (m : Int) (hm : ¬ (1 ≤ m ∧ m ≤ 4096)) (x : Int) : Fn Try.prog 31 [.v (.int .i64 (m)), .v (.int .i64 (x))] (.v (.tuple #[.slice none 0 0, .int .i64 1])) := by
 refine Fn.of Try.func31 rfl (by kernel_rfl) Try.ntmps31 (by simp) (fun w => [(0, .v (.int .i64 (m))), (1, .v (.int .i64 (x)))]) (fun w => (Start.v rfl (Start.v rfl Start.nil))) fun w₀ => ?_
 refine GS ?_
 refine TL ?_
 refine RA rfl ?_
 refine RA rfl ?_
 refine RN ?_
 refine A.seq ?_
 refine GS ?_
 refine TL ?_
 refine RM rfl ?_
 refine RM rfl ?_
 refine RS (ok_call (hasBlock_b m hm x) (A2 rfl rfl)) ?_
 refine RS (ok_not rfl) ?_
 refine RN ?_
 refine A.yes rfl ?_
 refine GS ?_
 refine TL ?_
 refine RA rfl ?_
 refine RA rfl ?_
 refine RN ?_
 refine A.ret ?_
 refine End.ret_then ?_
 exact End.ret2V rfl rfl rfl
theorem down_fnB (n b x : Nat) : FnB Try.prog 45 [.v (aggV (shV n b)), .v (nI (x))] (fun B => closR B 47 62 (shV n b) 3 [nI x]) := by
 refine FnB.of Try.func45 rfl (by kernel_rfl) Try.ntmps45 (by simp) (fun w => [(0, .v (aggV (shV n b))), (1, .v (nI (x)))]) (fun w => (Start.v rfl (Start.v rfl Start.nil))) fun w₀ => ?_
 refine GS ?_
 refine TN 0 ?_
 refine RN ?_
 refine ⟨_, _, eff_box (n := 6) (d := 2) (k := 1000002) rfl (by decide), fun b2 hb2 => ?_⟩
 have hBb2 := hb2.1
 refine TN 1 ?_
 refine RN ?_
 refine ⟨_, _, eff_box1 (n := 6) (d := 3) (k := 1000003) rfl rfl (by decide), fun b3 hb3 => ?_⟩
 have hBb3 := hb3.1
 have hlt_b2_b3 : b2 < b3 := hb3.2 1000002 _ _ _ rfl
 refine TL ?_
 refine RA rfl ?_
 refine RN ?_
 refine GS ?_
 refine TL ?_
 refine RS (ok_makeFuncN [ptr b2, ptr b3] ⟨rfl, rfl, trivial⟩) ?_
 refine RA rfl ?_
 refine RN ?_
 refine A.ret ?_
 exact End.closR (.inl rfl) rfl hBb2 hBb3 (by omega) rfl (k₁ := 1000002) (k₂ := 1000003) rfl rfl
theorem down1_seq {w₀ : World} {n l p q b x : Nat} {J : Nat → World → Prop} (h1 : 1 ≤ n) (h2 : n ≤ 4096) (hx : x < n)
  (hq : SeqsX Try.prog w₀ (hg n + 1) l (fun i => .v (aggV (stp n x i))) (fun _ => [(1000091, blk p 62 (shV n b)), (1000092, blk q 3 [nI x])]) J (fun _ : Unit => [])) {w : World} (h0 : J 0 w) :
  Calls Try.prog 47 (.func (.yield l) #[] #[] :: [ptr p, ptr q] : List Value).toArray w fun e W => (∃ v, e = .returned v) ∧ J (hg n + 1) W := by
 have hh := hg_le n
 obtain ⟨hb, hs, hV⟩ := hq.holds 0 w h0
 refine Calls.within (n := 20) (E := [(0, .v (.func (.yield l) #[] #[])), (1, .v (ptr p)), (2, .v (ptr q)), (1000090, jD (J 0)), (1000091, blk p 62 (shV n b)), (1000092, blk q 3 [nI x])]) Try.func47 rfl Try.ntmps47 (by simp) (by decide) hb hs ?_ ?_
 ·intro x hx
  simp only [List.mem_cons, List.not_mem_nil, or_false] at hx
  rcases hx with rfl | rfl | rfl | rfl | rfl | rfl
  ·exact .inr ⟨_, rfl, rfl⟩
  ·exact .inr ⟨_, rfl, rfl⟩
  ·exact .inr ⟨_, rfl, rfl⟩
  ·exact .inl ⟨vle rfl, jD_mk h0⟩
  ·exact .inl ⟨vle rfl, hV _ (by simp)⟩
  ·exact .inl ⟨vle rfl, hV _ (by simp)⟩
 refine GS ?_
 refine TL ?_
 refine RS (ok_loadA (s := 1000091) (by decide) Try.underlying62 rfl (size62.of (rfl)) rfl rfl) ?_
 refine RS (ok_call (height_fn n b) (A1 rfl)) ?_
 refine RA rfl ?_
 refine RN ?_
 refine A.block ?_
 refine A.loop (ι := Nat) (fun i => i ≤ hg n + 1) (fun i => [(0, .v (.func (.yield l) #[] #[])), (2, .v (ptr q)), (4, .v (.int .i64 ((hg n : Int) - ((i : Nat) : Int)))), (1000090, jD (J i)), (1000091, blk p 62 (shV n b)), (1000092, blk q 3 [nI x])]) (fun i => hg n + 1 - i) 0 ?_ ?_ ?_
 ·exact Nat.zero_le _
 ·exact (KC 0 rfl (KC 2 rfl (KE 4 rfl (congrArg (fun z : Int => D.v (.int .i64 z)) (show (hg n : Int) = _ by omega)) (KC 1000090 rfl (KC 1000091 rfl (KC 1000092 rfl KN))))))
 intro i hi'
 refine A.seq ?_
 refine GS ?_
 refine TL ?_
 refine RM rfl ?_
 refine RB rfl rfl rfl ?_
 refine RN ?_
 refine A.cond rfl (fun hc8 => ?_) (fun hc8 => ?_)
 ·have hlt : i < hg n + 1 := by simp at hc8; omega
  refine A.skip ?_
  refine EN ?_
  refine A.seq ?_
  refine A.block ?_
  refine GD ?_
  refine TD 7 ?_
  refine RM rfl ?_
  refine RM rfl ?_; refine RZ (nI (hg n - i)) (congrArg (Value.int .i64) (by omega)) ?_
  refine RS (ok_loadV (s := 1000092) (by decide) Try.underlying3 rfl rfl rfl (rfl)) ?_
  refine RM rfl ?_; refine RZ (nI (hg n - i)) (congrArg (Value.int .i64) (by omega)) ?_
  refine RS (ok_call (span_fn (hg n - i) (by omega)) (A1 rfl)) ?_
  refine RS (ok_div rfl rfl (by have := pow_pos4 (hg n - i + 1); omega)) ?_; refine RZ (nI (x / 4 ^ (hg n - i + 1))) (by rw [tdiv_nat]; exact wrap_eq rfl (by have := Nat.div_le_self x (4 ^ (hg n - i + 1)); omega)) ?_
  refine RS (ok_litS [(0, nI (hg n - i)), (1, nI (x / 4 ^ (hg n - i + 1)))] (stp n x i) ⟨rfl, rfl, rfl, rfl, trivial⟩ (buildP _ _)) ?_
  refine RN ?_
  refine ⟨_, eff_yieldX (vJ := 1000090) hq () i hlt rfl rfl rfl (Le.refl _) (by decide) (fun p hp => by simp only [List.mem_cons, List.not_mem_nil, or_false] at hp; rcases hp with rfl | rfl <;> exact vle rfl) (fun p hp => by cases hp) (fun p hp => by cases hp) (by decide) (Left.cons (t := 0) rfl (Stays.v _ _) (Left.cons (t := 2) rfl (Stays.v _ _) (Left.cons (t := 4) rfl (Stays.v _ _) Left.nil))), ?_⟩
  refine TL ?_
  refine RS (ok_not rfl) ?_
  refine RN ?_
  refine A.no rfl ?_
  refine A.skip ?_
  refine End.normal_block ?_
  refine EN ?_
  refine GE ?_
  refine TL ?_
  refine RM rfl ?_
  refine RBS rfl rfl rfl (.int .i64 ((hg n : Int) - ((i + 1 : Nat) : Int))) (by rw [wrap_i64 (by omega) (by omega)]; congr 1; omega) ?_
  refine RA rfl ?_
  refine RN ?_
  refine End.normal_then ?_
  refine End.again (i + 1) ?_ ?_ ?_
  ·show _ ≤ _; omega
  ·show _ - _ < _ - _; omega
  ·exact (KC 0 rfl (KC 2 rfl (KC 4 rfl (KC 1000090 rfl (KC 1000091 rfl (KC 1000092 rfl KN))))))
 ·obtain rfl : i = hg n + 1 := by simp at hc8; omega
  refine A.exit ?_
  refine End.exit_then ?_
  refine End.exit_then ?_
  refine End.exit_here ?_
  exact End.seqX (vJ := 1000090) hq rfl rfl
set_option maxHeartbeats 2000000 in
theorem Path_fnB (n : Nat) (h1 : 1 ≤ n) (h2 : n ≤ 4096) (x : Nat) (hx : x < n) : FnB Try.prog 31 [.v (nI (n)), .v (nI (x))] (fun B => newD B 45 (fun b => .tuple #[.slice (some ⟨b, 0, none⟩) (hg n + 1) (hg n + 1), .int .i64 0]) (pathV n x (hg n + 1))) := by
 have hh := hg_le n
 refine FnB.of Try.func31 rfl (by kernel_rfl) Try.ntmps31 (by simp) (fun w => [(0, .v (nI (n))), (1, .v (nI (x)))]) (fun w => (Start.v rfl (Start.v rfl Start.nil))) fun w₀ => ?_
 refine GS ?_
 refine TL ?_
 refine RA rfl ?_
 refine RA rfl ?_
 refine RN ?_
 refine A.seq ?_
 refine GS ?_
 refine TL ?_
 refine RM rfl ?_
 refine RM rfl ?_
 refine RS (ok_call (hasBlock_y n h1 h2 x hx) (A2 rfl rfl)) ?_
 refine RS (ok_not rfl) ?_
 refine RN ?_
 refine A.no rfl ?_
 refine A.skip ?_
 refine EN ?_
 refine GS ?_
 refine TN 1 ?_
 refine RM rfl ?_
 refine RN ?_
 refine ⟨_, _, eff_name (n := 28) (d := 14) (k := 1000014) rfl rfl (fun B' => ok_callB (shapeOf_fnB n h1 h2) (fun _ _ h => newD_mono _ _ h) (A1 rfl)) (by decide) (by decide), fun b14 hb14 => ?_⟩
 have hBb14 := hb14.1
 refine TN 2 ?_
 refine RN ?_
 refine ⟨_, _, eff_alloc (n := 28) (d := 6) (k := 1000006) zero62 (by decide), fun b6 hb6 => ?_⟩
 have hBb6 := hb6.1
 refine TF 3 ?_
 refine RN ?_
 refine ⟨_, eff_storeA (n := 28) (s := 1000006) (size62.of (rfl)) rfl rfl (rfl) hBb6 rfl (rfl) (LV 1 rfl (LV 6 rfl (LT 1000014 rfl LN))), ?_⟩
 refine TL ?_
 refine RN ?_
 refine GS ?_
 refine TN 3 ?_
 refine RS (ok_field field62_1 (by decide) rfl) ?_
 refine RS (ok_loadV (s := 1000006) (by decide) Try.underlying60 rfl rfl rfl (rfl)) ?_
 refine RS (ok_lenV Try.underlying60 rfl) ?_
 refine RN ?_
 refine ⟨_, _, eff_name (n := 28) (d := 18) (k := 1000018) rfl rfl (fun B' => ok_makePl (hg n + 1) Try.underlying54 infoPP (by decide) rfl rfl (by omega)) (by decide) (by decide), fun b18 hb18 => ?_⟩
 have hBb18 := hb18.1
 have hlt_b6_b18 : b6 < b18 := hb18.2 1000006 _ _ _ rfl
 have hlt_b14_b18 : b14 < b18 := hb18.2 1000014 _ _ _ rfl
 refine TN 4 ?_
 refine RN ?_
 refine ⟨_, _, eff_alloc (n := 28) (d := 7) (k := 1000007) zero54 (by decide), fun b7 hb7 => ?_⟩
 have hBb7 := hb7.1
 refine TF 5 ?_
 refine RN ?_
 refine ⟨_, eff_storeS (n := 28) (s := 1000007) info54 rfl rfl rfl hBb7 rfl (by simp) (LV 1 rfl (LV 6 rfl (LV 7 rfl (LT 1000006 rfl (LT 1000014 rfl (LT 1000018 rfl LN)))))), ?_⟩
 refine TL ?_
 refine RN ?_
 refine A.seq ?_
 refine GS ?_
 refine TL ?_
 refine RS (ok_loadA (s := 1000006) (by decide) Try.underlying62 rfl (size62.of (rfl)) rfl rfl) ?_
 refine RM rfl ?_
 refine RS (ok_callB (down_fnB n b14 x) (fun _ _ => closR_mono _ _) (A2 rfl rfl)) ?_
 refine RN ?_
 refine A.openClosR (t := 21) (k₁ := 1000091) (k₂ := 1000092) rfl fun p q hBp hBq hpq => ?_
 refine A.block ?_
 refine A.rangeX (X := Unit) (gf := 47) (N := hg n + 1) (vL := 1000098) (vD := 1000099) (tp := 22) (lb := [ptr p, ptr q]) (S := [(7, .v (ptr b7))]) (XE := fun _ : Unit => [])
  (V := fun i => [(1000007, blk b7 54 [.slice (some ⟨b18, 0, none⟩) (i) (hg n + 1)]), (1000018, blk b18 45 (pathV n x (i))), (1000091, blk p 62 (shV n b14)), (1000092, blk q 3 [nI x])])
  (Eb := fun i _ => (8, freshV w₀.heap.size [] 45 (stp n x i)) :: (22, .v (aggV (stp n x i))) :: ([(1000007, blk b7 54 [.slice (some ⟨b18, 0, none⟩) (i) (hg n + 1)]), (1000018, blk b18 45 (pathV n x (i))), (1000091, blk p 62 (shV n b14)), (1000092, blk q 3 [nI x])] ++ [(7, .v (ptr b7))] ++ []))
  (arg := fun i => .v (aggV (stp n x i))) rfl ⟨_, Try.func47, by kernel_rfl, rfl⟩ (by decide) (by decide) (KC 1000007 rfl (KE 1000018 rfl (by rfl) (KC 1000091 rfl (KC 1000092 rfl (KC 7 rfl KN)))))
  (fun x hx => by simp only [List.mem_cons, List.not_mem_nil, or_false] at hx; rcases hx with rfl; exact ⟨vlt rfl, .inl ⟨_, rfl⟩⟩)
  (fun i x hx => by simp only [List.mem_cons, List.not_mem_nil, or_false] at hx; rcases hx with rfl | rfl | rfl | rfl <;> exact vle rfl)
  (fun z x hx => by cases hx)
  (fun z l _ x hx => by cases hx)
  (fun i l' hl x hx => by simp only [List.mem_cons, List.not_mem_nil, or_false] at hx; rcases hx with rfl | rfl | rfl | rfl <;> first | exact Firm.blk | exact Firm.v _ _ | exact Firm.freshV)
  (fun i z l' hl x hx => by simp only [List.mem_cons, List.mem_append, List.not_mem_nil, or_false] at hx; rcases hx with rfl | rfl | ((rfl | rfl | rfl | rfl) | rfl) <;> first | exact Firm.blk | exact Firm.v _ _ | exact Firm.freshV)
  (fun J l' w hq h0 => down1_seq (b := b14) h1 h2 hx (hq.sub fun i x hx => by simp only [List.mem_cons, List.not_mem_nil, or_false] at hx ⊢; rcases hx with rfl | rfl <;> simp) h0)
  (fun i l' a w z _ hb h => assign_box zero45 (size45.of rfl) rfl rfl (by decide) (by decide) hb h) ?_ ?_
 ·intro i l' D rr mm z hi'
  refine A.openFresh (t := 8) (k := 1000008) rfl fun b8 hBb8 => ?_
  refine A.block ?_
  refine GE ?_
  refine TF 3 ?_
  refine RS (ok_loadV (s := 1000007) (by decide) Try.underlying54 rfl rfl rfl (rfl)) ?_
  refine RS (ok_loadA (s := 1000008) (by decide) Try.underlying45 rfl (size45.of (rfl)) rfl rfl) ?_
  refine RS (ok_build1P Try.underlying54 infoPP rfl rfl) ?_
  refine RN ?_
  refine ⟨_, eff_appendRoom (n := 28) (s := 1000018) (k := i) (c := hg n + 1) (us := stp n x i) Try.underlying54 infoPP rfl rfl rfl rfl (by omega) hBb18 rfl (by rw [pathV_length (by omega)]; omega) (fun q hq => by rw [Try.underlying54] at hq; cases hq) (by decide) (LV 7 rfl (LT 1000007 rfl (LT 1000091 rfl (LT 1000092 rfl (LeftS.cons (t := 1000098) rfl (Surv.rec rfl) (LeftS.cons (t := 1000099) rfl (Surv.rec rfl) LN)))))), ?_⟩
  refine TF 4 ?_
  refine RN ?_
  refine ⟨_, eff_storeS (n := 28) (s := 1000007) info54 rfl rfl rfl hBb7 rfl (by simp) (LT 1000018 rfl (LT 1000091 rfl (LT 1000092 rfl (LeftS.cons (t := 1000098) rfl (Surv.rec rfl) (LeftS.cons (t := 1000099) rfl (Surv.rec rfl) LN))))), ?_⟩
  refine TL ?_
  refine RN ?_
  refine End.sub (KC 1000007 rfl (KE 1000018 rfl (show blk b18 45 _ = blk b18 45 (pathV n x (i + 1)) from congrArg _ (pathV_set (by omega))) (KC 1000091 rfl (KC 1000092 rfl (KC 1000098 rfl (KC 1000099 rfl KN)))))) ?_
  refine End.normal_block ?_
  exact End.round (KC 1000098 rfl (KC 1000099 rfl (KC 1000007 rfl (KC 1000018 rfl (KC 1000091 rfl (KC 1000092 rfl KN)))))) (fun x hx => by simp only [List.mem_cons, List.mem_append, List.not_mem_nil, or_false] at hx; rcases hx with rfl | rfl | (rfl | rfl | rfl | rfl) <;> exact vle rfl) (by decide)
 ·intro D hD
  refine End.normal_block ?_
  refine EN ?_
  refine GS ?_
  refine TL ?_
  refine RS (ok_loadV (s := 1000007) (by decide) Try.underlying54 rfl rfl rfl (rfl)) ?_
  refine RA rfl ?_
  refine RA rfl ?_
  refine RN ?_
  refine A.ret ?_
  exact End.newTTC (vD := 1000099) rfl hD rfl rfl rfl (kg := 1000018) rfl hBb18 rfl rfl
end Go.Proofs.Ytdnblilocdddpaa
