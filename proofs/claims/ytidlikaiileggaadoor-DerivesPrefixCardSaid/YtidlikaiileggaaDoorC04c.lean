/-
  Package derives by facts.
-/
import Derived.Test.YtidlikaiileggaaDoorC03b
import Derived.Test.YtidlikaiileggaaDoorC04a
import Derived.Test.YtidlikaiileggaaDoorRangeX
import Derived.Test.YtidlikaiileggaaDoorWrite
namespace Go.Proofs.YtidlikaiileggaaDoor
open Go Go.RowKit
set_option linter.unusedVariables false
theorem zero22 : ZeroIs Tryd.prog 22 [.slice none 0 0] := by unfold ZeroIs; kernel_rfl

theorem zero39 : ZeroIs Tryd.prog 39 (List.replicate 16 (.int .u8 0) ++ List.replicate 32 (.int .u8 0)) := by unfold ZeroIs; kernel_rfl
theorem size39 : SizeIs Tryd.prog 39 48 := by unfold SizeIs; kernel_rfl
theorem field39_0 : FieldIs Tryd.prog 39 0 0 16 := by unfold FieldIs; kernel_rfl
theorem field39_1 : FieldIs Tryd.prog 39 1 16 32 := by unfold FieldIs; kernel_rfl
theorem Extract_fn (k m : List UInt8) (hk : k.length ≤ 1000) (hm : m.length ≤ 10000) : FnM Tryd.prog 9 tabs [byt k, byt m] (.v (aggV ((hmac k m).map byteV))) := by
  refine FnM.of Tryd.func9 rfl (by kernel_rfl) Tryd.ntmps9 (by simp) (by decide) (fun w => [(0, old w.heap.size (byt k)), (1, old w.heap.size (byt m)), (1900000, tab 0 (H8.list.map u32V)), (1900001, tab 1 (K64.map u32V))]) (fun w => (StartM.old rfl (StartM.old rfl (StartM.m (by simp [tabs]) (by decide) (StartM.m (by simp [tabs]) (by decide) StartM.nil))))) fun w₀ hM => ?_
  have htab := tabs_hi hM
  refine A.regs (by kernel_rfl) (by kernel_rfl) (.inl rfl) ?_
  refine RunTK.new 0 (by decide) rfl (.inl rfl) ?_
  refine RunK.nil ?_
  refine ⟨_, _, eff_alloc (n := 9) (d := 4) (k := 1000004) zero25 (by decide), fun b4 hb4 => ?_⟩
  have hBb4 := hb4.1
  refine RunTK.last ?_
  refine RunK.nil ?_
  refine A.sub (Sub.cons (t := 0) rfl (Sub.cons (t := 1) rfl (Sub.cons (t := 4) rfl (Sub.cons (t := 1000004) rfl (Sub.cons (t := 1900000) rfl (Sub.cons (t := 1900001) rfl Sub.nil)))))) ?_
  refine A.regs (by kernel_rfl) (by kernel_rfl) (.inl rfl) ?_
  refine RunTK.eff 4 (by decide) rfl (.inl rfl) ?_
  refine RunK.step rfl rfl (ok_move rfl) ?_
  refine RunK.step rfl rfl (ok_move rfl) ?_
  refine RunK.step rfl rfl (ok_build [old w₀.heap.size (byt m)] Tryd.underlying52 info22 rfl (by decide) (by decide) rfl ⟨rfl, rfl, trivial⟩ (fun d hd w x h => by simp only [List.mem_cons, List.not_mem_nil, or_false] at hd; subst hd; exact old_one (fun _ _ h => lst_one h) h)) ?_
  refine RunK.step rfl rfl (ok_callM (macOf_fn k [m] m (by simp) hk (by simp) hm) (Sub.cons rfl (Sub.cons rfl Sub.nil)) tabs_v (Args.cons rfl (Le.old _ _) (Args.cons rfl (list_lst1 (Le.old _ _)) Args.nil))) ?_
  refine RunK.nil ?_
  refine ⟨_, eff_storeA (n := 9) (s := 1000004) (size25.of (by rw [List.length_map, hmac_length])) rfl rfl (all_bytes _) hBb4 rfl (by rw [List.length_map, hmac_length, List.length_replicate]) (LeftS.cons (t := 0) rfl (Surv.old (by omega)) (LeftS.cons (t := 1) rfl (Surv.old (by omega)) (LeftS.cons (t := 4) rfl (Surv.v _) (LeftS.cons (t := 5) rfl (Surv.old (by omega)) (LeftS.cons (t := 6) rfl (Surv.old (by omega)) (LeftS.cons (t := 8) rfl (Surv.v _) (LeftS.cons (t := 1900000) rfl (Surv.tab (by omega)) (LeftS.cons (t := 1900001) rfl (Surv.tab (by omega)) LeftS.nil)))))))), ?_⟩
  refine RunTK.last ?_
  refine RunK.nil ?_
  refine A.sub (Sub.cons (t := 4) rfl (Sub.cons (t := 1000004) rfl (Sub.cons (t := 1900000) rfl (Sub.cons (t := 1900001) rfl Sub.nil)))) ?_
  refine A.ret ?_
  exact End.cell1 (s := 1000004) rfl Tryd.underlying25 rfl (size25.of (by rw [List.length_map, hmac_length])) rfl rfl (Le.refl _)
theorem tags_fnB (d₀ d₁ : D) (n : Int) (h₀ : ∀ w u, d₀.Of w u → u.oneCell' = true) (h₁ : ∀ w u, d₁.Of w u → u.oneCell' = true) : FnB Tryd.prog 20 [d₀, d₁, .v (.int .i64 n)] (fun B => clos3 B 30 3 (.v (.int .i64 n)) 22 d₀ 22 d₁) := by
  refine FnB.of Tryd.func20 rfl (by kernel_rfl) Tryd.ntmps20 (by simp) (fun w => [(0, old w.heap.size (d₀)), (1, old w.heap.size (d₁)), (2, .v (.int .i64 n))]) (fun w => (Start.old rfl (Start.old rfl (Start.v rfl Start.nil)))) fun w₀ => ?_
  refine A.regs (by kernel_rfl) (by kernel_rfl) (.inl rfl) ?_
  refine RunTK.new 0 (by decide) rfl (.inl rfl) ?_
  refine RunK.nil ?_
  refine ⟨_, _, eff_boxD (n := 8) (d := 3) (k := 1000003) rfl (fun w u h => h₀ w u ((Le.old _ _).of h)) (by decide), fun b3 hb3 => ?_⟩
  have hBb3 := hb3.1
  refine RunTK.new 1 (by decide) rfl (.inl rfl) ?_
  refine RunK.nil ?_
  refine ⟨_, _, eff_boxD (n := 8) (d := 4) (k := 1000004) rfl (fun w u h => h₁ w u ((Le.old _ _).of h)) (by decide), fun b4 hb4 => ?_⟩
  have hBb4 := hb4.1
  have hlt_b3_b4 : b3 < b4 := hb4.2.2 1000003 _ _ _ rfl
  refine RunTK.new 2 (by decide) rfl (.inl rfl) ?_
  refine RunK.nil ?_
  refine ⟨_, _, eff_boxD (n := 8) (d := 5) (k := 1000005) rfl (fun w u h => v_one rfl h) (by decide), fun b5 hb5 => ?_⟩
  have hBb5 := hb5.1
  have hlt_b3_b5 : b3 < b5 := hb5.2.2 1000003 _ _ _ rfl
  have hlt_b4_b5 : b4 < b5 := hb5.2.2 1000004 _ _ _ rfl
  refine RunTK.last ?_
  refine RunK.step rfl rfl (ok_assign rfl) ?_
  refine RunK.nil ?_
  refine A.sub (Sub.cons (t := 3) rfl (Sub.cons (t := 4) rfl (Sub.cons (t := 5) rfl (Sub.cons (t := 1000003) rfl (Sub.cons (t := 1000004) rfl (Sub.cons (t := 1000005) rfl Sub.nil)))))) ?_
  refine A.regs (by kernel_rfl) (by kernel_rfl) (.inl rfl) ?_
  refine RunTK.last ?_
  refine RunK.step rfl rfl (ok_makeFuncN [ptr b5, ptr b3, ptr b4] ⟨rfl, rfl, rfl, trivial⟩) ?_
  refine RunK.step rfl rfl (ok_assign rfl) ?_
  refine RunK.nil ?_
  refine A.sub (Sub.cons (t := 6) rfl (Sub.cons (t := 1000003) rfl (Sub.cons (t := 1000004) rfl (Sub.cons (t := 1000005) rfl Sub.nil)))) ?_
  refine A.ret ?_
  exact End.clos3 rfl ⟨hBb5, hBb3, hBb4⟩ ⟨by omega, by omega, by omega⟩ rfl (k₁ := 1000005) (k₂ := 1000003) (k₃ := 1000004) rfl (Le.refl _) rfl (Le.old _ _) rfl (Le.old _ _)
theorem tags1_seq {w₀ : World} {N l p q r : Nat} {J : Nat → World → Prop} {prk info : List UInt8} (hN : N ≤ 255) (hp : prk.length ≤ 1000) (hi : info.length ≤ 1000) (htab : 1 < w₀.heap.size)
    (hq : SeqsX Tryd.prog w₀ N l (fun i => .v (aggV ((hkT prk info (i + 1)).map byteV))) (fun _ => [(1000091, varD p 3 (.v (.int .i64 ((N : Nat) : Int)))), (1000092, varD q 22 (old w₀.heap.size (byt prk))), (1000093, varD r 22 (old w₀.heap.size (byt info))), (1900000, tab 0 (H8.list.map u32V)), (1900001, tab 1 (K64.map u32V))]) J (fun z : Nat × List Value => [(1000007, blk z.1 25 z.2)])) {w : World} (h0 : J 0 w) :
    Calls Tryd.prog 30 (.func (.yield l) #[] #[] :: [ptr p, ptr q, ptr r] : List Value).toArray w fun e W => (∃ v, e = .returned v) ∧ J N W := by
  obtain ⟨hb, hs, hV⟩ := hq.holds 0 w h0
  refine Calls.within (n := 27) (E := [(0, .v (.func (.yield l) #[] #[])), (1, .v (ptr p)), (2, .v (ptr q)), (3, .v (ptr r)), (1000090, jD (J 0)), (1000091, varD p 3 (.v (.int .i64 ((N : Nat) : Int)))), (1000092, varD q 22 (old w₀.heap.size (byt prk))), (1000093, varD r 22 (old w₀.heap.size (byt info))), (1900000, tab 0 (H8.list.map u32V)), (1900001, tab 1 (K64.map u32V))]) Tryd.func30 rfl Tryd.ntmps30 (by simp) (by decide) hb hs ?_ ?_
  · intro x hx
    simp only [List.mem_cons, List.not_mem_nil, or_false] at hx
    rcases hx with rfl | rfl | rfl | rfl | rfl | rfl | rfl | rfl | rfl | rfl
    · exact .inr ⟨_, rfl, rfl⟩
    · exact .inr ⟨_, rfl, rfl⟩
    · exact .inr ⟨_, rfl, rfl⟩
    · exact .inr ⟨_, rfl, rfl⟩
    · exact .inl ⟨vle rfl, jD_mk h0⟩
    · exact .inl ⟨vle rfl, hV _ (by simp)⟩
    · exact .inl ⟨vle rfl, hV _ (by simp)⟩
    · exact .inl ⟨vle rfl, hV _ (by simp)⟩
    · exact .inl ⟨vle rfl, hV _ (by simp)⟩
    · exact .inl ⟨vle rfl, hV _ (by simp)⟩
  refine A.regs (by kernel_rfl) (by kernel_rfl) (.inl rfl) ?_
  refine RunTK.last ?_
  refine RunK.step rfl rfl (ok_assign rfl) ?_
  refine RunK.nil ?_
  refine A.sub (Sub.cons (t := 0) rfl (Sub.cons (t := 1) rfl (Sub.cons (t := 2) rfl (Sub.cons (t := 3) rfl (Sub.cons (t := 5) rfl (Sub.cons (t := 1000090) rfl (Sub.cons (t := 1000091) rfl (Sub.cons (t := 1000092) rfl (Sub.cons (t := 1000093) rfl (Sub.cons (t := 1900000) rfl (Sub.cons (t := 1900001) rfl Sub.nil))))))))))) ?_
  refine A.regs (by kernel_rfl) (by kernel_rfl) (.inl rfl) ?_
  refine RunTK.last ?_
  refine RunK.step rfl rfl (ok_loadD (s := 1000091) (by decide) Tryd.underlying3 rfl rfl rfl) ?_
  refine RunK.step rfl rfl (ok_move rfl) ?_
  refine RunK.nil ?_
  refine A.sub (Sub.cons (t := 0) rfl (Sub.cons (t := 2) rfl (Sub.cons (t := 3) rfl (Sub.cons (t := 5) rfl (Sub.cons (t := 8) rfl (Sub.cons (t := 9) rfl (Sub.cons (t := 1000090) rfl (Sub.cons (t := 1000091) rfl (Sub.cons (t := 1000092) rfl (Sub.cons (t := 1000093) rfl (Sub.cons (t := 1900000) rfl (Sub.cons (t := 1900001) rfl Sub.nil)))))))))))) ?_
  refine A.block ?_
  refine A.subL (SubL.cons (t := 0) rfl (Le.refl _) (SubL.cons (t := 2) rfl (Le.refl _) (SubL.cons (t := 3) rfl (Le.refl _) (SubL.cons (t := 5) rfl (byt_nil_le) (SubL.cons (t := 8) rfl (Le.refl _) (SubL.cons (t := 9) rfl (Le.refl _) (SubL.cons (t := 1000090) rfl (Le.refl _) (SubL.cons (t := 1000091) rfl (Le.refl _) (SubL.cons (t := 1000092) rfl (Le.refl _) (SubL.cons (t := 1000093) rfl (Le.refl _) (SubL.cons (t := 1900000) rfl (Le.refl _) (SubL.cons (t := 1900001) rfl (Le.refl _) SubL.nil)))))))))))) ?_
  refine A.loop (ι := Nat) (fun i => i ≤ N) (fun i => [(0, .v (.func (.yield l) #[] #[])), (2, .v (ptr q)), (3, .v (ptr r)), (5, byt (hkT prk info i)), (8, .v (.int .i64 ((N : Nat) : Int))), (9, .v (.int .i64 ((i : Nat) : Int))), (1000090, jD (J i)), (1000091, varD p 3 (.v (.int .i64 ((N : Nat) : Int)))), (1000092, varD q 22 (old w₀.heap.size (byt prk))), (1000093, varD r 22 (old w₀.heap.size (byt info))), (1900000, tab 0 (H8.list.map u32V)), (1900001, tab 1 (K64.map u32V))]) (fun i => N - i) 0 ?_ ?_ ?_
  · exact Nat.zero_le _
  · exact (Sub.cons (t := 0) rfl (Sub.cons (t := 2) rfl (Sub.cons (t := 3) rfl (Sub.eq (t := 5) _ rfl (by rfl) (Sub.cons (t := 8) rfl (Sub.cons (t := 9) rfl (Sub.cons (t := 1000090) rfl (Sub.cons (t := 1000091) rfl (Sub.cons (t := 1000092) rfl (Sub.cons (t := 1000093) rfl (Sub.cons (t := 1900000) rfl (Sub.cons (t := 1900001) rfl Sub.nil))))))))))))
  intro i hi'
  refine A.regs (by kernel_rfl) (by kernel_rfl) (.inl rfl) ?_
  refine RunTK.last ?_
  refine RunK.step rfl rfl (ok_bin rfl rfl rfl) ?_
  refine RunK.nil ?_
  refine A.sub (Sub.cons (t := 0) rfl (Sub.cons (t := 2) rfl (Sub.cons (t := 3) rfl (Sub.cons (t := 5) rfl (Sub.cons (t := 8) rfl (Sub.cons (t := 9) rfl (Sub.cons (t := 10) rfl (Sub.cons (t := 1000090) rfl (Sub.cons (t := 1000091) rfl (Sub.cons (t := 1000092) rfl (Sub.cons (t := 1000093) rfl (Sub.cons (t := 1900000) rfl (Sub.cons (t := 1900001) rfl Sub.nil))))))))))))) ?_
  refine A.seq ?_
  refine A.cond rfl (fun hc10 => ?_) (fun hc10 => ?_)
  · have hlt : i < N := by simp at hc10; omega
    refine A.skip ?_
    refine End.normal_then (End.code ?_)
    refine A.seq ?_
    refine A.block ?_
    refine A.regs (by kernel_rfl) (by kernel_rfl) (.inl rfl) ?_
    refine RunTK.last ?_
    refine RunK.step rfl rfl (ok_move rfl) ?_
    refine RunK.step rfl rfl (ok_assign rfl) ?_
    refine RunK.nil ?_
    refine A.sub (Sub.cons (t := 0) rfl (Sub.cons (t := 2) rfl (Sub.cons (t := 3) rfl (Sub.cons (t := 5) rfl (Sub.cons (t := 6) rfl (Sub.cons (t := 8) rfl (Sub.cons (t := 9) rfl (Sub.cons (t := 1000090) rfl (Sub.cons (t := 1000091) rfl (Sub.cons (t := 1000092) rfl (Sub.cons (t := 1000093) rfl (Sub.cons (t := 1900000) rfl (Sub.cons (t := 1900001) rfl Sub.nil))))))))))))) ?_
    refine A.regsH _ (fun B => (OldH.same (t := 0) rfl (OldH.same (t := 2) rfl (OldH.same (t := 3) rfl (OldH.p (t := 5) rfl (OldH.same (t := 6) rfl (OldH.same (t := 8) rfl (OldH.same (t := 9) rfl (OldH.p (t := 1000090) rfl (OldH.same (t := 1000091) rfl (OldH.same (t := 1000092) rfl (OldH.same (t := 1000093) rfl (OldH.same (t := 1900000) rfl (OldH.same (t := 1900001) rfl OldH.nil)))))))))))))) (by kernel_rfl) (by kernel_rfl) (.inl rfl) (fun B hB => ?_)
    refine RunTK.new 9 (by decide) rfl (.inl rfl) ?_
    refine RunK.step rfl rfl (ok_loadD (s := 1000092) (by decide) Tryd.underlying22 rfl rfl rfl) ?_
    refine RunK.step rfl rfl (ok_move rfl) ?_
    refine RunK.step rfl rfl (ok_loadD (s := 1000093) (by decide) Tryd.underlying22 rfl rfl rfl) ?_
    refine RunK.step rfl rfl (ok_move rfl) ?_
    refine RunK.step rfl rfl (ok_bin rfl rfl rfl) ?_; refine RunK.as (.int .i64 ((i + 1 : Nat) : Int)) (by rw [wrap_i64 (by omega) (by omega)]; first | rfl | (congr 1; omega)) ?_
    refine RunK.step rfl rfl (ok_conv Tryd.underlying3 Tryd.underlying5 rfl) ?_; refine RunK.as (byteV (UInt8.ofNat (i + 1))) (by rw [wrap_u8_nat]; rfl) ?_
    refine RunK.step rfl rfl (ok_build [byteD (UInt8.ofNat (i + 1))] Tryd.underlying22 info5 rfl (by decide) (by decide) rfl ⟨rfl, rfl, trivial⟩ (fun d hd w x h => by simp only [List.mem_cons, List.not_mem_nil, or_false] at hd; rcases hd with rfl; exact v_one rfl h)) ?_
    refine RunK.step rfl rfl (ok_build [old B (byt (hkT prk info i)), old w₀.heap.size (byt info), list [byteD (UInt8.ofNat (i + 1))] 1] Tryd.underlying52 info22 rfl (by decide) (by decide) rfl ⟨rfl, rfl, rfl, rfl, rfl, rfl, trivial⟩ (fun d hd w x h => by simp only [List.mem_cons, List.not_mem_nil, or_false] at hd; rcases hd with rfl | rfl | rfl <;> first | exact old_one (fun _ _ h => lst_one h) h | exact list_one h)) ?_
    refine RunK.step rfl rfl (ok_callM (macOf_fn prk [(hkT prk info i), info, [UInt8.ofNat (i + 1)]] ((hkT prk info i) ++ info ++ [UInt8.ofNat (i + 1)]) (by simp) hp (by simp) (by have := hkT_le (prk := prk) (info := info) i; simp only [List.length_append, List.length_cons, List.length_nil]; omega)) (Sub.cons rfl (Sub.cons rfl Sub.nil)) tabs_v (Args.cons rfl (Le.old _ _) (Args.cons rfl (list_lst3 (Le.old _ _) (Le.old _ _) (le_byt [UInt8.ofNat (i + 1)] 1)) Args.nil))) ?_; refine RunK.as (aggV ((hkT prk info (i + 1)).map byteV)) (rfl) ?_
    refine RunK.nil ?_
    refine ⟨_, _, eff_allocN (n := 27) (d := 7) (k := 1000007) zero25 (by decide), fun b7 hb7 => ?_⟩
    have hBb7 := hb7.1
    have hlt_p_b7 : p < b7 := hb7.2.2 1000091 _ _ _ rfl
    have hlt_q_b7 : q < b7 := hb7.2.2 1000092 _ _ _ rfl
    have hlt_r_b7 : r < b7 := hb7.2.2 1000093 _ _ _ rfl
    refine RunTK.eff 10 (by decide) rfl (.inl rfl) ?_
    refine RunK.nil ?_
    refine ⟨_, eff_storeA (n := 27) (s := 1000007) (size25.of (by rw [List.length_map, hkT_length])) rfl rfl (all_bytes _) hBb7 rfl (by rw [List.length_map, hkT_length, List.length_replicate]) (LeftS.cons (t := 0) rfl (Surv.v _) (LeftS.cons (t := 2) rfl (Surv.v _) (LeftS.cons (t := 3) rfl (Surv.v _) (LeftS.cons (t := 5) rfl (Surv.old (by omega)) (LeftS.cons (t := 6) rfl (Surv.v _) (LeftS.cons (t := 7) rfl (Surv.v _) (LeftS.cons (t := 8) rfl (Surv.v _) (LeftS.cons (t := 9) rfl (Surv.v _) (LeftS.cons (t := 12) rfl (Surv.old (by omega)) (LeftS.cons (t := 13) rfl (Surv.old (by omega)) (LeftS.cons (t := 14) rfl (Surv.old (by omega)) (LeftS.cons (t := 15) rfl (Surv.v _) (LeftS.cons (t := 16) rfl (Surv.v _) (LeftS.cons (t := 17) rfl (Surv.v _) (LeftS.cons (t := 20) rfl (Surv.v _) (LeftS.cons (t := 1000090) rfl (Surv.old (by omega)) (LeftS.cons (t := 1000091) rfl (Surv.varDT (by decide) (Surv.v _)) (LeftS.cons (t := 1000092) rfl (Surv.varDT (by decide) (Surv.old (by omega))) (LeftS.cons (t := 1000093) rfl (Surv.varDT (by decide) (Surv.old (by omega))) (LeftS.cons (t := 1900000) rfl (Surv.tab (by omega)) (LeftS.cons (t := 1900001) rfl (Surv.tab (by omega)) LeftS.nil))))))))))))))))))))), ?_⟩
    refine RunTK.last ?_
    refine RunK.nil ?_
    refine A.sub (Sub.cons (t := 0) rfl (Sub.cons (t := 2) rfl (Sub.cons (t := 3) rfl (Sub.cons (t := 7) rfl (Sub.cons (t := 8) rfl (Sub.cons (t := 9) rfl (Sub.cons (t := 1000007) rfl (Sub.cons (t := 1000090) rfl (Sub.cons (t := 1000091) rfl (Sub.cons (t := 1000092) rfl (Sub.cons (t := 1000093) rfl (Sub.cons (t := 1900000) rfl (Sub.cons (t := 1900001) rfl Sub.nil))))))))))))) ?_
    refine A.subL (SubL.cons (t := 0) rfl (Le.refl _) (SubL.cons (t := 2) rfl (Le.refl _) (SubL.cons (t := 3) rfl (Le.refl _) (SubL.cons (t := 7) rfl (Le.refl _) (SubL.cons (t := 8) rfl (Le.refl _) (SubL.cons (t := 9) rfl (Le.refl _) (SubL.cons (t := 1000007) rfl (Le.refl _) (SubL.cons (t := 1000090) rfl (Le.old _ _) (SubL.cons (t := 1000091) rfl (Le.refl _) (SubL.cons (t := 1000092) rfl (Le.refl _) (SubL.cons (t := 1000093) rfl (Le.refl _) (SubL.cons (t := 1900000) rfl (Le.refl _) (SubL.cons (t := 1900001) rfl (Le.refl _) SubL.nil))))))))))))) ?_
    refine A.seq ?_
    refine A.regs (by kernel_rfl) (by kernel_rfl) (.inl rfl) ?_
    refine RunTK.eff 2 (by decide) rfl (.inl rfl) ?_
    refine RunK.step rfl rfl (ok_move rfl) ?_
    refine RunK.step rfl rfl (ok_loadA (s := 1000007) (by decide) Tryd.underlying25 rfl (size25.of (by rw [List.length_map, hkT_length])) rfl rfl) ?_
    refine RunK.nil ?_
    refine ⟨_, eff_yieldX (vJ := 1000090) hq (b7, (hkT prk info (i + 1)).map byteV) i hlt rfl rfl rfl (Le.refl _) (by decide) (fun p hp => by simp only [List.mem_cons, List.not_mem_nil, or_false] at hp; rcases hp with rfl | rfl | rfl | rfl | rfl <;> exact vle rfl) (fun p hp => by simp only [List.mem_cons, List.not_mem_nil, or_false] at hp; rcases hp with rfl; exact vle rfl) (fun p hp => by simp only [List.mem_cons, List.not_mem_nil, or_false] at hp; rcases hp with rfl; rfl) (by decide) (Left.cons (t := 0) rfl (Stays.v _ _) (Left.cons (t := 2) rfl (Stays.v _ _) (Left.cons (t := 3) rfl (Stays.v _ _) (Left.cons (t := 7) rfl (Stays.v _ _) (Left.cons (t := 8) rfl (Stays.v _ _) (Left.cons (t := 9) rfl (Stays.v _ _) (Left.cons (t := 21) rfl (Stays.v _ _) (Left.cons (t := 22) rfl (Stays.v _ _) (Left.cons (t := 1900000) rfl (Stays.tab (by omega)) (Left.cons (t := 1900001) rfl (Stays.tab (by omega)) Left.nil)))))))))), ?_⟩
    refine RunTK.last ?_
    refine RunK.step rfl rfl (ok_not rfl) ?_; refine RunK.as (.bool false) (rfl) ?_
    refine RunK.nil ?_
    refine A.sub (Sub.cons (t := 0) rfl (Sub.cons (t := 2) rfl (Sub.cons (t := 3) rfl (Sub.cons (t := 7) rfl (Sub.cons (t := 8) rfl (Sub.cons (t := 9) rfl (Sub.cons (t := 24) rfl (Sub.cons (t := 1000007) rfl (Sub.cons (t := 1000090) rfl (Sub.cons (t := 1000091) rfl (Sub.cons (t := 1000092) rfl (Sub.cons (t := 1000093) rfl (Sub.cons (t := 1900000) rfl (Sub.cons (t := 1900001) rfl Sub.nil)))))))))))))) ?_
    refine A.no rfl ?_
    refine A.skip ?_
    refine End.normal_then (End.code ?_)
    refine A.reg (by kernel_rfl) (by kernel_rfl) (.inl rfl) ?_
    refine RunTK.last ?_
    refine RunK.step rfl rfl ((ok_sliceA (s := 1000007) 0 32 (by decide) Tryd.underlying25 info5 rfl rfl (.inr ⟨rfl, rfl⟩) (.inr ⟨rfl, rfl⟩) (by omega) (by omega) (by rw [List.length_map, hkT_length]) (by decide)).le (d' := byt (hkT prk info (i + 1))) (byt_all (hkT_length _))) ?_
    refine RunK.step rfl rfl (ok_assign rfl) ?_
    refine RunK.nil ?_
    refine End.sub (Sub.cons (t := 0) rfl (Sub.cons (t := 2) rfl (Sub.cons (t := 3) rfl (Sub.cons (t := 5) rfl (Sub.cons (t := 8) rfl (Sub.cons (t := 9) rfl (Sub.cons (t := 1000007) rfl (Sub.cons (t := 1000090) rfl (Sub.cons (t := 1000091) rfl (Sub.cons (t := 1000092) rfl (Sub.cons (t := 1000093) rfl (Sub.cons (t := 1900000) rfl (Sub.cons (t := 1900001) rfl Sub.nil))))))))))))) ?_
    refine End.normal_block ?_
    refine End.normal_then (End.code ?_)
    refine A.reg (by kernel_rfl) (by kernel_rfl) (.inl rfl) ?_
    refine RunTK.last ?_
    refine RunK.step rfl rfl (ok_bin rfl rfl rfl) ?_; refine RunK.as (.int .i64 ((i + 1 : Nat) : Int)) (by rw [wrap_i64 (by omega) (by omega)]; first | rfl | (congr 1; omega)) ?_
    refine RunK.step rfl rfl (ok_move rfl) ?_
    refine RunK.nil ?_
    refine End.sub (Sub.cons (t := 0) rfl (Sub.cons (t := 2) rfl (Sub.cons (t := 3) rfl (Sub.cons (t := 5) rfl (Sub.cons (t := 8) rfl (Sub.cons (t := 9) rfl (Sub.cons (t := 1000007) rfl (Sub.cons (t := 1000090) rfl (Sub.cons (t := 1000091) rfl (Sub.cons (t := 1000092) rfl (Sub.cons (t := 1000093) rfl (Sub.cons (t := 1900000) rfl (Sub.cons (t := 1900001) rfl Sub.nil))))))))))))) ?_
    refine End.normal_then ?_
    refine End.again (i + 1) ?_ ?_ ?_
    · show _ ≤ _; omega
    · show _ - _ < _ - _; omega
    · exact (Sub.cons (t := 0) rfl (Sub.cons (t := 2) rfl (Sub.cons (t := 3) rfl (Sub.cons (t := 5) rfl (Sub.cons (t := 8) rfl (Sub.cons (t := 9) rfl (Sub.cons (t := 1000090) rfl (Sub.cons (t := 1000091) rfl (Sub.cons (t := 1000092) rfl (Sub.cons (t := 1000093) rfl (Sub.cons (t := 1900000) rfl (Sub.cons (t := 1900001) rfl Sub.nil))))))))))))
  · obtain rfl : i = N := by simp at hc10; omega
    refine A.exit ?_
    refine End.exit_then ?_
    refine End.exit_then ?_
    refine End.exit_here ?_
    exact End.seqX (vJ := 1000090) hq rfl rfl
theorem Expand_neg (prk info : List UInt8) (n : Int) (h : n < 0) : FnM Tryd.prog 11 tabs [byt prk, byt info, .v (.int .i64 n)] (tup [.v (.slice none 0 0), .v (.int .i64 1)]) := by
  refine FnM.of Tryd.func11 rfl (by kernel_rfl) Tryd.ntmps11 (by simp) (by decide) (fun w => [(0, old w.heap.size (byt prk)), (1, old w.heap.size (byt info)), (2, .v (.int .i64 n)), (1900000, tab 0 (H8.list.map u32V)), (1900001, tab 1 (K64.map u32V))]) (fun w => (StartM.old rfl (StartM.old rfl (StartM.v rfl (StartM.m (by simp [tabs]) (by decide) (StartM.m (by simp [tabs]) (by decide) StartM.nil)))))) fun w₀ hM => ?_
  have htab := tabs_hi hM
  refine A.regs (by kernel_rfl) (by kernel_rfl) (.inl rfl) ?_
  refine RunTK.last ?_
  refine RunK.step rfl rfl (ok_assign rfl) ?_
  refine RunK.step rfl rfl (ok_assign rfl) ?_
  refine RunK.nil ?_
  refine A.sub (Sub.cons (t := 0) rfl (Sub.cons (t := 1) rfl (Sub.cons (t := 2) rfl (Sub.cons (t := 1900000) rfl (Sub.cons (t := 1900001) rfl Sub.nil))))) ?_
  refine A.seq ?_
  refine A.block ?_
  refine A.regs (by kernel_rfl) (by kernel_rfl) (.inl rfl) ?_
  refine RunTK.last ?_
  refine RunK.step rfl rfl (ok_move rfl) ?_
  refine RunK.step rfl rfl (ok_bin rfl rfl rfl) ?_; refine RunK.as (.bool true) (by simp [h]) ?_
  refine RunK.step rfl rfl (ok_assign rfl) ?_
  refine RunK.nil ?_
  refine A.sub (Sub.cons (t := 0) rfl (Sub.cons (t := 1) rfl (Sub.cons (t := 2) rfl (Sub.cons (t := 11) rfl (Sub.cons (t := 1900000) rfl (Sub.cons (t := 1900001) rfl Sub.nil)))))) ?_
  refine A.yes rfl ?_
  refine A.regs (by kernel_rfl) (by kernel_rfl) (.inl rfl) ?_
  refine RunTK.last ?_
  refine RunK.step rfl rfl (ok_assign rfl) ?_
  refine RunK.step rfl rfl (ok_assign rfl) ?_
  refine RunK.nil ?_
  refine A.sub (Sub.cons (t := 6) rfl (Sub.cons (t := 7) rfl (Sub.cons (t := 1900000) rfl (Sub.cons (t := 1900001) rfl Sub.nil)))) ?_
  refine A.ret ?_
  refine End.ret_block ?_
  refine End.ret_then ?_
  exact End.ret2 rfl rfl (by first | exact Le.refl _ | exact Le.old _ _) rfl (by first | exact Le.refl _ | exact Le.old _ _)
theorem Expand_big (prk info : List UInt8) (n : Int) (h : 8160 < n) : FnM Tryd.prog 11 tabs [byt prk, byt info, .v (.int .i64 n)] (tup [.v (.slice none 0 0), .v (.int .i64 3)]) := by
  refine FnM.of Tryd.func11 rfl (by kernel_rfl) Tryd.ntmps11 (by simp) (by decide) (fun w => [(0, old w.heap.size (byt prk)), (1, old w.heap.size (byt info)), (2, .v (.int .i64 n)), (1900000, tab 0 (H8.list.map u32V)), (1900001, tab 1 (K64.map u32V))]) (fun w => (StartM.old rfl (StartM.old rfl (StartM.v rfl (StartM.m (by simp [tabs]) (by decide) (StartM.m (by simp [tabs]) (by decide) StartM.nil)))))) fun w₀ hM => ?_
  have htab := tabs_hi hM
  refine A.regs (by kernel_rfl) (by kernel_rfl) (.inl rfl) ?_
  refine RunTK.last ?_
  refine RunK.step rfl rfl (ok_assign rfl) ?_
  refine RunK.step rfl rfl (ok_assign rfl) ?_
  refine RunK.nil ?_
  refine A.sub (Sub.cons (t := 0) rfl (Sub.cons (t := 1) rfl (Sub.cons (t := 2) rfl (Sub.cons (t := 1900000) rfl (Sub.cons (t := 1900001) rfl Sub.nil))))) ?_
  refine A.seq ?_
  refine A.block ?_
  refine A.regs (by kernel_rfl) (by kernel_rfl) (.inl rfl) ?_
  refine RunTK.last ?_
  refine RunK.step rfl rfl (ok_move rfl) ?_
  refine RunK.step rfl rfl (ok_bin rfl rfl rfl) ?_; refine RunK.as (.bool false) (by simp; omega) ?_
  refine RunK.step rfl rfl (ok_assign rfl) ?_
  refine RunK.nil ?_
  refine A.sub (Sub.cons (t := 0) rfl (Sub.cons (t := 1) rfl (Sub.cons (t := 2) rfl (Sub.cons (t := 11) rfl (Sub.cons (t := 1900000) rfl (Sub.cons (t := 1900001) rfl Sub.nil)))))) ?_
  refine A.no rfl ?_
  refine A.regs (by kernel_rfl) (by kernel_rfl) (.inl rfl) ?_
  refine RunTK.last ?_
  refine RunK.step rfl rfl (ok_move rfl) ?_
  refine RunK.step rfl rfl (ok_bin rfl rfl rfl) ?_; refine RunK.as (.bool true) (by simp; omega) ?_
  refine RunK.step rfl rfl (ok_assign rfl) ?_
  refine RunK.nil ?_
  refine A.sub (Sub.cons (t := 0) rfl (Sub.cons (t := 1) rfl (Sub.cons (t := 2) rfl (Sub.cons (t := 14) rfl (Sub.cons (t := 1900000) rfl (Sub.cons (t := 1900001) rfl Sub.nil)))))) ?_
  refine A.yes rfl ?_
  refine A.regs (by kernel_rfl) (by kernel_rfl) (.inl rfl) ?_
  refine RunTK.last ?_
  refine RunK.step rfl rfl (ok_assign rfl) ?_
  refine RunK.step rfl rfl (ok_assign rfl) ?_
  refine RunK.nil ?_
  refine A.sub (Sub.cons (t := 6) rfl (Sub.cons (t := 7) rfl (Sub.cons (t := 1900000) rfl (Sub.cons (t := 1900001) rfl Sub.nil)))) ?_
  refine A.ret ?_
  refine End.ret_block ?_
  refine End.ret_then ?_
  exact End.ret2 rfl rfl (by first | exact Le.refl _ | exact Le.old _ _) rfl (by first | exact Le.refl _ | exact Le.old _ _)
set_option maxHeartbeats 2000000 in
theorem Expand_fn (prk info : List UInt8) (n : Nat) (hp : prk.length ≤ 1000) (hi : info.length ≤ 1000) (hn : n ≤ 8160) : FnM Tryd.prog 11 tabs [byt prk, byt info, .v (.int .i64 ((n : Nat) : Int))] (tup [bytes (hkdf prk info n) n, .v (.int .i64 0)]) := by
  refine FnM.of Tryd.func11 rfl (by kernel_rfl) Tryd.ntmps11 (by simp) (by decide) (fun w => [(0, old w.heap.size (byt prk)), (1, old w.heap.size (byt info)), (2, .v (.int .i64 ((n : Nat) : Int))), (1900000, tab 0 (H8.list.map u32V)), (1900001, tab 1 (K64.map u32V))]) (fun w => (StartM.old rfl (StartM.old rfl (StartM.v rfl (StartM.m (by simp [tabs]) (by decide) (StartM.m (by simp [tabs]) (by decide) StartM.nil)))))) fun w₀ hM => ?_
  have htab := tabs_hi hM
  refine A.regs (by kernel_rfl) (by kernel_rfl) (.inl rfl) ?_
  refine RunTK.last ?_
  refine RunK.step rfl rfl (ok_assign rfl) ?_
  refine RunK.step rfl rfl (ok_assign rfl) ?_
  refine RunK.nil ?_
  refine A.sub (Sub.cons (t := 0) rfl (Sub.cons (t := 1) rfl (Sub.cons (t := 2) rfl (Sub.cons (t := 1900000) rfl (Sub.cons (t := 1900001) rfl Sub.nil))))) ?_
  refine A.seq ?_
  refine A.block ?_
  refine A.regs (by kernel_rfl) (by kernel_rfl) (.inl rfl) ?_
  refine RunTK.last ?_
  refine RunK.step rfl rfl (ok_move rfl) ?_
  refine RunK.step rfl rfl (ok_bin rfl rfl rfl) ?_; refine RunK.as (.bool false) (by simp) ?_
  refine RunK.step rfl rfl (ok_assign rfl) ?_
  refine RunK.nil ?_
  refine A.sub (Sub.cons (t := 0) rfl (Sub.cons (t := 1) rfl (Sub.cons (t := 2) rfl (Sub.cons (t := 11) rfl (Sub.cons (t := 1900000) rfl (Sub.cons (t := 1900001) rfl Sub.nil)))))) ?_
  refine A.no rfl ?_
  refine A.regs (by kernel_rfl) (by kernel_rfl) (.inl rfl) ?_
  refine RunTK.last ?_
  refine RunK.step rfl rfl (ok_move rfl) ?_
  refine RunK.step rfl rfl (ok_bin rfl rfl rfl) ?_; refine RunK.as (.bool false) (by simp; omega) ?_
  refine RunK.step rfl rfl (ok_assign rfl) ?_
  refine RunK.nil ?_
  refine A.sub (Sub.cons (t := 0) rfl (Sub.cons (t := 1) rfl (Sub.cons (t := 2) rfl (Sub.cons (t := 14) rfl (Sub.cons (t := 1900000) rfl (Sub.cons (t := 1900001) rfl Sub.nil)))))) ?_
  refine A.no rfl ?_
  refine A.skip ?_
  refine End.normal_block ?_
  refine End.normal_then (End.code ?_)
  refine A.regs (by kernel_rfl) (by kernel_rfl) (.inl rfl) ?_
  refine RunTK.last ?_
  refine RunK.step rfl rfl (ok_move rfl) ?_
  refine RunK.step rfl rfl (ok_bin rfl rfl rfl) ?_; refine RunK.as (.int .i64 ((n + 32 : Nat) : Int)) (by rw [wrap_i64 (by omega) (by omega)]; first | rfl | (congr 1; omega)) ?_
  refine RunK.step rfl rfl (ok_bin rfl rfl rfl) ?_; refine RunK.as (.int .i64 ((n + 31 : Nat) : Int)) (by rw [wrap_i64 (by omega) (by omega)]; first | rfl | (congr 1; omega)) ?_
  refine RunK.step rfl rfl (ok_div rfl rfl (by decide)) ?_; refine RunK.as (.int .i64 ((((n + 31) / 32) : Nat) : Int)) (by rw [tdiv_lit _ (by decide), show Int.toNat 32 = 32 from rfl, wrapN_i64 (by omega)]) ?_
  refine RunK.step rfl rfl (ok_assign rfl) ?_
  refine RunK.nil ?_
  refine A.sub (Sub.cons (t := 0) rfl (Sub.cons (t := 1) rfl (Sub.cons (t := 2) rfl (Sub.cons (t := 8) rfl (Sub.cons (t := 1900000) rfl (Sub.cons (t := 1900001) rfl Sub.nil)))))) ?_
  refine A.regs (by kernel_rfl) (by kernel_rfl) (.inl rfl) ?_
  refine RunTK.new 3 (by decide) rfl (.inl rfl) ?_
  refine RunK.step rfl rfl (ok_move rfl) ?_
  refine RunK.step rfl rfl (ok_bin rfl rfl rfl) ?_; refine RunK.as (.int .i64 ((((n + 31) / 32) * 32 : Nat) : Int)) (by rw [wrap_i64 (by omega) (by omega)]; first | rfl | (congr 1; omega)) ?_
  refine RunK.step rfl rfl (ok_make0 (((n + 31) / 32) * 32) Tryd.underlying22 info5 (by decide) rfl rfl rfl rfl rfl (by omega)) ?_
  refine RunK.nil ?_
  refine ⟨_, _, eff_alloc (n := 36) (d := 9) (k := 1000009) zero22 (by decide), fun b9 hb9 => ?_⟩
  have hBb9 := hb9.1
  refine RunTK.eff 4 (by decide) rfl (.inl rfl) ?_
  refine RunK.nil ?_
  refine ⟨_, eff_storeD (n := 36) (s := 1000009) info22 rfl rfl (fun _ _ h => own_one h) hBb9 rfl (Surv.own (by decide)) (LeftS.cons (t := 0) rfl (Surv.old (by omega)) (LeftS.cons (t := 1) rfl (Surv.old (by omega)) (LeftS.cons (t := 2) rfl (Surv.v _) (LeftS.cons (t := 8) rfl (Surv.v _) (LeftS.cons (t := 9) rfl (Surv.v _) (LeftS.cons (t := 21) rfl (Surv.v _) (LeftS.cons (t := 22) rfl (Surv.v _) (LeftS.cons (t := 23) rfl (Surv.own (by decide)) (LeftS.cons (t := 1900000) rfl (Surv.tab (by omega)) (LeftS.cons (t := 1900001) rfl (Surv.tab (by omega)) LeftS.nil)))))))))), ?_⟩
  refine RunTK.last ?_
  refine RunK.nil ?_
  refine A.sub (Sub.cons (t := 0) rfl (Sub.cons (t := 1) rfl (Sub.cons (t := 2) rfl (Sub.cons (t := 8) rfl (Sub.cons (t := 9) rfl (Sub.cons (t := 1000009) rfl (Sub.cons (t := 1900000) rfl (Sub.cons (t := 1900001) rfl Sub.nil)))))))) ?_
  refine A.seq ?_
  refine A.regsH _ (fun B => (OldH.p (t := 0) rfl (OldH.p (t := 1) rfl (OldH.same (t := 2) rfl (OldH.same (t := 8) rfl (OldH.same (t := 9) rfl (OldH.p (t := 1000009) rfl (OldH.same (t := 1900000) rfl (OldH.same (t := 1900001) rfl OldH.nil))))))))) (by kernel_rfl) (by kernel_rfl) (.inl rfl) (fun B hB => ?_)
  refine RunTK.last ?_
  refine RunK.step rfl rfl (ok_move rfl) ?_
  refine RunK.step rfl rfl (ok_move rfl) ?_
  refine RunK.step rfl rfl (ok_move rfl) ?_
  refine RunK.step rfl rfl (ok_callB (tags_fnB (old w₀.heap.size (byt prk)) (old w₀.heap.size (byt info)) ((((n + 31) / 32) : Nat) : Int) (fun _ _ h => old_one (fun _ _ h => lst_one h) h) (fun _ _ h => old_one (fun _ _ h => lst_one h) h)) (fun _ _ => clos3_mono _ _) (Args.cons rfl (Le.old _ _) (Args.cons rfl (Le.old _ _) (Args.cons rfl (Le.refl _) Args.nil)))) ?_
  refine RunK.nil ?_
  refine A.sub (Sub.cons (t := 2) rfl (Sub.cons (t := 9) rfl (Sub.cons (t := 27) rfl (Sub.cons (t := 1000009) rfl (Sub.cons (t := 1900000) rfl (Sub.cons (t := 1900001) rfl Sub.nil)))))) ?_
  refine A.ltVar (k := 1000009) rfl fun hb9 => ?_
  refine A.openClos3 (t := 27) (k₁ := 1000091) (k₂ := 1000092) (k₃ := 1000093) rfl fun p q r hBp hBq hBr hpq hpr hqr => ?_
  refine A.subL (SubL.cons (t := 2) rfl (Le.refl _) (SubL.cons (t := 9) rfl (Le.refl _) (SubL.cons (t := 27) rfl (Le.refl _) (SubL.cons (t := 1000009) rfl (Le.old _ _) (SubL.cons (t := 1000091) rfl (Le.refl _) (SubL.cons (t := 1000092) rfl (Le.refl _) (SubL.cons (t := 1000093) rfl (Le.refl _) (SubL.cons (t := 1900000) rfl (Le.refl _) (SubL.cons (t := 1900001) rfl (Le.refl _) SubL.nil))))))))) ?_
  refine A.block ?_
  refine A.rangeX (gf := 30) (N := ((n + 31) / 32)) (vL := 1000098) (vD := 1000099) (tp := 28) (lb := [ptr p, ptr q, ptr r]) (S := [(2, .v (.int .i64 ((n : Nat) : Int))), (9, .v (ptr b9))]) (XE := fun z : Nat × List Value => [(1000007, blk z.1 25 z.2)])
    (V := fun i => [(1000009, varD b9 22 (own w₀.heap.size 5 (32 * i) ((hkO prk info i).map byteV))), (1000091, varD p 3 (.v (.int .i64 ((((n + 31) / 32) : Nat) : Int)))), (1000092, varD q 22 (old w₀.heap.size (byt prk))), (1000093, varD r 22 (old w₀.heap.size (byt info))), (1900000, tab 0 (H8.list.map u32V)), (1900001, tab 1 (K64.map u32V))])
    (Eb := fun i z => (10, freshV w₀.heap.size [] 25 ((hkT prk info (i + 1)).map byteV)) :: (28, .v (aggV ((hkT prk info (i + 1)).map byteV))) :: ([(1000009, varD b9 22 (own w₀.heap.size 5 (32 * i) ((hkO prk info i).map byteV))), (1000091, varD p 3 (.v (.int .i64 ((((n + 31) / 32) : Nat) : Int)))), (1000092, varD q 22 (old w₀.heap.size (byt prk))), (1000093, varD r 22 (old w₀.heap.size (byt info))), (1900000, tab 0 (H8.list.map u32V)), (1900001, tab 1 (K64.map u32V))] ++ [(2, .v (.int .i64 ((n : Nat) : Int))), (9, .v (ptr b9))] ++ [(1000007, blk z.1 25 z.2)]))
    (arg := fun i => .v (aggV ((hkT prk info (i + 1)).map byteV))) rfl ⟨_, Tryd.func30, by kernel_rfl, rfl⟩ (by decide) (by decide) (Sub.eq (t := 1000009) _ rfl (by rfl) (Sub.cons (t := 1000091) rfl (Sub.cons (t := 1000092) rfl (Sub.cons (t := 1000093) rfl (Sub.cons (t := 1900000) rfl (Sub.cons (t := 1900001) rfl (Sub.cons (t := 2) rfl (Sub.cons (t := 9) rfl Sub.nil))))))))
    (fun x hx => by simp only [List.mem_cons, List.not_mem_nil, or_false] at hx; rcases hx with rfl | rfl <;> exact ⟨vlt rfl, .inl ⟨_, rfl⟩⟩)
    (fun i x hx => by simp only [List.mem_cons, List.not_mem_nil, or_false] at hx; rcases hx with rfl | rfl | rfl | rfl | rfl | rfl <;> exact vle rfl)
    (fun z x hx => by simp only [List.mem_cons, List.not_mem_nil, or_false] at hx; rcases hx with rfl; exact vle rfl)
    (fun z l _ x hx => by simp only [List.mem_cons, List.not_mem_nil, or_false] at hx; rcases hx with rfl; exact Firm.blk)
    (fun i l' hl x hx => by simp only [List.mem_cons, List.not_mem_nil, or_false] at hx; rcases hx with rfl | rfl | rfl | rfl | rfl | rfl <;> first | exact Firm.blk | exact Firm.tab | exact Firm.v _ _ | exact Firm.freshV | exact Firm.varD (Firm.own) | exact Firm.varD (Firm.v _ _) | exact Firm.varD (Firm.old hl))
    (fun i z l' hl x hx => by simp only [List.mem_cons, List.mem_append, List.not_mem_nil, or_false] at hx; rcases hx with rfl | rfl | ((rfl | rfl | rfl | rfl | rfl | rfl) | rfl | rfl) | rfl <;> first | exact Firm.blk | exact Firm.tab | exact Firm.v _ _ | exact Firm.freshV | exact Firm.varD (Firm.own) | exact Firm.varD (Firm.v _ _) | exact Firm.varD (Firm.old hl))
    (fun J l' w hq h0 => tags1_seq (by omega) hp hi (by omega) (hq.sub fun i x hx => by simp only [List.mem_cons, List.not_mem_nil, or_false] at hx ⊢; rcases hx with rfl | rfl | rfl | rfl | rfl <;> simp) h0)
    (fun i l' a w z _ hb h => assign_box zero25 (size25.of (by rw [List.length_map, hkT_length])) (all_bytes _) (by rw [List.length_map, hkT_length, List.length_replicate]) (by decide) (by decide) hb h) ?_ ?_
  · intro i l' D rr mm z hi'
    refine A.openVar (k := 1000009) (k' := 1000209) rfl fun v9 => ?_
    refine A.openFresh (t := 10) (k := 1000010) rfl fun b10 hBb10 => ?_
    refine A.block ?_
    refine A.reg (by kernel_rfl) (by kernel_rfl) (.inr (by kernel_rfl)) ?_
    refine RunTK.eff 2 (by decide) rfl (.inr (by kernel_rfl)) ?_
    refine RunK.step rfl rfl (ok_loadV (s := 1000009) (by decide) Tryd.underlying22 rfl rfl rfl (rfl)) ?_
    refine RunK.step rfl rfl ((ok_sliceA (s := 1000010) 0 32 (by decide) Tryd.underlying25 info5 rfl rfl (.inr ⟨rfl, rfl⟩) (.inr ⟨rfl, rfl⟩) (by omega) (by omega) (by rw [List.length_map, hkT_length]) (by decide)).le (d' := byt (hkT prk info (i + 1))) (byt_all (hkT_length _))) ?_
    refine RunK.nil ?_
    refine ⟨_, eff_appendVO (n := 36) (k := 1000209) (vs := (hkT prk info (i + 1)).map byteV) Tryd.underlying22 info5 (by decide) rfl rfl rfl rfl (Le.eq (byt_vals _)) (by simp [byteV, Value.oneCell']) (by simp only [List.length_map, hkT_length]; omega) (by decide) (by decide) rfl (fun g hB hg => (LeftS.cons (t := 2) rfl (Surv.v _) (LeftS.cons (t := 9) rfl (Surv.v _) (LeftS.cons (t := 10) rfl (Surv.v _) (LeftS.cons (t := 28) rfl (Surv.v _) (LeftS.cons (t := 29) rfl (Surv.v _) (LeftS.cons (t := 1000007) rfl (Surv.blkT (by decide)) (LeftS.cons (t := 1000009) rfl (Surv.blkT (by decide)) (LeftS.cons (t := 1000010) rfl (Surv.blkT (by decide)) (LeftS.cons (t := 1000091) rfl (Surv.varDT (by decide) (Surv.v _)) (LeftS.cons (t := 1000092) rfl (Surv.varDT (by decide) (Surv.old (by omega))) (LeftS.cons (t := 1000093) rfl (Surv.varDT (by decide) (Surv.old (by omega))) (LeftS.cons (t := 1000098) rfl (Surv.rec rfl) (LeftS.cons (t := 1000099) rfl (Surv.rec rfl) (LeftS.cons (t := 1900000) rfl (Surv.tab (by omega)) (LeftS.cons (t := 1900001) rfl (Surv.tab (by omega)) LeftS.nil)))))))))))))))), ?_⟩
    refine RunTK.eff 3 (by decide) rfl (.inr (by kernel_rfl)) ?_
    refine RunK.nil ?_
    refine ⟨_, eff_storeD (n := 36) (s := 1000009) info22 rfl rfl (fun _ _ h => own_one h) hBb9 rfl (Surv.own (by decide)) (LeftS.cons (t := 2) rfl (Surv.v _) (LeftS.cons (t := 9) rfl (Surv.v _) (LeftS.cons (t := 10) rfl (Surv.v _) (LeftS.cons (t := 28) rfl (Surv.v _) (LeftS.cons (t := 29) rfl (Surv.v _) (LeftS.cons (t := 31) rfl (Surv.own (by decide)) (LeftS.cons (t := 1000007) rfl (Surv.blkT (by decide)) (LeftS.cons (t := 1000010) rfl (Surv.blkT (by decide)) (LeftS.cons (t := 1000091) rfl (Surv.varDT (by decide) (Surv.v _)) (LeftS.cons (t := 1000092) rfl (Surv.varD (by omega) (Surv.old (by omega))) (LeftS.cons (t := 1000093) rfl (Surv.varD (by omega) (Surv.old (by omega))) (LeftS.cons (t := 1000098) rfl (Surv.rec rfl) (LeftS.cons (t := 1000099) rfl (Surv.rec rfl) (LeftS.cons (t := 1900000) rfl (Surv.tab (by omega)) (LeftS.cons (t := 1900001) rfl (Surv.tab (by omega)) LeftS.nil))))))))))))))), ?_⟩
    refine RunTK.last ?_
    refine RunK.nil ?_
    refine End.sub (Sub.cons (t := 1000007) rfl (Sub.eq (t := 1000009) _ rfl (show varD b9 22 (own w₀.heap.size 5 (32 * i + ((hkT prk info (i + 1)).map byteV).length) ((hkO prk info i).map byteV ++ (hkT prk info (i + 1)).map byteV)) = varD b9 22 (own w₀.heap.size 5 (32 * (i + 1)) ((hkO prk info (i + 1)).map byteV)) from varD_eq (by rw [List.length_map, hkT_length, hkO, List.map_append]; rfl)) (Sub.cons (t := 1000010) rfl (Sub.cons (t := 1000091) rfl (Sub.cons (t := 1000092) rfl (Sub.cons (t := 1000093) rfl (Sub.cons (t := 1000098) rfl (Sub.cons (t := 1000099) rfl (Sub.cons (t := 1900000) rfl (Sub.cons (t := 1900001) rfl Sub.nil)))))))))) ?_
    refine End.normal_block ?_
    exact End.round (Sub.cons (t := 1000098) rfl (Sub.cons (t := 1000099) rfl (Sub.cons (t := 1000009) rfl (Sub.cons (t := 1000091) rfl (Sub.cons (t := 1000092) rfl (Sub.cons (t := 1000093) rfl (Sub.cons (t := 1900000) rfl (Sub.cons (t := 1900001) rfl (Sub.cons (t := 1000007) rfl Sub.nil))))))))) (fun x hx => by simp only [List.mem_cons, List.mem_append, List.not_mem_nil, or_false] at hx; rcases hx with rfl | rfl | (rfl | rfl | rfl | rfl | rfl | rfl) | rfl <;> exact vle rfl) (by decide)
  · intro D hD
    refine End.normal_block ?_
    refine End.normal_then (End.code ?_)
    refine A.regs (by kernel_rfl) (by kernel_rfl) (.inl rfl) ?_
    refine RunTK.last ?_
    refine RunK.step rfl rfl (ok_loadD (s := 1000009) (by decide) Tryd.underlying22 rfl rfl rfl) ?_
    refine RunK.step rfl rfl (ok_move rfl) ?_; refine RunK.as (.int .i64 (((hkdf prk info n).length : Nat) : Int)) (by rw [hkdf_length]) ?_
    refine RunK.step rfl rfl (ok_move rfl) ?_; refine RunK.as (.int .i64 (((hkdf prk info n).length : Nat) : Int)) (by rw [hkdf_length]) ?_
    refine RunK.step rfl rfl ((ok_slice3 (hkdf prk info n) Tryd.underlying22 info5 rfl rfl rfl (by rw [hkdf_length, ← List.map_take, hkO_hkdf (by omega)]) (by rw [List.length_map, hkO_length]) (by rw [hkdf_length]; simp only [maxLen]; omega)).le (d' := bytes (hkdf prk info n) n) (Le.eq (by rw [hkdf_length]))) ?_
    refine RunK.step rfl rfl (ok_assign rfl) ?_
    refine RunK.step rfl rfl (ok_assign rfl) ?_
    refine RunK.nil ?_
    refine A.sub (Sub.cons (t := 6) rfl (Sub.cons (t := 7) rfl (Sub.cons (t := 1000009) rfl (Sub.cons (t := 1000091) rfl (Sub.cons (t := 1000092) rfl (Sub.cons (t := 1000093) rfl (Sub.cons (t := 1000099) rfl (Sub.cons (t := 1900000) rfl (Sub.cons (t := 1900001) rfl Sub.nil))))))))) ?_
    refine A.ret ?_
    exact End.ret2C (D := D) (vD := 1000099) rfl hD rfl rfl Firm.bytes (Le.refl _) rfl (Firm.v _ _) (Le.refl _)
set_option maxHeartbeats 1000000 in
theorem fill_fnW (g o n c : Nat) (xs : List Value) (prk info : List UInt8) (hprk : prk.length = 32) (hi : info.length ≤ 1000) (hn : n ≤ 8160) (hfit : o + n ≤ xs.length) : FnW Tryd.prog 21 tabs 39 g xs (xs.take o ++ (hkdf prk info n).map byteV ++ xs.drop (o + n)) ([.slice (some ⟨g, o, none⟩) n c, aggV (prk.map byteV), .string ⟨info.toArray⟩].map D.v) := by
  refine FnW.of (n := 20) (kb := 1000080) (kw := 1000081) Tryd.func21 rfl (by kernel_rfl) Tryd.ntmps21 (by simp) (by decide) tabs_v (by decide) (by decide) [(0, .v (.slice (some ⟨g, o, none⟩) n c)), (1, .v (aggV (prk.map byteV))), (2, str info)]
    (fun p hp => by simp only [List.mem_cons, List.not_mem_nil, or_false] at hp; rcases hp with rfl | rfl | rfl <;> exact ⟨_, rfl, rfl⟩) fun w₀ w₁ hw hM => ?_
  have hBg : w₀.heap.size ≤ g := Nat.le_of_eq hw
  have htab : 1 < w₀.heap.size := (hM (1900001, tab 1 (K64.map u32V)) (by simp [tabs])).1
  refine A.regs (by kernel_rfl) (by kernel_rfl) (.inl rfl) ?_
  refine RunTK.new 0 (by decide) rfl (.inl rfl) ?_
  refine RunK.nil ?_
  refine ⟨_, _, eff_box (n := 20) (d := 4) (k := 1000004) rfl (by decide), fun b4 hb4 => ?_⟩
  have hBb4 := hb4.1
  have hlt_g_b4 : g < b4 := hb4.2 1000080 _ _ _ rfl
  refine RunTK.last ?_
  refine RunK.nil ?_
  refine A.sub (Sub.cons (t := 0) rfl (Sub.cons (t := 2) rfl (Sub.cons (t := 4) rfl (Sub.cons (t := 1000004) rfl (Sub.cons (t := 1000080) rfl (Sub.cons (t := 1000081) rfl (Sub.cons (t := 1900000) rfl (Sub.cons (t := 1900001) rfl Sub.nil)))))))) ?_
  refine A.regs (by kernel_rfl) (by kernel_rfl) (.inl rfl) ?_
  refine RunTK.last ?_
  refine RunK.step rfl rfl ((ok_sliceA (s := 1000004) 0 32 (by decide) Tryd.underlying25 info5 rfl rfl (.inr ⟨rfl, rfl⟩) (.inr ⟨rfl, rfl⟩) (by omega) (by omega) (by rw [List.length_map, hprk]) (by decide)).le (d' := byt prk) (byt_all hprk)) ?_
  refine RunK.step rfl rfl (ok_move rfl) ?_
  refine RunK.step rfl rfl (ok_strB Tryd.underlying9 Tryd.underlying22 Tryd.underlying5 rfl (by simp only [maxLen]; omega)) ?_
  refine RunK.step rfl rfl (ok_move rfl) ?_
  refine RunK.step rfl rfl (ok_lenV Tryd.underlying22 rfl) ?_
  refine RunK.step rfl rfl (ok_callM (Expand_fn prk info n (by omega) hi hn) (Sub.cons rfl (Sub.cons rfl Sub.nil)) tabs_v (Args.cons rfl (Le.refl _) (Args.cons rfl (Le.refl _) (Args.cons rfl (Le.refl _) Args.nil)))) ?_
  refine RunK.step rfl rfl (ok_move rfl) ?_
  refine RunK.step rfl rfl (ok_extract rfl rfl) ?_
  refine RunK.step rfl rfl (ok_extract rfl rfl) ?_
  refine RunK.step rfl rfl (ok_assign rfl) ?_
  refine RunK.step rfl rfl (ok_assign rfl) ?_
  refine RunK.nil ?_
  refine A.sub (Sub.cons (t := 0) rfl (Sub.cons (t := 6) rfl (Sub.cons (t := 1000004) rfl (Sub.cons (t := 1000080) rfl (Sub.cons (t := 1000081) rfl (Sub.cons (t := 1900000) rfl (Sub.cons (t := 1900001) rfl Sub.nil))))))) ?_
  refine A.reg (by kernel_rfl) (by kernel_rfl) (.inl rfl) ?_
  refine RunTK.eff 2 (by decide) rfl (.inl rfl) ?_
  refine RunK.step rfl rfl (ok_move rfl) ?_
  refine RunK.step rfl rfl (ok_move rfl) ?_
  refine RunK.nil ?_
  refine ⟨_, eff_copyS (n := 20) (s := 1000080) (l := hkdf prk info n) Tryd.underlying22 info5 rfl rfl (le_byt _ _) hBg rfl hfit (by decide) (LeftS.cons (t := 0) rfl (Surv.v _) (LeftS.cons (t := 17) rfl (Surv.v _) (LeftS.cons (t := 1000004) rfl (Surv.blkT (by decide)) (LeftS.cons (t := 1000081) rfl (Surv.wrote) (LeftS.cons (t := 1900000) rfl (Surv.tab (by omega)) (LeftS.cons (t := 1900001) rfl (Surv.tab (by omega)) LeftS.nil)))))), ?_⟩
  refine RunTK.last ?_
  refine RunK.nil ?_
  refine End.sub (Sub.cons (t := 1000004) rfl (Sub.cons (t := 1000080) rfl (Sub.cons (t := 1000081) rfl (Sub.cons (t := 1900000) rfl (Sub.cons (t := 1900001) rfl Sub.nil))))) ?_
  exact End.wrote (kb := 1000080) (kw := 1000081) rfl rfl (by rw [hkdf_length, Nat.min_self, List.take_of_length_le (l := hkdf prk info n) (Nat.le_of_eq (hkdf_length n))]) rfl
set_option maxHeartbeats 2000000 in
theorem Volume_fn (mk : List UInt8) (hmk : mk.length = 32) : FnM Tryd.prog 14 tabs [.v (aggV (mk.map byteV))] (.v (aggV ((hkdf (hmac [99, 97, 105, 115, 115, 111, 110] mk) [101, 110, 99, 114, 121, 112, 116] 16).map byteV ++ (hkdf (hmac [99, 97, 105, 115, 115, 111, 110] mk) [109, 97, 99] 32).map byteV))) := by
  refine FnM.of Tryd.func14 rfl (by kernel_rfl) Tryd.ntmps14 (by simp) (by decide) (fun w => [(0, .v (aggV (mk.map byteV))), (1900000, tab 0 (H8.list.map u32V)), (1900001, tab 1 (K64.map u32V))]) (fun w => (StartM.v rfl (StartM.m (by simp [tabs]) (by decide) (StartM.m (by simp [tabs]) (by decide) StartM.nil)))) fun w₀ hM => ?_
  have htab := tabs_hi hM
  refine A.regs (by kernel_rfl) (by kernel_rfl) (.inl rfl) ?_
  refine RunTK.new 0 (by decide) rfl (.inl rfl) ?_
  refine RunK.nil ?_
  refine ⟨_, _, eff_box (n := 18) (d := 1) (k := 1000001) rfl (by decide), fun b1 hb1 => ?_⟩
  have hBb1 := hb1.1
  refine RunTK.new 1 (by decide) rfl (.inl rfl) ?_
  refine RunK.nil ?_
  refine ⟨_, _, eff_alloc (n := 18) (d := 2) (k := 1000002) zero39 (by decide), fun b2 hb2 => ?_⟩
  have hBb2 := hb2.1
  have hlt_b1_b2 : b1 < b2 := hb2.2 1000001 _ _ _ rfl
  refine RunTK.last ?_
  refine RunK.nil ?_
  refine A.sub (Sub.cons (t := 1) rfl (Sub.cons (t := 2) rfl (Sub.cons (t := 1000001) rfl (Sub.cons (t := 1000002) rfl (Sub.cons (t := 1900000) rfl (Sub.cons (t := 1900001) rfl Sub.nil)))))) ?_
  refine A.regs (by kernel_rfl) (by kernel_rfl) (.inl rfl) ?_
  refine RunTK.eff 1 (by decide) rfl (.inl rfl) ?_
  refine RunK.step rfl rfl (ok_buildT [99, 97, 105, 115, 115, 111, 110] Tryd.underlying22 info5 rfl (by decide) (by decide) rfl ⟨rfl, rfl, rfl, rfl, rfl, rfl, rfl, rfl, rfl, rfl, rfl, rfl, rfl, rfl, trivial⟩) ?_
  refine RunK.nil ?_
  refine ⟨_, eff_convN (n := 18) Tryd.underlying22 Tryd.underlying5 rfl (by decide) (fun g hg => (LeftM.cons (t := 1) rfl (.of (Surv.v _)) (LeftM.cons (t := 2) rfl (.of (Surv.v _)) (LeftM.cons (t := 5) rfl (.stb) (LeftM.cons (t := 1000001) rfl (.of (Surv.blkT (by decide))) (LeftM.cons (t := 1000002) rfl (.of (Surv.blkT (by decide))) (LeftM.cons (t := 1900000) rfl (.of (Surv.tab (by omega))) (LeftM.cons (t := 1900001) rfl (.of (Surv.tab (by omega))) LeftM.nil)))))))), ?_⟩
  refine RunTK.new 4 (by decide) rfl (.inl rfl) ?_
  refine RunK.step rfl rfl ((ok_sliceA (s := 1000001) 0 32 (by decide) Tryd.underlying36 info5 rfl rfl (.inr ⟨rfl, rfl⟩) (.inr ⟨rfl, rfl⟩) (by omega) (by omega) (by rw [List.length_map, hmk]) (by decide)).le (d' := byt mk) (byt_all hmk)) ?_
  refine RunK.step rfl rfl (ok_callM (Extract_fn [99, 97, 105, 115, 115, 111, 110] mk (by decide) (by omega)) (Sub.cons rfl (Sub.cons rfl Sub.nil)) tabs_v (Args.cons rfl newT_byt (Args.cons rfl (Le.refl _) Args.nil))) ?_
  refine RunK.nil ?_
  refine ⟨_, _, eff_alloc (n := 18) (d := 3) (k := 1000003) zero25 (by decide), fun b3 hb3 => ?_⟩
  have hBb3 := hb3.1
  have hlt_b1_b3 : b1 < b3 := hb3.2 1000001 _ _ _ rfl
  have hlt_b2_b3 : b2 < b3 := hb3.2 1000002 _ _ _ rfl
  refine RunTK.eff 5 (by decide) rfl (.inl rfl) ?_
  refine RunK.nil ?_
  refine ⟨_, eff_storeA (n := 18) (s := 1000003) (size25.of (by rw [List.length_map, hmac_length])) rfl rfl (all_bytes _) hBb3 rfl (by rw [List.length_map, hmac_length, List.length_replicate]) (LeftS.cons (t := 1) rfl (Surv.v _) (LeftS.cons (t := 2) rfl (Surv.v _) (LeftS.cons (t := 3) rfl (Surv.v _) (LeftS.cons (t := 5) rfl (Surv.newT (by decide)) (LeftS.cons (t := 6) rfl (Surv.newT (by decide)) (LeftS.cons (t := 8) rfl (Surv.v _) (LeftS.cons (t := 1000001) rfl (Surv.blkT (by decide)) (LeftS.cons (t := 1000002) rfl (Surv.blkT (by decide)) (LeftS.cons (t := 1900000) rfl (Surv.tab (by omega)) (LeftS.cons (t := 1900001) rfl (Surv.tab (by omega)) LeftS.nil)))))))))), ?_⟩
  refine RunTK.last ?_
  refine RunK.nil ?_
  refine A.sub (Sub.cons (t := 2) rfl (Sub.cons (t := 3) rfl (Sub.cons (t := 1000001) rfl (Sub.cons (t := 1000002) rfl (Sub.cons (t := 1000003) rfl (Sub.cons (t := 1900000) rfl (Sub.cons (t := 1900001) rfl Sub.nil))))))) ?_
  refine A.regs (by kernel_rfl) (by kernel_rfl) (.inl rfl) ?_
  refine RunTK.new 0 (by decide) rfl (.inl rfl) ?_
  refine RunK.nil ?_
  refine ⟨_, _, eff_alloc (n := 18) (d := 4) (k := 1000004) zero39 (by decide), fun b4 hb4 => ?_⟩
  have hBb4 := hb4.1
  have hlt_b1_b4 : b1 < b4 := hb4.2 1000001 _ _ _ rfl
  have hlt_b2_b4 : b2 < b4 := hb4.2 1000002 _ _ _ rfl
  have hlt_b3_b4 : b3 < b4 := hb4.2 1000003 _ _ _ rfl
  refine RunTK.last ?_
  refine RunK.nil ?_
  refine A.sub (Sub.cons (t := 2) rfl (Sub.cons (t := 3) rfl (Sub.cons (t := 4) rfl (Sub.cons (t := 1000001) rfl (Sub.cons (t := 1000002) rfl (Sub.cons (t := 1000003) rfl (Sub.cons (t := 1000004) rfl (Sub.cons (t := 1900000) rfl (Sub.cons (t := 1900001) rfl Sub.nil))))))))) ?_
  refine A.regs (by kernel_rfl) (by kernel_rfl) (.inr (by kernel_rfl)) ?_
  refine RunTK.eff 3 (by decide) rfl (.inr (by kernel_rfl)) ?_
  refine RunK.step rfl rfl (ok_field field39_0 (by decide) rfl) ?_
  refine RunK.step rfl rfl (ok_sliceX (l := 0) (h := 16) (m := 16) Tryd.underlying37 info5 rfl (.inr ⟨rfl, rfl⟩) (.inr ⟨rfl, rfl, rfl⟩) (.inr ⟨rfl, rfl⟩) (by decide) (by decide) (by decide) (.inl (by decide))) ?_
  refine RunK.step rfl rfl (ok_loadA (s := 1000003) (by decide) Tryd.underlying25 rfl (size25.of (by rw [List.length_map, hmac_length])) rfl rfl) ?_
  refine RunK.nil ?_
  refine ⟨_, eff_callW (n := 18) (s := 1000004) (fill_fnW b4 0 16 16 (List.replicate 16 (.int .u8 0) ++ List.replicate 32 (.int .u8 0)) (hmac [99, 97, 105, 115, 115, 111, 110] mk) [101, 110, 99, 114, 121, 112, 116] (hmac_length _ _) (by decide) (by decide) (by simp)) (fun p hp => by simp only [tabs, List.mem_cons, List.not_mem_nil, or_false] at hp; rcases hp with rfl | rfl <;> exact ⟨_, _, rfl, by omega, rfl⟩) (Args.cons rfl (Le.refl _) (Args.cons rfl (Le.refl _) (Args.cons rfl (Le.refl _) Args.nil))) hBb4 rfl (by decide) (LeftS.cons (t := 2) rfl (Surv.v _) (LeftS.cons (t := 3) rfl (Surv.v _) (LeftS.cons (t := 4) rfl (Surv.v _) (LeftS.cons (t := 9) rfl (Surv.v _) (LeftS.cons (t := 10) rfl (Surv.v _) (LeftS.cons (t := 11) rfl (Surv.v _) (LeftS.cons (t := 1000001) rfl (Surv.blkT (by decide)) (LeftS.cons (t := 1000002) rfl (Surv.blk (by omega)) (LeftS.cons (t := 1000003) rfl (Surv.blkT (by decide)) (LeftS.cons (t := 1900000) rfl (Surv.tab (by omega)) (LeftS.cons (t := 1900001) rfl (Surv.tab (by omega)) LeftS.nil))))))))))), ?_⟩
  refine RunTK.last ?_
  refine RunK.nil ?_
  refine A.sub (Sub.cons (t := 2) rfl (Sub.cons (t := 3) rfl (Sub.cons (t := 4) rfl (Sub.cons (t := 1000001) rfl (Sub.cons (t := 1000002) rfl (Sub.cons (t := 1000003) rfl (Sub.eq (t := 1000004) _ rfl (show blk b4 39 _ = blk b4 39 ((hkdf (hmac [99, 97, 105, 115, 115, 111, 110] mk) [101, 110, 99, 114, 121, 112, 116] 16).map byteV ++ List.replicate 32 (.int .u8 0)) from congrArg _ (by simp)) (Sub.cons (t := 1900000) rfl (Sub.cons (t := 1900001) rfl Sub.nil))))))))) ?_
  refine A.regs (by kernel_rfl) (by kernel_rfl) (.inr (by kernel_rfl)) ?_
  refine RunTK.eff 3 (by decide) rfl (.inr (by kernel_rfl)) ?_
  refine RunK.step rfl rfl (ok_field field39_1 (by decide) rfl) ?_
  refine RunK.step rfl rfl (ok_sliceX (l := 0) (h := 32) (m := 32) Tryd.underlying36 info5 rfl (.inr ⟨rfl, rfl⟩) (.inr ⟨rfl, rfl, rfl⟩) (.inr ⟨rfl, rfl⟩) (by decide) (by decide) (by decide) (.inl (by decide))) ?_
  refine RunK.step rfl rfl (ok_loadA (s := 1000003) (by decide) Tryd.underlying25 rfl (size25.of (by rw [List.length_map, hmac_length])) rfl rfl) ?_
  refine RunK.nil ?_
  refine ⟨_, eff_callW (n := 18) (s := 1000004) (fill_fnW b4 16 32 32 ((hkdf (hmac [99, 97, 105, 115, 115, 111, 110] mk) [101, 110, 99, 114, 121, 112, 116] 16).map byteV ++ List.replicate 32 (.int .u8 0)) (hmac [99, 97, 105, 115, 115, 111, 110] mk) [109, 97, 99] (hmac_length _ _) (by decide) (by decide) (by simp [hkdf_length])) (fun p hp => by simp only [tabs, List.mem_cons, List.not_mem_nil, or_false] at hp; rcases hp with rfl | rfl <;> exact ⟨_, _, rfl, by omega, rfl⟩) (Args.cons rfl (Le.refl _) (Args.cons rfl (Le.refl _) (Args.cons rfl (Le.refl _) Args.nil))) hBb4 rfl (by decide) (LeftS.cons (t := 2) rfl (Surv.v _) (LeftS.cons (t := 3) rfl (Surv.v _) (LeftS.cons (t := 4) rfl (Surv.v _) (LeftS.cons (t := 13) rfl (Surv.v _) (LeftS.cons (t := 14) rfl (Surv.v _) (LeftS.cons (t := 15) rfl (Surv.v _) (LeftS.cons (t := 1000001) rfl (Surv.blkT (by decide)) (LeftS.cons (t := 1000002) rfl (Surv.blk (by omega)) (LeftS.cons (t := 1000003) rfl (Surv.blkT (by decide)) (LeftS.cons (t := 1900000) rfl (Surv.tab (by omega)) (LeftS.cons (t := 1900001) rfl (Surv.tab (by omega)) LeftS.nil))))))))))), ?_⟩
  refine RunTK.last ?_
  refine RunK.nil ?_
  refine A.sub (Sub.cons (t := 2) rfl (Sub.cons (t := 4) rfl (Sub.cons (t := 1000001) rfl (Sub.cons (t := 1000002) rfl (Sub.cons (t := 1000003) rfl (Sub.eq (t := 1000004) _ rfl (show blk b4 39 _ = blk b4 39 ((hkdf (hmac [99, 97, 105, 115, 115, 111, 110] mk) [101, 110, 99, 114, 121, 112, 116] 16).map byteV ++ (hkdf (hmac [99, 97, 105, 115, 115, 111, 110] mk) [109, 97, 99] 32).map byteV) from congrArg _ (by simp [hkdf_length])) (Sub.cons (t := 1900000) rfl (Sub.cons (t := 1900001) rfl Sub.nil)))))))) ?_
  refine A.regs (by kernel_rfl) (by kernel_rfl) (.inl rfl) ?_
  refine RunTK.eff 1 (by decide) rfl (.inl rfl) ?_
  refine RunK.step rfl rfl (ok_loadA (s := 1000004) (by decide) Tryd.underlying39 rfl (size39.of (by simp [hkdf_length])) rfl rfl) ?_
  refine RunK.nil ?_
  refine ⟨_, eff_storeA (n := 18) (s := 1000002) (size39.of (by simp [hkdf_length])) rfl rfl (by simp [byteV, Value.oneCell']) hBb2 rfl (by simp [hkdf_length]) (LeftS.cons (t := 2) rfl (Surv.v _) (LeftS.cons (t := 4) rfl (Surv.v _) (LeftS.cons (t := 17) rfl (Surv.v _) (LeftS.cons (t := 1000001) rfl (Surv.blkT (by decide)) (LeftS.cons (t := 1000003) rfl (Surv.blkT (by decide)) (LeftS.cons (t := 1000004) rfl (Surv.blk (by omega)) (LeftS.cons (t := 1900000) rfl (Surv.tab (by omega)) (LeftS.cons (t := 1900001) rfl (Surv.tab (by omega)) LeftS.nil)))))))), ?_⟩
  refine RunTK.last ?_
  refine RunK.nil ?_
  refine A.sub (Sub.cons (t := 2) rfl (Sub.cons (t := 1000001) rfl (Sub.cons (t := 1000002) rfl (Sub.cons (t := 1000003) rfl (Sub.cons (t := 1000004) rfl (Sub.cons (t := 1900000) rfl (Sub.cons (t := 1900001) rfl Sub.nil))))))) ?_
  refine A.ret ?_
  exact End.cell1 (s := 1000002) rfl Tryd.underlying39 rfl (size39.of (by simp [hkdf_length])) rfl rfl (Le.refl _)
end Go.Proofs.YtidlikaiileggaaDoor
