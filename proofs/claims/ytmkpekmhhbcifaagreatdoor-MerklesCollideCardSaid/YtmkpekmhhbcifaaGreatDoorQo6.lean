/-
  OWN TEXTS of this seat, put together, part 6: C16f, C16g, TreeC, C16h, TreeD, C16i, C16j, C16k, C12d.
-/
import Derived.Test.YtmkpekmhhbcifaaGreatDoorQo0
import Derived.Test.YtmkpekmhhbcifaaGreatDoorQo2
import Derived.Test.YtmkpekmhhbcifaaGreatDoorQo5
import Derived.Test.YtmkpekmhhbcifaaGreatDoorQo4
namespace Go.Proofs.YtmkpekmhhbcifaaGreatDoor
set_option linter.unusedVariables false
set_option linter.unusedSimpArgs false
set_option maxRecDepth 20000
open Go Go.RowKit
def chkR (R : List RecT) (i : Nat) : List RecT := (R.drop (4 * i)).take 4
theorem chkR_len (R : List RecT) (i : Nat) : (chkR R i).length = pts R.length 0 i := by unfold chkR pts un; rw [List.length_take, List.length_drop]; omega
theorem chkR_fit {R : List RecT} (h : FitR R) (i : Nat) : FitR (chkR R i) := fun r hr => h r (List.mem_of_mem_drop (List.mem_of_mem_take hr))
theorem chkR_v {R : List RecT} (h : FitR R) (i : Nat) : ((recsV R).drop (4 * i * 35)).take (pts R.length 0 i * 35) = recsV (chkR R i) := by
 have e1 := flat_drop (RecT.lens h) (4 * i)
 rw [recsV, e1]
 have hf : ∀ r ∈ R.drop (4 * i), r.v.length = 35 := fun r hr => (h r (List.mem_of_mem_drop hr)).len
 have e2 : (R.drop (4 * i)).flatMap RecT.v = recsV (chkR R i) ++ recsV ((R.drop (4 * i)).drop 4) := by
  unfold chkR recsV
  rw [← List.flatMap_append, List.take_append_drop]
 rw [e2, List.take_left' (by rw [recs_len (chkR_fit h i), chkR_len])]
theorem pg_chk (R : List RecT) (i : Nat) : pg RecT.zero (fun w => recAt R (4 * i + w)) (pts R.length 0 i) = chkR R i ++ List.replicate (4 - (chkR R i).length) RecT.zero := by
 have hl := chkR_len R i
 have hp := pts_le R.length 0 i
 apply ext4 (pg_length _ _ _) (by rw [List.length_append, List.length_replicate]; omega) RecT.zero
 intro w hw
 rw [pg_getD _ _ _ hw]
 split
 ·rename_i h
  rw [List.getD_eq_getElem?_getD, List.getElem?_append_left (by omega)]
  unfold chkR recAt
  rw [List.getElem?_take, if_pos hw, List.getElem?_drop, List.getD_eq_getElem?_getD]
 ·rename_i h
  rw [List.getD_eq_getElem?_getD, List.getElem?_append_right (by omega), List.getElem?_replicate]
  split <;> rfl
theorem set_grp {R : List RecT} (h : FitR R) {i : Nat} (hi : i < 4294967296) : (NodT.emp 0 i).v.take (0 + 2) ++ recsV (chkR R i) ++ (NodT.emp 0 i).v.drop (0 + 2 + pts R.length 0 i * 35) = (grpR R i).v := by
 have hl := chkR_len R i
 have hp := pts_le R.length 0 i
 show [byteV 0, nW i] ++ recsV (chkR R i) ++ List.drop (2 + pts R.length 0 i * 35) ([byteV 0, nW i] ++ (recsV zerosR ++ entsV zerosE)) = nodV 0 i (pg RecT.zero (fun w => recAt R (4 * i + w)) (pts R.length 0 i)) zerosE
 rw [pg_chk, ← List.drop_drop, List.drop_left' (show ([byteV 0, nW i] : List Value).length = 2 from rfl)]
 have hz : (recsV zerosR ++ entsV zerosE).drop (pts R.length 0 i * 35) = recsV (List.replicate (4 - (chkR R i).length) RecT.zero) ++ entsV zerosE := by
  rw [List.drop_append_of_le_length (by rw [show (recsV zerosR).length = 140 from rfl]; omega)]
  congr 1
  rw [recsV, flat_drop (RecT.lens NodT.zr_fit)]
  unfold zerosR
  rw [List.drop_replicate, hl]
 rw [hz]
 unfold nodV recsV
 rw [List.flatMap_append]
 simp only [List.append_assoc]
def grpsT (R : List RecT) (i : Nat) : List NodT := (List.range i).map (grpR R)
theorem grpsT_step (R : List RecT) (i : Nat) : nodsV (grpsT R i) ++ (grpR R i).v = nodsV (grpsT R (i + 1)) := by
 unfold grpsT nodsV; rw [List.range_succ, List.map_append, List.flatMap_append]; simp
theorem grpsT_tre (R : List RecT) (S : List Nat) : grpsT R (un R.length 1) = treR R S (tot R.length 1) := by
 unfold grpsT treR
 rw [tot_one]
 apply List.map_congr_left
 intro k hk
 have hk := List.mem_range.1 hk
 have e1 := lev_at (n := R.length) (l := 0) (j := k) (by decide) hk
 have e2 := idx_at (n := R.length) (l := 0) (j := k) (by decide) hk
 rw [tot_zero, Nat.zero_add] at e1 e2
 rw [e1, e2, nodR_zero]
theorem A.openNilP {P : Program} {n : Nat} {κ : Cx} {E : Env} {w₀ : World} {c : Code} {Q : Exit → Act → World → Prop} {k b B' sz : Nat} {T e : TypeId} (hk : E.look k = some (blk b T [.slice none 0 0])) (h : A κ P w₀ n c ((k, varD b T (ownP B' e sz 0 [])) :: E) Q) : A κ P w₀ n c E Q := fun a w g hs => by
 obtain ⟨h1, h2⟩ := hs.of k _ hk
 exact h a w g (hs.push (t := k) (d := varD b T (ownP B' e sz 0 [])) ⟨h1, .slice none 0 0, h2, ownP_nil.of (w := w) rfl⟩)
theorem zero30 : ZeroIs Tryz.prog 30 [.slice none 0 0] := by unfold ZeroIs; kernel_rfl
theorem ChunkR_fnB (ad : Addr) (m c : Nat) : FnB Tryz.prog 67 [.v (.slice (some ad) m c), .v (.int .i64 (4))] (fun B => closD B 96 26 3 (.slice (some ad) m c) (.int .i64 4)) := by
 refine FnB.of Tryz.func67 rfl (by kernel_rfl) Tryz.ntmps67 (by simp) (fun w => [(0, .v (.slice (some ad) m c)), (1, .v (.int .i64 (4)))]) (fun w => (Start.v rfl (Start.v rfl Start.nil))) fun w₀ => ?_
 refine GS (TN 0 (RN ?_));refine ⟨_, _, eff_box1 (n := 9) (d := 2) (k := 1000002) rfl rfl (by decide), fun b2 hb2 => ?_⟩
 have hBb2 := hb2.1
 refine TN 1 (RN ?_);refine ⟨_, _, eff_box1 (n := 9) (d := 3) (k := 1000003) rfl rfl (by decide), fun b3 hb3 => ?_⟩
 have hBb3 := hb3.1
 have hlt_b2_b3 : b2 < b3 := hb3.2 1000002 _ _ _ rfl
 refine TL (RVN 1 rfl ?_);refine QS (GT (RLV 1000003 U3 rfl rfl rfl ?_));refine RB rfl rfl rfl ?_;refine RF ?_;refine RN (A.no rfl ?_);refine QK (GT (RS (ok_makeFunc2 rfl rfl) ?_));refine RVN 1 rfl ?_;refine A.ret ?_;exact End.clos rfl hBb2 hlt_b2_b3 rfl (k₁ := 1000002) (k₂ := 1000003) rfl rfl
set_option maxHeartbeats 1000000 in
theorem ChunkR_seq {w₀ : World} {ad : Addr} {m c lf p q : Nat} {J : Nat → World → Prop} (h1 : 1 ≤ m) (h2 : m ≤ 4096) (hc : m ≤ c)
  (hq : Seqs Tryz.prog w₀ (un m 1) lf (fun i => .v (.slice (some (ad.add (4 * i * 35))) (pts m 0 i) (pts m 0 i))) (fun _ => [(1000091, blk p 26 [.slice (some ad) m c]), (1000092, blk q 3 [.int .i64 4])]) J) {w : World} (h0 : J 0 w) :
  Calls Tryz.prog 96 (.func (.yield lf) #[] #[] :: [ptr p, ptr q] : List Value).toArray w fun e W => (∃ v, e = .returned v) ∧ J (un m 1) W := by
 have hu : un m 1 = (m + 3) / 4 := rfl
 obtain ⟨hb, hs, hV⟩ := hq.holds 0 w h0
 refine Calls.within (n := 31) (E := [(0, .v (.func (.yield lf) #[] #[])), (1, .v (ptr p)), (2, .v (ptr q)), (1000090, jD (J 0)), (1000091, blk p 26 [.slice (some ad) m c]), (1000092, blk q 3 [.int .i64 4])]) Tryz.func96 rfl Tryz.ntmps96 (by simp) (by decide) hb hs ?_ ?_
 ·intro x hx
  simp only [List.mem_cons, List.not_mem_nil, or_false] at hx
  rcases hx with rfl | rfl | rfl | rfl | rfl | rfl
  ·exact .inr ⟨_, rfl, rfl⟩
  ·exact .inr ⟨_, rfl, rfl⟩
  ·exact .inr ⟨_, rfl, rfl⟩
  ·exact .inl ⟨vle rfl, jD_mk h0⟩
  ·exact .inl ⟨vle rfl, hV _ (by simp)⟩
  ·exact .inl ⟨vle rfl, hV _ (by simp)⟩
 refine GV rfl (A.block ?_);refine A.loop (ι := Nat) (fun i => i ≤ un m 1) (fun i => [(0, .v (.func (.yield lf) #[] #[])), (1, .v (ptr p)), (2, .v (ptr q)), (4, .v (nI (4 * i))), (1000090, jD (J i)), (1000091, blk p 26 [.slice (some ad) m c]), (1000092, blk q 3 [.int .i64 4])]) (fun i => un m 1 - i) 0 ?_ ?_ ?_
 ·exact Nat.zero_le _
 ·exact (Sv [0,1,2,4,1000090,1000091,1000092] rfl)
 intro i hi
 refine QS (GT (RM rfl ?_));refine RLV 1000091 U26 rfl rfl rfl ?_;refine RS (ok_lenV U26 rfl) ?_;refine RVN 1 rfl ?_;refine A.cond rfl (fun hc9 => ?_) (fun hc9 => ?_)
 ·have hlt : i < un m 1 := by simp at hc9; omega
  have hp : pts m 0 i = min (m - 4 * i) 4 := rfl
  refine QK (QSB (GTD (RLV 1000092 U3 rfl rfl rfl ?_)));refine RLV 1000091 U26 rfl rfl rfl ?_;refine RM rfl ?_;refine RS (ok_sliceLX (4 * i) U26 infoP51 rfl rfl (by omega) (by omega) hc) ?_;refine RS (ok_lenV U26 rfl) ?_;refine RS (ok_min rfl rfl) ?_;refine RZ (nI (pts m 0 i)) (congrArg (Value.int .i64) (by have hp : pts m 0 i = min (m - 4 * i) 4 := rfl; omega)) ?_;refine RVN 1 rfl ?_;refine GS (TF 10 (RM rfl ?_));refine RLV 1000091 U26 rfl rfl rfl ?_;refine RV 4 rfl ?_;refine RZ (nI (4 * i + pts m 0 i)) (wrap_eq (by omega) (by omega)) ?_;refine RV 3 rfl ?_;refine RZ (nI (4 * i + pts m 0 i)) (wrap_eq (by omega) (by omega)) ?_;refine RS (ok_slice3X (4 * i) (4 * i + pts m 0 i) (4 * i + pts m 0 i) U26 infoP51 rfl rfl rfl rfl (by omega) (by omega) (by omega) (by omega)) ?_;refine RZ (.slice (some (ad.add (4 * i * 35))) (pts m 0 i) (pts m 0 i)) (by rw [Nat.add_sub_cancel_left]) ?_;refine RN ?_;refine ⟨_, eff_yield (vJ := 1000090) hq i hlt rfl rfl rfl (Le.refl _) (by decide) (fun p hp => by simp only [List.mem_cons, List.not_mem_nil, or_false] at hp; rcases hp with rfl | rfl <;> exact vle rfl) (by decide) (Left.cons (t := 0) rfl (Stays.v _ _) (Left.cons (t := 1) rfl (Stays.v _ _) (Left.cons (t := 2) rfl (Stays.v _ _) (Left.cons (t := 4) rfl (Stays.v _ _) Left.nil)))), ?_⟩
  refine TL (RS (ok_not rfl) ?_);refine RZ (.bool false) (rfl) ?_;refine RN (A.no rfl ?_);refine A.skip (End.normal_block (EN (GTE (RM rfl ?_))));refine RLV 1000092 U3 rfl rfl rfl ?_;refine RB rfl rfl rfl ?_;refine RZ (nI (4 * (i + 1))) (wrap_eq (by omega) (by omega)) ?_;refine RVN 1 rfl ?_;refine End.sub (Sv [0,1,2,4,1000090,1000091,1000092] rfl) ?_;refine End.normal_then ?_;refine End.again (i + 1) ?_ ?_ ?_
  ·show _ ≤ _; omega
  ·show _ - _ < _ - _; omega
  ·exact (Sv [0,1,2,4,1000090,1000091,1000092] rfl)
 ·have hi2 : i = un m 1 := by simp at hc9; omega
  refine A.exit (End.exit_then (End.exit_then (End.exit_here ?_)));exact End.seq (vJ := 1000090) hq rfl (by subst hi2; rfl)
abbrev recM (ad : Addr) (R : List RecT) : Env := [(1000801, memR (some ad) (recsV R))]
set_option maxHeartbeats 2000000 in
theorem groups_fnB (ad : Addr) (R : List RecT) (hR : FitR R) (h1 : 1 ≤ R.length) (h2 : R.length ≤ 4096) (c : Nat) (hc : R.length ≤ c)  : FnMB Tryz.prog 40 (recM ad R) [.v (.slice (some ad) R.length c)] (fun B => ownP B 57 274 (un R.length 1) (nodsV (grpsT R (un R.length 1)))) := by
 have hu : un R.length 1 = (R.length + 3) / 4 := rfl
 refine FnMB.ofO Tryz.func40 rfl (by kernel_rfl) Tryz.ntmps40 (by simp) (by decide) (fun w => [(0, .v (.slice (some ad) R.length c)), (1000801, old w.heap.size (memR (some ad) (recsV R)))]) (fun w => (StartMO.v rfl (StartMO.mo (by simp [recM]) (by decide) StartMO.nil))) fun w₀ hM => ?_
 skip
 refine GV rfl (GS (TN 0 (RN ?_)));refine ZN 1000003 zero30 fun b3 ⟨hBb3, hb3⟩ => ?_
 refine TL (RN (QS (GT (RM rfl ?_))));refine RS (ok_callB (ChunkR_fnB ad R.length c) (fun _ _ => closD_mono _ _) (A2 rfl rfl)) ?_;refine RN ?_;refine A.openClos (t := 7) (k₁ := 1000091) (k₂ := 1000092) rfl fun p q hBp hpq => ?_
 refine A.openNilP (k := 1000003) (B' := w₀.heap.size) (e := 57) (sz := 274) rfl ?_;refine A.block ?_;refine A.range (gf := 96) (N := un R.length 1) (vL := 1000098) (vD := 1000099) (tp := 8) (lb := [ptr p, ptr q]) (S := [(3, .v (ptr b3))])
  (V := fun i => [(1000003, varD b3 30 (ownP w₀.heap.size 57 274 (i) (nodsV (grpsT R (i))))), (1000091, blk p 26 [.slice (some ad) R.length c]), (1000092, blk q 3 [.int .i64 4]), (1000801, old w₀.heap.size (memR (some ad) (recsV R)))])
  (Eb := fun i => (4, .v (.slice (some (ad.add (4 * i * 35))) (pts R.length 0 i) (pts R.length 0 i))) :: (8, .v (.slice (some (ad.add (4 * i * 35))) (pts R.length 0 i) (pts R.length 0 i))) :: ([(1000003, varD b3 30 (ownP w₀.heap.size 57 274 (i) (nodsV (grpsT R (i))))), (1000091, blk p 26 [.slice (some ad) R.length c]), (1000092, blk q 3 [.int .i64 4]), (1000801, old w₀.heap.size (memR (some ad) (recsV R)))] ++ [(3, .v (ptr b3))]))
  (arg := fun i => .v (.slice (some (ad.add (4 * i * 35))) (pts R.length 0 i) (pts R.length 0 i))) rfl ⟨_, Tryz.func96, by kernel_rfl, rfl⟩ (by decide) (by decide) (KE 1000003 rfl (by rfl) (KC 1000091 rfl (KC 1000092 rfl (KC 1000801 rfl (KC 3 rfl KN)))))
  (fun x hx => by simp only [List.mem_cons, List.mem_append, List.not_mem_nil, or_false, or_assoc] at hx; rcases hx with rfl <;> exact ⟨vlt rfl, .inl ⟨_, rfl⟩⟩)
  (fun i x hx => by simp only [List.mem_cons, List.mem_append, List.not_mem_nil, or_false, or_assoc] at hx; rcases hx with rfl | rfl | rfl | rfl <;> exact vle rfl)
  (fun i l' hl' x hx => by simp only [List.mem_cons, List.mem_append, List.not_mem_nil, or_false, or_assoc] at hx; rcases hx with rfl | rfl | rfl | rfl <;> first | exact Firm.blk | exact Firm.old hl' | exact Firm.v _ _ | exact Firm.tab | exact Firm.freshV | exact Firm.varD Firm.ownP)
  (fun i l' hl' x hx => by simp only [List.mem_cons, List.mem_append, List.not_mem_nil, or_false, or_assoc] at hx; rcases hx with rfl | rfl | rfl | rfl | rfl | rfl | rfl <;> first | exact Firm.blk | exact Firm.old hl' | exact Firm.v _ _ | exact Firm.tab | exact Firm.freshV | exact Firm.varD Firm.ownP)
  (fun J l' w hq h0 => ChunkR_seq h1 h2 hc (hq.sub fun i x hx => by simp only [List.mem_cons, List.mem_append, List.not_mem_nil, or_false, or_assoc] at hx ⊢; rcases hx with rfl | rfl <;> simp) h0)
  (fun i l' a w _ h => assign_one (by decide) (by decide) (by decide) h) ?_ ?_
 ·intro i l' D rr mm hi
  refine A.partM (k := 1000801) (k' := 1000802) (4 * i * 35) (pts R.length 0 i * 35) rfl ?_
  have hp : pts R.length 0 i = min (R.length - 4 * i) 4 := rfl
  refine A.block ?_;refine A.openD (k := 1000003) (k' := 1000203) rfl (fun w x h => ownP_one h) fun v3 hv3 => ?_
  refine GS (TN 4 (RLV 1000003 U30 rfl rfl rfl ?_));refine RS (ok_lenPM (k := 1000203) U30 rfl (by decide) rfl) ?_;refine RS (ok_conv U3 U46 rfl) ?_;refine RZ (nW i) (congrArg (Value.int .u32) (wrap_u32 (by omega) (by omega))) ?_;refine RS (ok_call (nEmpty_fn 0 i (by omega)) (A2 rfl rfl)) ?_;refine RN ?_;refine ⟨_, _, eff_allocLtM (n := 22) (d := 5) (k := 1000005) (r := 1000203) zero57 (by decide) rfl, fun b5 hb5 => ?_⟩
  have hBb5 := hb5.1
  refine TF 5 (RN ?_);refine ⟨_, eff_storeA (n := 22) (s := 1000005) (size57.of ((NodT.emp_fit 0 (j := i) (by omega)).len)) rfl rfl (NodT.one _) hBb5 rfl (by rw [(NodT.emp_fit 0 (j := i) (by omega)).len]; rfl) (LT 1000003 rfl (LT 1000091 rfl (LT 1000092 rfl (LeftS.cons (t := 1000098) rfl (Surv.rec rfl) (LeftS.cons (t := 1000099) rfl (Surv.rec rfl) (LeftS.cons (t := 1000203) rfl (Surv.valM Surv.ltP) (LO 1000801 rfl (LO 1000802 rfl (LW [3,4,5] rfl))))))))), ?_⟩
  refine TL (RN (GS (TF 3 (RS (ok_field field57_2 (by decide) rfl) ?_))));refine RS (ok_sliceN 0 4 U52 size51 rfl (.inr ⟨rfl, rfl⟩) (.inr ⟨rfl, rfl, rfl⟩) (.inr ⟨rfl, rfl⟩) (by decide) (by decide) (by decide)) ?_;refine RZ (.slice (some ⟨b5,0 + 2, none⟩) 4 4) (by rfl) ?_;refine RVN 1 rfl ?_;refine ⟨_, eff_copyK (n := 22) (s := 1000005) (k := 1000802) (ys := recsV (chkR R i)) U26 infoP51 rfl rfl (by show some (old _ (memR _ _)) = _; rw [chkR_v hR i]; rfl) (RecT.all1 _) (by rw [recs_len (chkR_fit hR i), chkR_len]) (pts_le _ _ _) (by decide) hBb5 rfl (by rw [show (NodT.emp 0 i).v.length = 274 from rfl]; have := pts_le R.length 0 i; omega) (by decide) (LT 1000003 rfl (LT 1000091 rfl (LT 1000092 rfl (LeftS.cons (t := 1000098) rfl (Surv.rec rfl) (LeftS.cons (t := 1000099) rfl (Surv.rec rfl) (LeftS.cons (t := 1000203) rfl (Surv.valM Surv.ltP) (LO 1000801 rfl (LO 1000802 rfl (LW [3,5] rfl))))))))), ?_⟩
  refine TL (RN (A.sub (KC 3 rfl (KC 5 rfl (KC 1000003 rfl (KE 1000005 rfl (show _ = blk b5 57 (grpR R i).v from congrArg (blk b5 57) (set_grp hR (by omega))) (KC 1000091 rfl (KC 1000092 rfl (KC 1000098 rfl (KC 1000099 rfl (KC 1000203 rfl (KC 1000801 rfl (KC 1000802 rfl KN))))))))))) ?_));refine A.subL (QC 3 rfl (QC 5 rfl (QC 1000003 rfl (QC 1000005 rfl (QC 1000091 rfl (QC 1000092 rfl (QC 1000098 rfl (QC 1000099 rfl (QX 1000203 rfl (valM_le Le.lt) (QC 1000801 rfl (QC 1000802 rfl SubL.nil))))))))))) ?_;refine GE (TF 3 (RS (OpOk.valP (k := 1000203) (ok_loadV (s := 1000003) (by decide) U30 rfl rfl rfl (rfl)) (by decide) rfl) ?_));refine RL 1000005 U57 rfl rfl (size57.of ((grpR_fit hR (by omega)).len)) ?_;refine RS (ok_build1K U30 infoN rfl (by decide) (by decide) rfl (grpR_fit hR (by omega)).len) ?_;refine RN ?_;refine ⟨_, eff_appendG U30 infoN (by decide) (by decide) rfl rfl rfl (grpR_fit hR (by omega)).len (NodT.one _) (by omega) (by decide) (fun g hg => (LV 3 rfl (LT 1000003 rfl (LT 1000091 rfl (LT 1000092 rfl (LeftS.cons (t := 1000098) rfl (Surv.rec rfl) (LeftS.cons (t := 1000099) rfl (Surv.rec rfl) (LO 1000801 rfl (LO 1000802 rfl LN))))))))), ?_⟩
  refine TF 4 (RN ?_);refine ⟨_, eff_storeD (n := 22) (s := 1000003) info30 rfl rfl (fun _ _ h => ownP_one h) hBb3 rfl (Surv.ownP (by decide)) (LT 1000091 rfl (LT 1000092 rfl (LeftS.cons (t := 1000098) rfl (Surv.rec rfl) (LeftS.cons (t := 1000099) rfl (Surv.rec rfl) (LO 1000801 rfl (LO 1000802 rfl LN)))))), ?_⟩
  refine TL (RN (End.normal_block ?_));exact End.round (KC 1000098 rfl (KC 1000099 rfl (KE 1000003 rfl (varD_eq (by rw [← grpsT_step])) (KC 1000091 rfl (KC 1000092 rfl (KC 1000801 rfl KN)))))) (fun x hx => by simp only [List.mem_cons, List.not_mem_nil, or_false] at hx; rcases hx with rfl | rfl | rfl | rfl | rfl | rfl <;> exact vle rfl) (by decide)
 ·intro D hD
  refine End.normal_block (EN (GT (RS (ok_loadD (s := 1000003) (by decide) U30 rfl rfl rfl) ?_)));refine RVN 1 rfl ?_;refine A.ret ?_;exact End.ret1C (vD := 1000099) rfl hD rfl rfl Firm.ownP (Le.refl _)
section
theorem buildEntB (x : UInt8) (t : List UInt8) (ht : t.length = 32) : Tryz.prog.built 54 [(0, byteV x), (1, aggV (t.map byteV))] = some (EntT.v ⟨x, t⟩).toArray := by
 match t, ht with
 | [a0, a1, a2, a3, a4, a5, a6, a7, a8, a9, b0, b1, b2, b3, b4, b5, b6, b7, b8, b9, c0, c1, c2, c3, c4, c5, c6, c7, c8, c9, d0, d1], _ => show _ = _; kernel_rfl
def slotV (S : List Nat) : List Value := S.map nI
theorem slotV_at {S : List Nat} {k : Nat} (h : k < S.length) : (slotV S)[k * 1]? = some (nI (S.getD k 0)) := by
 unfold slotV
 rw [Nat.mul_one, List.getElem?_map, List.getD_eq_getElem?_getD, List.getElem?_eq_getElem h]; rfl
theorem entT_fit (n : Nat) (T : List NodT) (S : List Nat) (l k : Nat) : (entT n T S l k).Fit := by
 unfold entT
 split
 ·exact EntT.zero_fit
 ·exact entR_fit _ _
def nodW (n : Nat) (T : List NodT) (S : List Nat) (l j w : Nat) : NodT := ⟨UInt8.ofNat (l + 1), j, zerosR, pg EntT.zero (fun v => entT n T S l (4 * j + v)) w⟩
theorem nodW_fit (n : Nat) (T : List NodT) (S : List Nat) (l : Nat) {j : Nat} (hj : j < 4294967296) (w : Nat) : (nodW n T S l j w).Fit := ⟨hj, rfl, pg_length _ _ _, NodT.zr_fit, pg_fitE fun i => entT_fit _ _ _ _ _⟩
theorem nodW_zero (n : Nat) (T : List NodT) (S : List Nat) (l j : Nat) : nodW n T S l j 0 = NodT.emp (UInt8.ofNat (l + 1)) j := by unfold nodW NodT.emp; rw [pg_zero]; rfl
theorem nodW_full (n : Nat) (T : List NodT) (S : List Nat) (l j : Nat) : nodW n T S l j (pts n (l + 1) j) = upT n T S l j := rfl
theorem nodW_set (n : Nat) (T : List NodT) (S : List Nat) (l j : Nat) {w : Nat} (hw : w < 4) : ({ nodW n T S l j w with E := (nodW n T S l j w).E.set w (entT n T S l (4 * j + w)) } : NodT) = nodW n T S l j (w + 1) := by
 unfold nodW
 dsimp only
 rw [pg_set EntT.zero (fun v => entT n T S l (4 * j + v)) hw]
theorem nodW_skip {n : Nat} {T : List NodT} {S : List Nat} {l j w : Nat} (hw : w < 4) (he : emT n T l (4 * j + w) = true) : nodW n T S l j w = nodW n T S l j (w + 1) := by
 rw [← nodW_set n T S l j hw]
 have hz : entT n T S l (4 * j + w) = EntT.zero := by unfold entT; rw [he]; rfl
 rw [hz]
 have hl : (pg EntT.zero (fun v => entT n T S l (4 * j + v)) w).length = 4 := pg_length _ _ _
 have hg : (pg EntT.zero (fun v => entT n T S l (4 * j + v)) w).getD w EntT.zero = EntT.zero := by rw [pg_getD _ _ _ hw, if_neg (by omega)]
 unfold nodW
 dsimp only
 congr 1
 apply ext4 hl (by simpa using hl) EntT.zero
 intro i hi
 by_cases h : w = i
 ·subst h
  rw [hg, List.getD_eq_getElem?_getD, List.getElem?_set_self (by rw [hl]; exact hw)]; rfl
 ·rw [List.getD_eq_getElem?_getD, List.getD_eq_getElem?_getD, List.getElem?_set_ne h]
theorem entT_no {n : Nat} {T : List NodT} {S : List Nat} {l k : Nat} (he : emT n T l k = false) : entT n T S l k = ⟨UInt8.ofNat (S.getD (tot n l + k) 0 + 1), sha (ndAt T (tot n l + k)).bl⟩ := by unfold entT; rw [he]; rfl
theorem upT_fit (n : Nat) (T : List NodT) (S : List Nat) (l : Nat) {j : Nat} (hj : j < 4294967296) : (upT n T S l j).Fit := nodW_fit n T S l hj _
theorem made_nod (m : Nat) (f : Nat → NodT) : (madeCells (aggV (NodT.emp 0 0).v).cells (m * 274)).toList = nodsV (pgT f m 0) := by
 rw [made_flat (z := (aggV (NodT.emp 0 0).v).cells) (v := NodT.v) (a := NodT.emp 0 0) (k := 274) (by decide) rfl rfl m, pgT_zero]; rfl
theorem pgT_step {m i : Nat} {f : Nat → NodT} (h : ∀ k, k < m → (f k).Fit) (hi : i < m) : (nodsV (pgT f m i)).take (i * 274) ++ (f i).v ++ (nodsV (pgT f m i)).drop (i * 274 + 274) = nodsV (pgT f m (i + 1)) := by
 rw [nods_set (pgT_fit fun k hk _ => h k hk) (by rw [pgT_length]; exact hi) (h i hi), pgT_set f hi]
abbrev abM (ad : Addr) (T : List NodT) (sd : Addr) (S : List Nat) : Env := [(1000501, memR (some ad) (nodsV T)), (1000701, memR (some sd) (slotV S))]
set_option maxHeartbeats 4000000 in
theorem above_fnB (n : Nat) (h1 : 1 ≤ n) (h2 : n ≤ 4096) (l : Nat) (hl : l + 1 ≤ hg n) (ad : Addr) (T : List NodT) (hT : FitT T) (c : Nat) (hTl : tot n (l + 1) ≤ T.length) (hck : ∀ j, j < un n (l + 1) → (ndAt T (tot n l + j)).ck = 0) (S : List Nat) (hS : OkS S) (hSl : tot n (hg n + 1) ≤ S.length) (sd : Addr) (sc : Nat)  : FnMB Tryz.prog 42 (tabN ++ abM ad T sd S) [.v (aggV [nI n, .slice (some ad) T.length c]), .v (nI (l)), .v (.slice (some sd) S.length sc)] (fun B => newD B 57 (fun b => .slice (some ⟨b, 0, none⟩) (un n (l + 2)) (un n (l + 2))) (nodsV (pgT (upT n T S l) (un n (l + 2)) (un n (l + 2))))) := by
 have hh := hg_le n
 have hu1 : un n 1 ≤ T.length := by have := tot_mono (n := n) (show 1 ≤ l + 1 by omega); rw [tot_one] at this; omega
 have hcn := un_le h1 (l + 2)
 have hcp := un_pos h1 (l + 2)
 have hfu : ∀ k, k < un n (l + 2) → (upT n T S l k).Fit := fun k hk => upT_fit n T S l (by omega)
 refine FnMB.ofO Tryz.func42 rfl (by kernel_rfl) Tryz.ntmps42 (by simp) (by decide) (fun w => [(0, .v (aggV [nI n, .slice (some ad) T.length c])), (1, .v (nI (l))), (2, .v (.slice (some sd) S.length sc)), (1900001, tab 1 (sizV)), (1900002, tab 2 (H8.list.map u32V)), (1900003, tab 3 (K64.map u32V)), (1000501, old w.heap.size (memR (some ad) (nodsV T))), (1000701, old w.heap.size (memR (some sd) (slotV S)))]) (fun w => (StartMO.v rfl (StartMO.v rfl (StartMO.v rfl (StartMO.m (by simp [tabN]) (by decide) (StartMO.m (by simp [tabN]) (by decide) (StartMO.m (by simp [tabN]) (by decide) (StartMO.mo (by simp [tabN]) (by decide) (StartMO.mo (by simp [tabN]) (by decide) StartMO.nil))))))))) fun w₀ hM => ?_
 have htab := tabN_hi fun p hp => hM p (List.mem_append_left _ hp)
 refine GS (TN 0 (RN ?_));refine ZB 1000003 rfl fun b3 ⟨hBb3, hb3⟩ => ?_
 refine TL (RVN 1 rfl ?_);refine GS (RunTK.newG 3 (by decide) rfl (.inl rfl) ?_);refine RV 2 rfl ?_;refine RZ (nI (l + 1)) (wrap_eq (by omega) (by omega)) ?_;refine RL 1000003 U32 rfl rfl (size32.of rfl) ?_;refine RN ?_;refine ⟨_, _, _, eff_nameE (n := 83) (d := 21) (k₁ := 1000601) (k₂ := 1000602) rfl rfl (fun B' => ok_callB (emptiness_fnB _ _ rfl rfl) closE_mono (A1 rfl)) (by decide) (by decide), fun x21 hx21 => ?_⟩
 obtain ⟨p, q⟩ := x21
 have hBp : w₀.heap.size ≤ p := hx21.1
 have hBq : w₀.heap.size ≤ q := hx21.2.1
 have hlt_b3_p : b3 < p := (hx21.2.2.2 1000003 _ _ _ rfl).1
 have hlt_b3_q : b3 < q := (hx21.2.2.2 1000003 _ _ _ rfl).2
 refine TL (RVN 2 rfl ?_);refine GT (RS (ok_field field32_0 (by decide) rfl) ?_);refine RLV 1000003 U3 rfl rfl rfl ?_;refine RM rfl ?_;refine RS (ok_call (Count_ok n h1 h2 (l + 1) hl) (A2 rfl rfl)) ?_;refine RVN 5 rfl ?_;refine GS (TN 1 (RVN 1 rfl ?_));refine ZM 1000030 (fun B' => ok_makeG (un n (l + 2)) U30 infoN (by decide) rfl rfl (by omega)) rfl fun b30 ⟨hBb30, hb30⟩ => ?_
 have hlt_b3_b30 := hb30 1000003 b3 _ _ rfl
 have hlt_p_b30 := hb30 1000601 p _ _ rfl
 have hlt_q_b30 := hb30 1000602 q _ _ rfl
 refine TL (RVN 1 rfl ?_);refine QS (GV rfl (A.block ?_));refine A.loop (ι := Nat) (fun i => i ≤ un n (l + 2)) (fun i => [(2, .v (.slice (some sd) S.length sc)), (3, .v (ptr b3)), (7, .v (nI (l + 1))), (8, .v (emF1 p q)), (11, .v (.slice (some ⟨b30,0, none⟩) (un n (l + 2)) (un n (l + 2)))), (31, .v (nI (un n (l + 2)))), (32, .v (nI (i))), (1000003, blk b3 32 [nI n, .slice (some ad) T.length c]), (1000601, blk p 32 [nI n, .slice (some ad) T.length c]), (1000602, blk q 115 [emF1 p q]), (1000030, blk b30 57 (nodsV (pgT (upT n T S l) (un n (l + 2)) i))), (1900001, tab 1 (sizV)), (1900002, tab 2 (H8.list.map u32V)), (1900003, tab 3 (K64.map u32V)), (1000501, old w₀.heap.size (memR (some ad) (nodsV T))), (1000701, old w₀.heap.size (memR (some sd) (slotV S)))]) (fun i => un n (l + 2) - i) 0 ?_ ?_ ?_
 ·exact Nat.zero_le _
 ·exact (KC 2 rfl (KC 3 rfl (KC 7 rfl (KC 8 rfl (KC 11 rfl (KC 31 rfl (KE 32 rfl (by rfl) (KC 1000003 rfl (KC 1000601 rfl (KC 1000602 rfl (KE 1000030 rfl (congrArg (blk b30 57) (made_nod _ _)) (KC 1900001 rfl (KC 1900002 rfl (KC 1900003 rfl (KC 1000501 rfl (KC 1000701 rfl KN))))))))))))))))
 intro i hi'
 refine GV rfl (QS ?_);refine A.cond rfl (fun hc33 => ?_) (fun hc33 => ?_)
 ·have hi : i < un n (l + 2) := by simp at hc33; omega
  refine QK (QSB (GV rfl (GS (TN 5 (RM rfl ?_)))));refine RS (ok_conv U3 U5 rfl) ?_;refine RZ (byteV (UInt8.ofNat (l + 1))) (by rw [wrap_u8_nat]; rfl) ?_;refine RM rfl ?_;refine RS (ok_conv U3 U46 rfl) ?_;refine RZ (nW i) (congrArg (Value.int .u32) (wrap_u32 (by omega) (by omega))) ?_;refine RS (ok_call (nEmpty_fn (UInt8.ofNat (l + 1)) i (by omega)) (A2 rfl rfl)) ?_;refine RN ?_;refine ZN 1000013 zero57 fun b13 ⟨hBb13, hb13⟩ => ?_
  have hlt_b30_b13 := hb13 1000030 b30 _ _ rfl
  refine TF 6 (RN ?_);refine ⟨_, eff_storeA (n := 83) (s := 1000013) (size57.of ((NodT.emp_fit (UInt8.ofNat (l + 1)) (j := i) (by omega)).len)) rfl rfl (NodT.one _) hBb13 rfl (by rw [(NodT.emp_fit (UInt8.ofNat (l + 1)) (j := i) (by omega)).len]; rfl) (LT 1000003 rfl (LB 1000030 rfl (LO 1000501 rfl (LT 1000601 rfl (LT 1000602 rfl (LO 1000701 rfl (LQ 1900001 rfl (LQ 1900002 rfl (LQ 1900003 rfl (LW [2,3,7,8,11,12,13,31,32] rfl)))))))))), ?_⟩
  refine TL (RN (QS (GT (RS (ok_field field32_0 (by decide) rfl) ?_))));refine RLV 1000003 U3 rfl rfl rfl ?_;refine RV 2 rfl ?_;refine RS (ok_litS [(0, nI (l + 1)), (1, nI i)] (plV (l + 1) i) ⟨rfl, rfl, rfl, rfl, trivial⟩ (buildP _ _)) ?_;refine RS (ok_callB (kids_fnB n h1 h2 l i hl hi) (fun _ _ h => ownP_mono h) (A2 rfl rfl)) ?_;refine RS (ok_lenRD U112 rfl ownP_rowD) ?_;refine RVN 1 rfl ?_;refine A.block ?_;refine A.loop (ι := Nat) (fun w => w ≤ pts n (l + 1) i) (fun w => [(2, .v (.slice (some sd) S.length sc)), (3, .v (ptr b3)), (7, .v (nI (l + 1))), (8, .v (emF1 p q)), (11, .v (.slice (some ⟨b30,0, none⟩) (un n (l + 2)) (un n (l + 2)))), (31, .v (nI (un n (l + 2)))), (32, .v (nI (i))), (1000003, blk b3 32 [nI n, .slice (some ad) T.length c]), (1000601, blk p 32 [nI n, .slice (some ad) T.length c]), (1000602, blk q 115 [emF1 p q]), (1000030, blk b30 57 (nodsV (pgT (upT n T S l) (un n (l + 2)) i))), (12, .v (nI (i))), (13, .v (ptr b13)), (45, ownP w₀.heap.size 67 2 (pts n (l + 1) i) (kidL (l + 1) i (pts n (l + 1) i))), (46, .v (nI (pts n (l + 1) i))), (47, .v (nI (w))), (1000013, blk b13 57 (nodW n T S l i w).v), (1900001, tab 1 (sizV)), (1900002, tab 2 (H8.list.map u32V)), (1900003, tab 3 (K64.map u32V)), (1000501, old w₀.heap.size (memR (some ad) (nodsV T))), (1000701, old w₀.heap.size (memR (some sd) (slotV S)))]) (fun w => pts n (l + 1) i - w) 0 ?_ ?_ ?_
  ·exact Nat.zero_le _
  ·exact (KC 2 rfl (KC 3 rfl (KC 7 rfl (KC 8 rfl (KC 11 rfl (KC 31 rfl (KC 32 rfl (KC 1000003 rfl (KC 1000601 rfl (KC 1000602 rfl (KC 1000030 rfl (KC 12 rfl (KC 13 rfl (KC 45 rfl (KC 46 rfl (KE 47 rfl (by rfl) (KE 1000013 rfl (by rw [nodW_zero]) (KC 1900001 rfl (KC 1900002 rfl (KC 1900003 rfl (KC 1000501 rfl (KC 1000701 rfl KN))))))))))))))))))))))
  intro w hw'
  refine GV rfl (QS ?_);refine A.cond rfl (fun hc48 => ?_) (fun hc48 => ?_)
  ·have hw : w < pts n (l + 1) i := by simp at hc48; omega
   have hw4 : w < 4 := by have := pts_le n (l + 1) i; omega
   have hkS : tot n l + (4 * i + w) < S.length := by have := numP_lt (n := n) (l := l) (j := (4 * i + w)) (by omega) (kid_ok hw); omega
   refine QK (QSB (GS (TN 3 (RM rfl ?_))));refine RS (ok_indexRD w U112 infoPP rfl ownP_rowD rfl hw (by rw [kidL_length]; omega)) ?_;refine RS (ok_loadElemT 2 U67 rfl size67 (by rw [kidL_at hw]; exact Nat.le_refl _) rfl) ?_;refine RZ (aggV (plV l (4 * i + w))) (congrArg aggV (by rw [kidL_at hw]; rfl)) ?_;refine RN ?_;refine ⟨_, _, eff_allocLt (n := 83) (d := 15) (k := 1000015) (r := 45) zero67 (by decide) rfl, fun b15 hb15 => ?_⟩
   have hBb15 := hb15.1
   refine TF 5 (RVN 1 rfl ?_);refine ZA 1000015 (size67.of rfl) hBb15 rfl rfl rfl (LeftS.cons (t := 45) rfl (Surv.ltP) (LT 1000003 rfl (LT 1000013 rfl (LT 1000030 rfl (LO 1000501 rfl (LT 1000601 rfl (LT 1000602 rfl (LO 1000701 rfl (LQ 1900001 rfl (LQ 1900002 rfl (LQ 1900003 rfl (LW [2,3,7,8,11,12,13,14,15,31,32,46,47] rfl)))))))))))) ?_;refine TL (RN (A.subL (QC 2 rfl (QC 3 rfl (QC 7 rfl (QC 8 rfl (QC 11 rfl (QC 12 rfl (QC 13 rfl (QC 14 rfl (QC 15 rfl (QC 31 rfl (QC 32 rfl (QX 45 rfl (Le.lt) (QC 46 rfl (QC 47 rfl (QC 1000003 rfl (QC 1000013 rfl (QC 1000015 rfl (QC 1000030 rfl (QC 1000501 rfl (QC 1000601 rfl (QC 1000602 rfl (QC 1000701 rfl (QC 1900001 rfl (QC 1900002 rfl (QC 1900003 rfl SubL.nil))))))))))))))))))))))))) ?_));refine GT (RM rfl ?_);refine RL 1000015 U67 rfl rfl (size67.of rfl) ?_;refine RS (ok_callVMK (us := [ptr p, ptr q]) (em_fn n h1 h2 ad T hT hu1 c p q l (4 * i + w) (by omega) (kid_ok hw)) (SubK.cons (k := 1000601) (by decide) rfl (Le.refl _) (SubK.cons (k := 1000602) (by decide) rfl (Le.refl _) (SubK.cons (k := 1000501) (by decide) rfl Le.unold SubK.nil))) rfl (A1 rfl)) ?_;refine RVN 1 rfl ?_;refine A.cond rfl (fun hc55 => ?_) (fun hc55 => ?_)
   ·have he : emT n T l (4 * i + w) = false := by simpa using hc55
    refine GT (RM rfl ?_);refine RS (ok_field field32_0 (by decide) rfl) ?_;refine RLV 1000003 U3 rfl rfl rfl ?_;refine RL 1000015 U67 rfl rfl (size67.of rfl) ?_;refine RS (ok_call (numberOf_fn n h1 h2 l (4 * i + w) (by omega) (kid_ok hw)) (A2 rfl rfl)) ?_;refine RS (ok_indexRX (tot n l + (4 * i + w)) U27 infoPI rfl rfl hkS) ?_;refine RS (ok_loadRX (u := nI (S.getD (tot n l + (4 * i + w)) 0)) (s := 1000701) U3 rfl rfl (by decide) rfl (slotV_at hkS)) ?_;refine RS (ok_call (State_ok ((S.getD (tot n l + (4 * i + w)) 0) : Nat) (UInt8.ofNat ((S.getD (tot n l + (4 * i + w)) 0) + 1)) (by omega) (by have := hS.at (tot n l + (4 * i + w)); omega) (by rw [sm8 (by have := hS.at (tot n l + (4 * i + w)); omega)]; omega)) (A1 rfl)) ?_;refine RVN 5 rfl ?_;refine GE (TF 9 (RV 2 rfl ?_));refine RL 1000003 U32 rfl rfl (size32.of rfl) ?_;refine RL 1000015 U67 rfl rfl (size67.of rfl) ?_;refine RS (ok_callMK (at_fn n h1 h2 l (4 * i + w) (by omega) (kid_ok hw) ad T hT c (by have := kid_ok hw; have := tot_succ n l; omega)) (SubK.cons (k := 1000501) (by decide) rfl Le.unold SubK.nil) (A2 rfl rfl)) ?_;refine RS (ok_callM (digestOf_fn (ndAt T (tot n l + (4 * i + w))) (hT.at _) (hck _ (kid_ok hw))) (Sub.cons rfl (Sub.cons rfl (Sub.cons rfl KN))) tabN_v (A1 rfl)) ?_;refine RS (ok_litS [(0, byteV (UInt8.ofNat ((S.getD (tot n l + (4 * i + w)) 0) + 1))), (1, aggV ((sha (ndAt T (tot n l + (4 * i + w))).bl).map byteV))] (EntT.v ⟨UInt8.ofNat ((S.getD (tot n l + (4 * i + w)) 0) + 1), sha (ndAt T (tot n l + (4 * i + w))).bl⟩) ⟨rfl, rfl, rfl, rfl, trivial⟩ (buildEntB _ _ (sha_length _))) ?_;refine RS (ok_field field57_3 (by decide) rfl) ?_;refine RS (ok_indexN (w) U55 size54 rfl rfl (rfl) (hw4)) ?_;refine RN ?_;refine ⟨_, eff_storeP (n := 83) (s := 1000013) (size54.of (by show _ = 33; rw [EntT.Fit.len ⟨sha_length _⟩])) rfl rfl (EntT.one _) hBb13 rfl (by rw [(nodW_fit n T S l (j := i) (by omega) w).len, EntT.Fit.len ⟨sha_length _⟩]; omega) (LeftS.cons (t := 45) rfl (Surv.ownP (by decide)) (LT 1000003 rfl (LT 1000015 rfl (LB 1000030 rfl (LO 1000501 rfl (LT 1000601 rfl (LT 1000602 rfl (LO 1000701 rfl (LQ 1900001 rfl (LQ 1900002 rfl (LQ 1900003 rfl (LW [2,3,7,8,11,12,13,31,32,46,47] rfl)))))))))))), ?_⟩
    refine TL (RN (End.sub (KC 2 rfl (KC 3 rfl (KC 7 rfl (KC 8 rfl (KC 11 rfl (KC 12 rfl (KC 13 rfl (KC 31 rfl (KC 32 rfl (KC 45 rfl (KC 46 rfl (KC 47 rfl (KC 1000003 rfl (KE 1000013 rfl (show _ = blk b13 57 (nodW n T S l i (w + 1)).v from congrArg (blk b13 57) (by rw [← entT_no he, Nat.zero_add, (nodW_fit n T S l (j := i) (by omega) w).set_ent hw4 (entT_fit _ _ _ _ _), nodW_set n T S l i hw4])) (KC 1000015 rfl (KC 1000030 rfl (KC 1000501 rfl (KC 1000601 rfl (KC 1000602 rfl (KC 1000701 rfl (KC 1900001 rfl (KC 1900002 rfl (KC 1900003 rfl KN))))))))))))))))))))))) ?_));refine End.normal_block (EN (GTE (RB rfl rfl rfl ?_)));refine RZ (nI (w + 1)) (wrap_eq (by omega) (by have := pts_le n (l + 1) i; omega)) ?_;refine RVN 1 rfl ?_;refine End.normal_then ?_;refine End.again (w + 1) ?_ ?_ ?_
    ·show _ ≤ _; omega
    ·show _ - _ < _ - _; omega
    ·exact (KC 2 rfl (KC 3 rfl (KC 7 rfl (KC 8 rfl (KC 11 rfl (KC 31 rfl (KC 32 rfl (KC 1000003 rfl (KC 1000601 rfl (KC 1000602 rfl (KC 1000030 rfl (KC 12 rfl (KC 13 rfl (KC 45 rfl (KC 46 rfl (KC 47 rfl (KE 1000013 rfl (by first | rfl | (rw [nodW_skip hw4 he])) (KC 1900001 rfl (KC 1900002 rfl (KC 1900003 rfl (KC 1000501 rfl (KC 1000701 rfl KN))))))))))))))))))))))
   ·have he : emT n T l (4 * i + w) = true := by simpa using hc55
    refine A.skip (End.normal_block (EN (GTE (RB rfl rfl rfl ?_))));refine RZ (nI (w + 1)) (wrap_eq (by omega) (by have := pts_le n (l + 1) i; omega)) ?_;refine RVN 1 rfl ?_;refine End.normal_then ?_;refine End.again (w + 1) ?_ ?_ ?_
    ·show _ ≤ _; omega
    ·show _ - _ < _ - _; omega
    ·exact (KC 2 rfl (KC 3 rfl (KC 7 rfl (KC 8 rfl (KC 11 rfl (KC 31 rfl (KC 32 rfl (KC 1000003 rfl (KC 1000601 rfl (KC 1000602 rfl (KC 1000030 rfl (KC 12 rfl (KC 13 rfl (KC 45 rfl (KC 46 rfl (KC 47 rfl (KE 1000013 rfl (by first | rfl | (rw [nodW_skip hw4 he])) (KC 1900001 rfl (KC 1900002 rfl (KC 1900003 rfl (KC 1000501 rfl (KC 1000701 rfl KN))))))))))))))))))))))
  ·have hw2 : w = pts n (l + 1) i := by simp at hc48; omega
   refine A.exit (End.exit_then (End.exit_then (End.exit_here (EN (GE (TF 4 (RV 2 rfl ?_)))))));refine RL 1000013 U57 rfl rfl (size57.of ((nodW_fit n T S l (j := i) (by omega) _).len)) ?_;refine RZ (aggV (upT n T S l i).v) (by rw [hw2, nodW_full]) ?_;refine RS (ok_indexS i U30 infoN rfl rfl rfl hi) ?_;refine RN ?_;refine ⟨_, eff_storeP (n := 83) (s := 1000030) (size57.of ((hfu i hi).len)) rfl rfl (NodT.one _) hBb30 rfl (by rw [nods_len (pgT_fit fun k hk _ => hfu k hk), pgT_length, (hfu i hi).len]; omega) (LT 1000003 rfl (LB 1000013 rfl (LO 1000501 rfl (LT 1000601 rfl (LT 1000602 rfl (LO 1000701 rfl (LQ 1900001 rfl (LQ 1900002 rfl (LQ 1900003 rfl (LW [2,3,7,8,11,31,32] rfl)))))))))), ?_⟩
   refine TL (RN (End.normal_block (EN (GTE (RB rfl rfl rfl ?_)))));refine RZ (nI (i + 1)) (wrap_eq (by omega) (by omega)) ?_;refine RVN 1 rfl ?_;refine End.normal_then ?_;refine End.again (i + 1) ?_ ?_ ?_
   ·show _ ≤ _; omega
   ·show _ - _ < _ - _; omega
   ·exact (KC 2 rfl (KC 3 rfl (KC 7 rfl (KC 8 rfl (KC 11 rfl (KC 31 rfl (KC 32 rfl (KC 1000003 rfl (KC 1000601 rfl (KC 1000602 rfl (KE 1000030 rfl (congrArg (blk b30 57) (by rw [(hfu i hi).len, Nat.zero_add]; exact pgT_step hfu hi)) (KC 1900001 rfl (KC 1900002 rfl (KC 1900003 rfl (KC 1000501 rfl (KC 1000701 rfl KN))))))))))))))))
 ·have hi2 : i = un n (l + 2) := by simp at hc33; omega
  refine A.exit (End.exit_then (End.exit_then (End.exit_here (EN (GV rfl (A.ret ?_))))));exact End.newF (kg := 1000030) rfl rfl rfl hBb30 rfl (by subst hi2; rfl)
end
section
variable {κ : Cx}
def newY (base : Nat) (e : TypeId) (val : Nat → Value) (xs : List Value) : D :=
 .p (fun B w x => ∃ b ys, x = val b ∧ base ≤ b ∧ b < B ∧ w.heap[b]? = some (.cells (xs ++ ys).toArray e (0,0)))
  (fun _ _ _ _ g ⟨b, ys, h1, h2, h3, h4⟩ => ⟨b, ys, h1, h2, h3, (g.block b h3).trans h4⟩) (fun _ _ _ _ g ⟨b, ys, h1, h2, h3, h4⟩ => ⟨b, ys, h1, h2, by omega, h4⟩)
theorem newY_mono {e : TypeId} {val : Nat → Value} {xs : List Value} (B B' : Nat) (h : B ≤ B') : Le (newY B' e val xs) (newY B e val xs) := fun _ _ _ ⟨b, ys, h1, h2, h3⟩ => ⟨b, ys, h1, by omega, h3⟩
section
variable {P : Program} {n B : Nat} {ops : Array Oper} {E : Env}
def NewY (B : Nat) (E : Env) (x : Nat × List Value) : Prop := B ≤ x.1 ∧ ∀ s b' e xs, E.look s = some (blk b' e xs) → b' < x.1
theorem eff_nameY {o : Oper} {d k : Nat} {e : TypeId} {val : Nat → Value} {xs : List Value} (ht : o.dst = some d) (hg : o.guard = none) (hok : ∀ B', OpOk P B' o E (newY B' e val xs)) (hdn : d < n) (hnv : n ≤ vbase) :
  EffG P n B ops o E (NewY B E) (fun x => (d, .v (val x.1)) :: (k, blk x.1 e (xs ++ x.2)) :: E) := by
 intro κ a w K Q h hK
 rw [if_pos (by simp [Region.wanted, hg])]
 refine wp_of_out ht ((hok w.heap.size a.eval w (Nat.le_refl _) (h.virt hnv) fun x _ u hu => h.at_ x _ hu).mono ?_)
 rintro x w' ⟨hgr, b, ys, rfl, hb, hlt, hh⟩
 refine hK (b, ys) _ _ ⟨Nat.le_trans h.base hb, fun s b' e ys hs => Nat.lt_of_lt_of_le (h.of s _ hs).1 hb⟩ (Below.mono hgr h.base) (St.put ?_ hdn rfl)
 exact (h.grow hgr).push (t := k) (d := blk b e (xs ++ ys)) ⟨hlt, hh⟩
end
section
variable {P : Program} {n : Nat} {E : Env} {w₀ : World} {c : Code} {Q : Exit → Act → World → Prop}
theorem A.openRowY {k k' base sz m : Nat} {e : TypeId} {v : Value} {xs : List Value} (hk : E.look k = some (valM v (ownP base e sz m xs))) (hx : 0 < xs.length) (h : ∀ (g q : Nat) (ys : List Value), base ≤ g → m ≤ q → v = .slice (some ⟨g, 0, none⟩) m q → A κ P w₀ n c ((k', blk g e (xs ++ ys)) :: E) Q) : A κ P w₀ n c E Q := fun a w g hs => by
 have h0 : (ownP base e sz m xs).OfB w.heap.size w v := hs.of k _ hk
 obtain ⟨⟨hl, h2⟩, hlt⟩ := h0
 rcases h2 with ⟨rfl, rfl⟩ | ⟨b, cap, cur, rfl, hb, hh, hnc, h5, h6⟩
 ·omega
 ·have hcur : xs ++ cur.toList.drop xs.length = cur.toList := by
   have : cur.toList.take xs.length = xs := by
    first | exact h6 | (rw [hl]; exact h6) | (obtain ⟨h6, h7⟩ := h6; first | exact h6 | exact h7 | (rw [hl]; exact h6) | (rw [hl]; exact h7)) | skip
   conv => rhs; rw [← List.take_append_drop xs.length cur.toList, this]
  refine h b cap (cur.toList.drop xs.length) hb hnc rfl a w g (hs.push (t := k') (d := blk b e (xs ++ cur.toList.drop xs.length)) ⟨hlt b (by simp [Value.ownBlock]), ?_⟩)
  rw [hcur]; exact hh
theorem A.blkRow {k k' b : Nat} {e : TypeId} {xs ys : List Value} (hk : E.look k = some (blk b e (xs ++ ys))) (h : A κ P w₀ n c ((k', memR (some ⟨b, 0, none⟩) xs) :: E) Q) : A κ P w₀ n c E Q := fun a w g hs => by
 obtain ⟨h1, h2⟩ := hs.of k _ hk
 refine h a w g (hs.push (t := k') (d := memR (some ⟨b, 0, none⟩) xs) fun j u hu => ⟨_, rfl, h1, ?_⟩)
 rw [show (⟨b, 0, none⟩ : Addr).add j = ⟨b, j, none⟩ from by unfold Addr.add; split <;> simp_all]
 simp only [World.cell?, h2]
 have : (xs ++ ys)[j]? = some u := by rw [List.getElem?_append_left (List.getElem?_eq_some_iff.1 hu).1]; exact hu
 simpa using this
theorem End.cellY {fn : Func} {r s b r' g kg : Nat} {T e' e : TypeId} {td : TypeDesc} {ys xs zs : List Value} {v' : Value} {val : Nat → Value} (hr : fn.results = #[.cell r T, .tmp r']) (ht : P.underlying T = some td) (hp : (match td with | .struct _ | .array _ _ => true | _ => false) = true) (hsz : SizeIs P T ys.length)
  (h1 : E.look r = some (.v (.pointer (some ⟨b, 0, none⟩)))) (h2 : E.look s = some (blk b e' ys)) (h5 : E.look r' = some (.v v')) (h4 : E.look kg = some (blk g e (xs ++ zs))) (hg : w₀.heap.size ≤ g) (hv : val g = .tuple #[aggV ys, v']) : End Cx.top w₀ n E (BP P fn (PostOf w₀ (newY w₀.heap.size e val xs)) .ret) := fun a w gr hs => by
 have h3 : a.tmps[r]?.getD undef = .pointer (some ⟨b, 0, none⟩) := by rw [← Array.getD_eq_getD_getElem?]; exact hs.of r _ h1
 have h6 : a.tmps[r']?.getD undef = v' := by rw [← Array.getD_eq_getD_getElem?]; exact hs.of r' _ h5
 obtain ⟨_, hh⟩ := hs.of s _ h2
 obtain ⟨hl, hh'⟩ := hs.of kg _ h4
 have k1 := load_cell (P := P) ht hp hsz hh
 exact BP.ret hs.defers ⟨.tuple #[aggV ys, v'], by simp [results, hr, h3, h6, asAddr, k1], _, rfl, gr, g, zs, hv.symm, hg, hl, hh'⟩
end
end
section
def intL (S : List Int) : List Value := S.map (Value.int .i64)
theorem intL_len (S : List Int) : (intL S).length = S.length := List.length_map _
theorem intL_at {S : List Int} {i : Nat} (h : i < S.length) : ((intL S).drop (i * 1)).take 1 = [.int .i64 (S.getD i 0)] := by
 unfold intL
 rw [Nat.mul_one, ← List.map_drop, ← List.map_take, List.drop_eq_getElem_cons h, List.getD_eq_getElem?_getD, List.getElem?_eq_getElem h]; rfl
def staE (n : Int) : Int := if n = 0 ∨ n = 1 then 0 else 1
def stX (n : Int) : UInt8 := if n = 0 then 1 else if n = 1 then 2 else 0
theorem State_any (n : Int) : Fn Tryz.prog 65 [.v (.int .i64 n)] (.v (.tuple #[byteV (stX n), .int .i64 (staE n)])) := by
 by_cases h0 : n < 0
 ·have e1 : stX n = 0 := by unfold stX; rw [if_neg (by omega), if_neg (by omega)]
  have e2 : staE n = 1 := if_neg (by omega)
  rw [e1, e2]; exact State_neg n h0
 by_cases h1 : 1 < n
 ·have e1 : stX n = 0 := by unfold stX; rw [if_neg (by omega), if_neg (by omega)]
  have e2 : staE n = 1 := if_neg (by omega)
  rw [e1, e2]; exact State_big n h1
 ·have e2 : staE n = 0 := if_pos (by omega)
  rw [e2]
  refine State_ok n (stX n) (by omega) (by omega) ?_
  unfold stX
  have : n = 0 ∨ n = 1 := by omega
  rcases this with rfl | rfl <;> rfl
def SrcOk (n : Int) (R : List RecT) (S : List Int) : Prop := 1 ≤ n ∧ n ≤ 4096 ∧ (R.length : Int) = n ∧ S.length = tot n.toNat (hg n.toNat + 1) ∧ (∀ i, i < S.length → S.getD i 0 = 0 ∨ S.getD i 0 = 1) ∧ ∀ i, i < R.length → ¬ (recAt R i).Bad
open Classical in
noncomputable def srcE (n : Int) (R : List RecT) (S : List Int) : Int := if SrcOk n R S then 0 else 1
theorem srcE_no {n : Int} {R : List RecT} {S : List Int} (h : ¬ SrcOk n R S) : srcE n R S = 1 := if_neg h
theorem srcE_ok {n : Int} {R : List RecT} {S : List Int} (h : SrcOk n R S) : srcE n R S = 0 := if_pos h
abbrev srcM (A₁ : Option Addr) (R : List RecT) (A₂ : Option Addr) (S : List Int) : Env := [(1000801, memR A₁ (recsV R)), (1000702, memR A₂ (intL S))]
theorem ok_clipX {P : Program} {B : Nat} {E : Env} {dst : Option Tmp} {ty : TypeId} {pos : String} {after : Array Edge} {guard : Option (Nat × Bool)} {t e : TypeId} {z : Value} {nb sz : Nat} {x ho mo : Operand} {ad : Addr} {len c m : Nat} {k2 k3 : IntKind} (ht : P.underlying t = some (.slice e)) (hs : InfoP P e z sz nb) (hx : E.at x = some (.v (.slice (some ad) len c))) (hho : E.at ho = some (.v (.int k2 (m : Int)))) (hmo : E.at mo = some (.v (.int k3 (m : Int))))
  (h0 : 0 < m) (hmc : m ≤ c) : OpOk P B ⟨dst, .slice t x none (some ho) (some mo), ty, pos, after, guard⟩ E (.v (.slice (some ad) m m)) := fun ρ w _ _ hρ => by
 have h1 : ρ x = _ := hρ x (by simp [Op.operands]) _ hx
 have h3 : ρ ho = .int k2 (m : Int) := hρ ho (by simp [Op.operands]) _ hho
 have h4 : ρ mo = .int k3 (m : Int) := hρ mo (by simp [Op.operands]) _ hmo
 obtain ⟨info, hinfo, _, hsize, _⟩ := hs.get
 have hm : ¬ m = 0 := by omega
 refine out_val (w' := w) ?_ ⟨Grow.refl w, rfl⟩
 simp [execOp, h1, h3, h4, Instr.sliceAt, Instr.slice, run_underlying ht, Instr.sliceBounds, Instr.sliceBound, asIntOf, sizeOf, typeInfo, hinfo, hsize, hmc, hm]
 try (unfold Addr.add; split <;> simp_all)
theorem nods_one (T : List NodT) : (nodsV T).all (·.oneCell') = true := by
 unfold nodsV
 rw [List.all_flatMap]
 exact List.all_eq_true.2 fun x _ => NodT.one x
theorem buildTr (n : Nat) (v : Value) (hv : v.oneCell' = true) : Tryz.prog.built 32 [(0, nI n), (1, v)] = some ([nI n, v] : List Value).toArray := by
 cases v with
 | agg => cases hv
 | tuple => cases hv
 | _ => kernel_rfl
theorem src_m (n : Int) (R : List RecT) (hR : FitR R) (S : List Int) (A₁ A₂ : Option Addr) (c₁ c₂ : Nat) (hm : ¬ (1 ≤ n ∧ n ≤ 4096))  : FnM Tryz.prog 39 (srcM A₁ R A₂ S) [.v (.int .i64 (n)), .v (.slice A₁ R.length c₁), .v (.slice A₂ S.length c₂)] (.v (.int .i64 (1))) := by
 refine FnM.ofO Tryz.func39 rfl (by kernel_rfl) Tryz.ntmps39 (by simp) (by decide) (fun w => [(0, .v (.int .i64 (n))), (1, .v (.slice A₁ R.length c₁)), (2, .v (.slice A₂ S.length c₂)), (1000801, old w.heap.size (memR A₁ (recsV R))), (1000702, old w.heap.size (memR A₂ (intL S)))]) (fun w => (StartMO.v rfl (StartMO.v rfl (StartMO.v rfl (StartMO.mo (by simp [srcM]) (by decide) (StartMO.mo (by simp [srcM]) (by decide) StartMO.nil)))))) fun w₀ hM => ?_
 skip
 refine GV rfl (GT (RM rfl ?_));refine RS (ok_call (Total_bad n hm) (A1 rfl)) ?_;refine RVN 5 rfl ?_;refine QSB (GT (RV 2 rfl ?_));refine RT ?_;refine RVN 1 rfl ?_;refine A.yes rfl ?_;refine GV rfl (A.ret (End.ret_block (End.ret_then ?_)));exact ER rfl rfl
theorem src_l (n : Nat) (h1 : 1 ≤ n) (h2 : n ≤ 4096) (R : List RecT) (hR : FitR R) (S : List Int) (A₁ A₂ : Option Addr) (c₁ c₂ : Nat) (h : R.length ≠ n)  : FnM Tryz.prog 39 (srcM A₁ R A₂ S) [.v (nI (n)), .v (.slice A₁ R.length c₁), .v (.slice A₂ S.length c₂)] (.v (.int .i64 (1))) := by
 refine FnM.ofO Tryz.func39 rfl (by kernel_rfl) Tryz.ntmps39 (by simp) (by decide) (fun w => [(0, .v (nI (n))), (1, .v (.slice A₁ R.length c₁)), (2, .v (.slice A₂ S.length c₂)), (1000801, old w.heap.size (memR A₁ (recsV R))), (1000702, old w.heap.size (memR A₂ (intL S)))]) (fun w => (StartMO.v rfl (StartMO.v rfl (StartMO.v rfl (StartMO.mo (by simp [srcM]) (by decide) (StartMO.mo (by simp [srcM]) (by decide) StartMO.nil)))))) fun w₀ hM => ?_
 skip
 refine GV rfl (GT (RM rfl ?_));refine RS (ok_call (Total_ok n h1 h2) (A1 rfl)) ?_;refine RVN 5 rfl ?_;refine QSB (GT (RV 2 rfl ?_));refine RF ?_;refine RVN 1 rfl ?_;refine A.no rfl ?_;refine GT (RM rfl ?_);refine RS (ok_lenV U26 rfl) ?_;refine RV 2 rfl ?_;refine RZ (.bool true) (congrArg Value.bool (by simp; omega)) ?_;refine RVN 7 rfl ?_;refine A.yes rfl ?_;refine GV rfl (A.ret (End.ret_block (End.ret_then ?_)));exact ER rfl rfl
theorem src_s (n : Nat) (h1 : 1 ≤ n) (h2 : n ≤ 4096) (R : List RecT) (hR : FitR R) (S : List Int) (A₁ A₂ : Option Addr) (c₁ c₂ : Nat) (h : R.length = n) (hs : S.length ≠ tot n (hg n + 1))  : FnM Tryz.prog 39 (srcM A₁ R A₂ S) [.v (nI (n)), .v (.slice A₁ R.length c₁), .v (.slice A₂ S.length c₂)] (.v (.int .i64 (1))) := by
 refine FnM.ofO Tryz.func39 rfl (by kernel_rfl) Tryz.ntmps39 (by simp) (by decide) (fun w => [(0, .v (nI (n))), (1, .v (.slice A₁ R.length c₁)), (2, .v (.slice A₂ S.length c₂)), (1000801, old w.heap.size (memR A₁ (recsV R))), (1000702, old w.heap.size (memR A₂ (intL S)))]) (fun w => (StartMO.v rfl (StartMO.v rfl (StartMO.v rfl (StartMO.mo (by simp [srcM]) (by decide) (StartMO.mo (by simp [srcM]) (by decide) StartMO.nil)))))) fun w₀ hM => ?_
 skip
 refine GV rfl (GT (RM rfl ?_));refine RS (ok_call (Total_ok n h1 h2) (A1 rfl)) ?_;refine RVN 5 rfl ?_;refine QSB (GT (RV 2 rfl ?_));refine RF ?_;refine RVN 1 rfl ?_;refine A.no rfl ?_;refine GT (RM rfl ?_);refine RS (ok_lenV U26 rfl) ?_;refine RV 2 rfl ?_;refine RZ (.bool false) (congrArg Value.bool (by simp; omega)) ?_;refine RV 2 rfl ?_;refine RQ (ok_lenV U27 rfl) ?_;refine RV 2 rfl ?_;refine RZ (.bool true) (congrArg Value.bool (by simp; omega)) ?_;refine RVN 2 rfl ?_;refine A.yes rfl ?_;refine GV rfl (A.ret (End.ret_block (End.ret_then ?_)));exact ER rfl rfl
set_option maxHeartbeats 1000000 in
theorem src_go (n : Nat) (h1 : 1 ≤ n) (h2 : n ≤ 4096) (R : List RecT) (hR : FitR R) (S : List Int) (A₁ A₂ : Option Addr) (c₁ c₂ : Nat) (h : R.length = n) (hs : S.length = tot n (hg n + 1))  : FnM Tryz.prog 39 (srcM A₁ R A₂ S) [.v (nI (n)), .v (.slice A₁ R.length c₁), .v (.slice A₂ S.length c₂)] (.v (.int .i64 (srcE n R S))) := by
 have hsm := tot_small h1 h2 (show hg n + 1 ≤ 6 by have := hg_le n; omega)
 refine FnM.ofO Tryz.func39 rfl (by kernel_rfl) Tryz.ntmps39 (by simp) (by decide) (fun w => [(0, .v (nI (n))), (1, .v (.slice A₁ R.length c₁)), (2, .v (.slice A₂ S.length c₂)), (1000801, old w.heap.size (memR A₁ (recsV R))), (1000702, old w.heap.size (memR A₂ (intL S)))]) (fun w => (StartMO.v rfl (StartMO.v rfl (StartMO.v rfl (StartMO.mo (by simp [srcM]) (by decide) (StartMO.mo (by simp [srcM]) (by decide) StartMO.nil)))))) fun w₀ hM => ?_
 skip
 refine GV rfl (GT (RM rfl ?_));refine RS (ok_call (Total_ok n h1 h2) (A1 rfl)) ?_;refine RVN 5 rfl ?_;refine QSB (GT (RV 2 rfl ?_));refine RF ?_;refine RVN 1 rfl ?_;refine A.no rfl ?_;refine GT (RM rfl ?_);refine RS (ok_lenV U26 rfl) ?_;refine RV 2 rfl ?_;refine RZ (.bool false) (congrArg Value.bool (by simp; omega)) ?_;refine RV 2 rfl ?_;refine RQ (ok_lenV U27 rfl) ?_;refine RV 2 rfl ?_;refine RZ (.bool false) (congrArg Value.bool (by simp; omega)) ?_;refine RVN 2 rfl ?_;refine A.no rfl ?_;refine A.skip (End.normal_block (EN (QS (GT (RM rfl ?_)))));refine RS (ok_lenV U27 rfl) ?_;refine RVN 1 rfl ?_;refine A.sub (Sv [1,36,37,38,1000702,1000801] rfl) ?_;refine A.block ?_;refine A.loop (ι := Nat) (fun i => i ≤ S.length ∧ ∀ k, k < i → S.getD k 0 = 0 ∨ S.getD k 0 = 1) (fun i => [(1, .v (.slice A₁ R.length c₁)), (36, .v (.slice A₂ S.length c₂)), (37, .v (nI (S.length))), (38, .v (nI (i))), (1000801, old w₀.heap.size (memR A₁ (recsV R))), (1000702, old w₀.heap.size (memR A₂ (intL S)))]) (fun i => S.length - i) 0 ?_ ?_ ?_
 ·exact ⟨Nat.zero_le _, fun k h => absurd h (Nat.not_lt_zero _)⟩
 ·exact (KC 1 rfl (KC 36 rfl (KC 37 rfl (KE 38 rfl (by rfl) (KC 1000801 rfl (KC 1000702 rfl KN))))))
 intro i hG
 refine GV rfl (QS ?_);refine A.cond rfl (fun hc39 => ?_) (fun hc39 => ?_)
 ·have hi : i < S.length := by simp at hc39; omega
  refine QK (QSB (GT (RS (ok_indexR (s := 1000702) i U27 infoPI rfl rfl (by decide) rfl hi (by rw [intL_len]; omega)) ?_)));refine RS (ok_loadP1 (u := .int .i64 (S.getD i 0)) (us := []) U3 rfl (by show some (elemP _) = _; rw [intL_at hi])) ?_;refine RVN 1 rfl ?_;refine GT (RM rfl ?_);refine RS (ok_call (State_any (S.getD i 0)) (A1 rfl)) ?_;refine RVN 5 rfl ?_;refine GV rfl ?_;refine A.cond rfl (fun hc48 => ?_) (fun hc48 => ?_)
  ·have hb : ¬ ((S.getD i 0) = 0 ∨ (S.getD i 0) = 1) := fun hb => by rw [show staE (S.getD i 0) = 0 from if_pos hb] at hc48; simp at hc48
   refine GV rfl (A.ret (End.ret_block (End.ret_then (End.ret_then (End.ret_block (End.ret_then ?_))))))
   first | exact End.ret1 rfl rfl (Le.v (congrArg (Value.int .i64) (by rw [srcE_no fun hh => hb (hh.2.2.2.2.1 i hi)]; exact if_neg hb))) | exact End.ret1 rfl rfl (Le.v (congrArg (Value.int .i64) (by rw [srcE_no fun hh => hh.2.2.2.2.2 i hi hb]; exact (RecT.ck_one _).resolve_left fun h0 => RecT.ck_zero.1 h0 hb))) | exact End.ret1 rfl rfl (Le.v (congrArg (Value.int .i64) (srcE_ok ⟨by omega, by omega, by omega, by rw [Int.toNat_natCast]; exact hs, by rw [← hi2]; exact hG.2, by rw [← hi3]; exact hJ.2⟩).symm))
  ·have hb : (S.getD i 0) = 0 ∨ (S.getD i 0) = 1 := Classical.byContradiction fun hb => by rw [show staE (S.getD i 0) = 1 from if_neg hb] at hc48; simp at hc48
   refine A.skip (End.normal_block (EN (GTE (RB rfl rfl rfl ?_))));refine RZ (nI (i + 1)) (wrap_eq (by omega) (by omega)) ?_;refine RVN 1 rfl ?_;refine End.normal_then ?_;refine End.again (i + 1) ?_ ?_ ?_
   ·exact ⟨by omega, fun k hk => (Nat.lt_or_ge k i).elim (hG.2 k) fun h => by rw [show k = i from by omega]; exact hb⟩
   ·show _ - _ < _ - _; omega
   ·exact (Sv [1,36,37,38,1000801,1000702] rfl)
 ·have hi2 : i = S.length := by have := hG.1; simp at hc39; omega
  refine A.exit (End.exit_then (End.exit_then (End.exit_here (EN (QS (GT (RM rfl ?_)))))));refine RS (ok_lenV U26 rfl) ?_;refine RVN 1 rfl ?_;refine A.block ?_;refine A.loop (ι := Nat) (fun i => i ≤ R.length ∧ ∀ k, k < i → ¬ (recAt R k).Bad) (fun i => [(51, .v (.slice A₁ R.length c₁)), (52, .v (nI (R.length))), (53, .v (nI (i))), (1000801, old w₀.heap.size (memR A₁ (recsV R))), (1000702, old w₀.heap.size (memR A₂ (intL S)))]) (fun i => R.length - i) 0 ?_ ?_ ?_
  ·exact ⟨Nat.zero_le _, fun k h => absurd h (Nat.not_lt_zero _)⟩
  ·exact (KC 51 rfl (KC 52 rfl (KE 53 rfl (by rfl) (KC 1000801 rfl (KC 1000702 rfl KN)))))
  intro i hJ
  refine GV rfl (QS ?_);refine A.cond rfl (fun hc54 => ?_) (fun hc54 => ?_)
  ·have hi : i < R.length := by simp at hc54; omega
   refine QK (QSB (GS (TN 2 (RS (ok_indexR (s := 1000801) i U26 infoP51 rfl rfl (by decide) rfl hi (by rw [recs_len hR]; omega)) ?_))));refine RS (ok_loadElemT 35 U51 rfl size51 (by rw [recs_at hR hi, (hR.at _).len]; exact Nat.le_refl _) rfl) ?_;refine RZ (aggV (recAt R i).v) (congrArg aggV (by rw [recs_at hR hi]; exact List.take_of_length_le (Nat.le_of_eq (hR.at _).len))) ?_;refine RN ?_;refine ZN 1000014 zero51 fun b14 ⟨hBb14, hb14⟩ => ?_
   refine TF 3 (RN ?_);refine ⟨_, eff_storeA (n := 63) (s := 1000014) (size51.of ((hR.at i).len)) rfl rfl (RecT.one _) hBb14 rfl (by rw [(hR.at i).len]; rfl) (LO 1000702 rfl (LO 1000801 rfl (LW [14,51,52,53] rfl))), ?_⟩
   refine TL (RN (GT (RL 1000014 U51 rfl rfl (size51.of ((hR.at i).len)) ?_)));refine RS (ok_call (CheckR_fn (recAt R i).x (recAt R i).s (recAt R i).c (recAt R i).t (hR.at i).t) (A1 rfl)) ?_;refine RZ (.int .i64 (recAt R i).ck) (by rfl) ?_;refine RVN 1 rfl ?_;refine GV rfl ?_;refine A.cond rfl (fun hc60 => ?_) (fun hc60 => ?_)
   ·have hb : (recAt R i).Bad := RecT.ck_bad (by simpa using hc60)
    refine GV rfl (A.ret (End.ret_block (End.ret_then (End.ret_then (End.ret_block (End.ret_then ?_))))))
    first | exact End.ret1 rfl rfl (Le.v (congrArg (Value.int .i64) (by rw [srcE_no fun hh => hb (hh.2.2.2.2.1 i hi)]; exact if_neg hb))) | exact End.ret1 rfl rfl (Le.v (congrArg (Value.int .i64) (by rw [srcE_no fun hh => hh.2.2.2.2.2 i hi hb]; exact (RecT.ck_one _).resolve_left fun h0 => RecT.ck_zero.1 h0 hb))) | exact End.ret1 rfl rfl (Le.v (congrArg (Value.int .i64) (srcE_ok ⟨by omega, by omega, by omega, by rw [Int.toNat_natCast]; exact hs, by rw [← hi2]; exact hG.2, by rw [← hi3]; exact hJ.2⟩).symm))
   ·have hb : ¬ (recAt R i).Bad := RecT.ck_zero.1 (by simpa using hc60)
    refine A.skip (End.normal_block (EN (GTE (RB rfl rfl rfl ?_))));refine RZ (nI (i + 1)) (wrap_eq (by omega) (by omega)) ?_;refine RVN 1 rfl ?_;refine End.normal_then ?_;refine End.again (i + 1) ?_ ?_ ?_
    ·exact ⟨by omega, fun k hk => (Nat.lt_or_ge k i).elim (hJ.2 k) fun h => by rw [show k = i from by omega]; exact hb⟩
    ·show _ - _ < _ - _; omega
    ·exact (Sv [51,52,53,1000801,1000702] rfl)
  ·have hi3 : i = R.length := by have := hJ.1; simp at hc54; omega
   refine A.exit (End.exit_then (End.exit_then (End.exit_here (EN (GV rfl (A.ret ?_))))))
   first | exact End.ret1 rfl rfl (Le.v (congrArg (Value.int .i64) (by rw [srcE_no fun hh => hb (hh.2.2.2.2.1 i hi)]; exact if_neg hb))) | exact End.ret1 rfl rfl (Le.v (congrArg (Value.int .i64) (by rw [srcE_no fun hh => hh.2.2.2.2.2 i hi hb]; exact (RecT.ck_one _).resolve_left fun h0 => RecT.ck_zero.1 h0 hb))) | exact End.ret1 rfl rfl (Le.v (congrArg (Value.int .i64) (srcE_ok ⟨by omega, by omega, by omega, by rw [Int.toNat_natCast]; exact hs, by rw [← hi2]; exact hG.2, by rw [← hi3]; exact hJ.2⟩).symm))
theorem checkSources_fn (n : Int) (R : List RecT) (hR : FitR R) (S : List Int) (A₁ A₂ : Option Addr) (c₁ c₂ : Nat) : FnM Tryz.prog 39 (srcM A₁ R A₂ S) [.v (.int .i64 (n)), .v (.slice A₁ R.length c₁), .v (.slice A₂ S.length c₂)] (.v (.int .i64 (srcE n R S))) := by
 by_cases hn : 1 ≤ n ∧ n ≤ 4096
 ·obtain ⟨k, rfl⟩ : ∃ k : Nat, n = k := ⟨n.toNat, by omega⟩
  by_cases h : R.length = k
  ·by_cases hs : S.length = tot k (hg k + 1)
   ·exact src_go k (by omega) (by omega) R hR S A₁ A₂ c₁ c₂ h hs
   ·rw [srcE_no fun hh => hs (by have := hh.2.2.2.1; rwa [Int.toNat_natCast] at this)]; exact src_s k (by omega) (by omega) R hR S A₁ A₂ c₁ c₂ h hs
  ·rw [srcE_no fun hh => h (by have := hh.2.2.1; omega)]; exact src_l k (by omega) (by omega) R hR S A₁ A₂ c₁ c₂ h
 ·rw [srcE_no fun hh => hn ⟨hh.1, hh.2.1⟩]; exact src_m n R hR S A₁ A₂ c₁ c₂ hn
theorem clipN_fn (ad : Addr) (m q : Nat) (h0 : 0 < m) (hq : m ≤ q) : Fn Tryz.prog 43 [.v (.slice (some ad) m q)] (.v (.slice (some ad) m m)) := by
 refine FV Tryz.func43 rfl Tryz.ntmps43 rfl fun w₀ => ?_
 refine GV rfl (GT (RV 2 rfl ?_));refine RS (ok_lenV U30 rfl) ?_;refine RM rfl ?_;refine RS (ok_lenV U30 rfl) ?_;refine RS (ok_clipX U30 infoN rfl rfl rfl h0 hq) ?_;refine RVN 1 rfl ?_;refine A.ret ?_;exact ER rfl rfl
theorem Build_bad (n : Int) (R : List RecT) (hR : FitR R) (S : List Int) (A₁ A₂ : Option Addr) (c₁ c₂ : Nat) (he : srcE n R S = 1)  : FnM Tryz.prog 12 (srcM A₁ R A₂ S) [.v (.int .i64 (n)), .v (.slice A₁ R.length c₁), .v (.slice A₂ S.length c₂)] (.v (.tuple #[aggV [nI 0, .slice none 0 0], .int .i64 1])) := by
 refine FnM.ofO Tryz.func12 rfl (by kernel_rfl) Tryz.ntmps12 (by simp) (by decide) (fun w => [(0, .v (.int .i64 (n))), (1, .v (.slice A₁ R.length c₁)), (2, .v (.slice A₂ S.length c₂)), (1000801, old w.heap.size (memR A₁ (recsV R))), (1000702, old w.heap.size (memR A₂ (intL S)))]) (fun w => (StartMO.v rfl (StartMO.v rfl (StartMO.v rfl (StartMO.mo (by simp [srcM]) (by decide) (StartMO.mo (by simp [srcM]) (by decide) StartMO.nil)))))) fun w₀ hM => ?_
 skip
 refine GS (TN 0 (RN ?_));refine ZN 1000006 zero32 fun b6 ⟨hBb6, hb6⟩ => ?_
 refine TL (RVN 1 rfl ?_);refine QS (GT (RV 3 rfl ?_));refine RS (ok_callMK (checkSources_fn n R hR S A₁ A₂ c₁ c₂) (SubK.cons (k := 1000801) (by decide) rfl Le.unold (SubK.cons (k := 1000702) (by decide) rfl Le.unold SubK.nil)) (A3 rfl rfl rfl)) ?_;refine RZ (.int .i64 1) (by rw [he]) ?_;refine RVN 1 rfl ?_;refine GT (RV 2 rfl ?_);refine RT ?_;refine RN (A.yes rfl ?_);refine GS (TF 2 (RS (ok_lit [] ([.int .i64 0] ++ [.slice none 0 0]) (fun _ _ => rfl) (by kernel_rfl)) ?_));refine RVN 1 rfl ?_;refine ZA 1000006 (size32.of rfl) hBb6 rfl rfl rfl (LO 1000702 rfl (LO 1000801 rfl (LW [6,20] rfl))) ?_;refine TL (RVN 1 rfl ?_);refine A.ret (End.ret_then ?_);exact End.cellV (s := 1000006) rfl U32 rfl (size32.of rfl) rfl rfl rfl
theorem tre_up {R : List RecT} {S : List Nat} {l : Nat} (hl : l < 5) : treR R S (tot R.length (l + 1)) ++ pgT (upT R.length (treR R S (tot R.length (l + 1))) S l) (un R.length (l + 2)) (un R.length (l + 2)) = treR R S (tot R.length (l + 2)) := by
 have e1 : tot R.length (l + 2) = tot R.length (l + 1) + un R.length (l + 2) := tot_succ _ _
 refine ndAt_ext (by rw [List.length_append, treR_length, pgT_length, treR_length, e1]) fun i hi => ?_
 rw [List.length_append, treR_length, pgT_length] at hi
 by_cases h : i < tot R.length (l + 1)
 ·rw [ndAt_app (by rw [treR_length]; exact h), treR_get h, treR_get (by omega)]
 ·obtain ⟨k, rfl⟩ : ∃ k, i = tot R.length (l + 1) + k := ⟨i - tot R.length (l + 1), by omega⟩
  have := ndAt_app2 (T := treR R S (tot R.length (l + 1))) (U := pgT (upT R.length (treR R S (tot R.length (l + 1))) S l) (un R.length (l + 2)) (un R.length (l + 2))) (i := k)
  rw [treR_length] at this
  have hk : k < un R.length (l + 2) := by omega
  rw [this, pgT_at hk hk, upT_eq hl rfl, treR_at (by omega) (show k < un R.length (l + 1 + 1) from hk) (by omega)]
theorem gr_start (R : List RecT) (S : List Nat) {B : Nat} {e : TypeId} : ownP B e 274 (un R.length 1) (nodsV (grpsT R (un R.length 1))) = ownP B e 274 (tot R.length (0 + 1)) (nodsV (treR R S (tot R.length (0 + 1)))) := by
 rw [grpsT_tre R S, show 0 + 1 = 1 from rfl, tot_one]
def natL (S : List Nat) : List Int := S.map fun (k : Nat) => (k : Int)
theorem natL_v (S : List Nat) : intL (natL S) = slotV S := by unfold intL natL slotV; rw [List.map_map]; rfl
theorem natL_len (S : List Nat) : (natL S).length = S.length := List.length_map _
theorem natL_at (S : List Nat) (i : Nat) : (natL S).getD i 0 = ((S.getD i 0 : Nat) : Int) := by
 unfold natL
 rw [List.getD_eq_getElem?_getD, List.getD_eq_getElem?_getD, List.getElem?_map]
 cases S[i]? <;> rfl
theorem src_nat {R : List RecT} {S : List Nat} (h1 : 1 ≤ R.length) (h2 : R.length ≤ 4096) (hR : OkR R) (hS : OkS S) (hs : S.length = tot R.length (hg R.length + 1)) : SrcOk (R.length : Int) R (natL S) :=
 ⟨by omega, by omega, rfl, by rw [natL_len, Int.toNat_natCast]; exact hs, fun i hi => by rw [natL_at]; have := hS.at i; omega, fun i hi => hR.at i⟩
set_option maxHeartbeats 4000000 in
theorem Build_okB (R : List RecT) (hR : FitR R) (h1 : 1 ≤ R.length) (h2 : R.length ≤ 4096) (hO : OkR R) (S : List Nat) (hS : OkS S) (hSl : S.length = tot R.length (hg R.length + 1)) (a₁ a₂ : Addr) (c₁ c₂ : Nat) (hc : R.length ≤ c₁)  : FnMB Tryz.prog 12 (tabN ++ [(1000801, memR (some a₁) (recsV R)), (1000701, memR (some a₂) (slotV S))]) [.v (nI (R.length)), .v (.slice (some a₁) R.length c₁), .v (.slice (some a₂) S.length c₂)] (fun B => newY B 57 (fun b => .tuple #[aggV [nI R.length, .slice (some ⟨b, 0, none⟩) (tot R.length (hg R.length + 1)) (tot R.length (hg R.length + 1))], .int .i64 0]) (nodsV (treR R S (tot R.length (hg R.length + 1))))) := by
 have hh := hg_le R.length
 have hu1 := un_pos h1 1
 have hmo : ∀ l, 1 ≤ l → l ≤ hg R.length + 1 → 1 ≤ tot R.length l ∧ tot R.length l ≤ tot R.length (hg R.length + 1) := fun l ha hb => by have e1 := tot_mono (n := R.length) ha; have e2 := tot_mono (n := R.length) hb; rw [tot_one] at e1; omega
 have hsm := tot_small h1 h2 (show hg R.length + 1 ≤ 6 by omega)
 refine FnMB.ofO Tryz.func12 rfl (by kernel_rfl) Tryz.ntmps12 (by simp) (by decide) (fun w => [(0, .v (nI (R.length))), (1, .v (.slice (some a₁) R.length c₁)), (2, .v (.slice (some a₂) S.length c₂)), (1900001, tab 1 (sizV)), (1900002, tab 2 (H8.list.map u32V)), (1900003, tab 3 (K64.map u32V)), (1000801, old w.heap.size (memR (some a₁) (recsV R))), (1000701, old w.heap.size (memR (some a₂) (slotV S)))]) (fun w => (StartMO.v rfl (StartMO.v rfl (StartMO.v rfl (StartMO.m (by simp [tabN]) (by decide) (StartMO.m (by simp [tabN]) (by decide) (StartMO.m (by simp [tabN]) (by decide) (StartMO.mo (by simp [tabN]) (by decide) (StartMO.mo (by simp [tabN]) (by decide) StartMO.nil))))))))) fun w₀ hM => ?_
 have htab := tabN_hi fun p hp => hM p (List.mem_append_left _ hp)
 refine GS (TN 0 (RN ?_));refine ZN 1000006 zero32 fun b6 ⟨hBb6, hb6⟩ => ?_
 refine TL (RVN 1 rfl ?_);refine QS (GT (RV 3 rfl ?_));refine RS (ok_callMK (by have h := checkSources_fn (R.length : Int) R hR (natL S) (some a₁) (some a₂) c₁ c₂; rw [natL_len] at h; exact h) (SubK.cons (k := 1000801) (by decide) rfl Le.unold (SubK.cons (k := 1000701) (by decide) rfl (Le.unold.trans (Le.eq (by rw [natL_v]))) SubK.nil)) (A3 rfl rfl rfl)) ?_;refine RZ (.int .i64 0) (by rw [srcE_ok (src_nat h1 h2 hO hS hSl)]) ?_;refine RVN 1 rfl ?_;refine GT (RV 2 rfl ?_);refine RF ?_;refine RN (A.no rfl ?_);refine QK (GS (RunTK.newG 2 (by decide) rfl (.inl rfl) ?_));refine RVN 2 rfl ?_;refine ⟨_, _, _, eff_nameV (n := 48) (d := 23) (k := 1000203) (f := ownP w₀.heap.size 57 274 (un R.length 1) (nodsV (grpsT R (un R.length 1)))) rfl rfl (ok_callMBK (groups_fnB a₁ R hR h1 h2 c₁ hc) (fun _ _ h => ownP_mono h) (SubK.cons (k := 1000801) (by decide) rfl Le.unold SubK.nil) (A1 rfl)) (fun w x h => ownP_one h) (by decide) (by decide) (by decide), fun v23 hv23 => ?_⟩
 refine TN 4 (RS (ok_litS [(0, nI R.length), (1, v23)] [nI R.length, v23] ⟨rfl, rfl, rfl, rfl, trivial⟩ (buildTr _ _ hv23)) ?_);refine RN ?_;refine ZN 1000009 zero32 fun b9 ⟨hBb9, hb9⟩ => ?_
 have hlt_b6_b9 := hb9 1000006 b6 _ _ rfl
 refine TF 5 (RN ?_);refine ⟨_, eff_storeA (n := 48) (s := 1000009) (size32.of (rfl)) rfl rfl (by rw [List.all_cons, List.all_cons, hv23]; rfl) hBb9 rfl (rfl) (LB 1000006 rfl (LeftS.cons (t := 1000203) rfl (Surv.valM (Surv.ownP (by decide))) (LO 1000701 rfl (LO 1000801 rfl (LQ 1900001 rfl (LQ 1900002 rfl (LQ 1900003 rfl (LW [0,2,6,9] rfl)))))))), ?_⟩
 refine TL (RN (GT (RM rfl ?_)));refine RS (ok_call (Height_ok R.length h1 h2) (A1 rfl)) ?_;refine RVN 5 rfl ?_;refine QS (GV rfl (A.block ?_));refine A.loop (ι := Nat × Value) (fun x => x.1 ≤ hg R.length ∧ x.2.oneCell' = true) (fun x => [(2, .v (.slice (some a₂) S.length c₂)), (6, .v (ptr b6)), (1000006, blk b6 32 [nI 0, .slice none 0 0]), (9, .v (ptr b9)), (30, .v (nI (hg R.length))), (31, .v (nI (x.1))), (1000009, blk b9 32 [nI R.length, x.2]), (1000203, valM x.2 (ownP w₀.heap.size 57 274 (tot R.length (x.1 + 1)) (nodsV (treR R S (tot R.length (x.1 + 1)))))), (1900001, tab 1 (sizV)), (1900002, tab 2 (H8.list.map u32V)), (1900003, tab 3 (K64.map u32V)), (1000801, old w₀.heap.size (memR (some a₁) (recsV R))), (1000701, old w₀.heap.size (memR (some a₂) (slotV S)))]) (fun x => hg R.length - x.1) ((0 : Nat), v23) ?_ ?_ ?_
 ·exact ⟨Nat.zero_le _, hv23⟩
 ·exact (KC 2 rfl (KC 6 rfl (KE 1000006 rfl (by rfl) (KC 9 rfl (KC 30 rfl (KE 31 rfl (by rfl) (KC 1000009 rfl (KE 1000203 rfl (congrArg (valM v23) (gr_start R S)) (KC 1900001 rfl (KC 1900002 rfl (KC 1900003 rfl (KC 1000801 rfl (KC 1000701 rfl KN)))))))))))))
 intro ⟨i, v⟩ hG
 dsimp only at hG ⊢
 have hmi := hmo (i + 1) (by omega) (by have := hG.1; omega)
 refine GV rfl (QS ?_);refine A.cond rfl (fun hc32 => ?_) (fun hc32 => ?_)
 ·have hi : i < hg R.length := by simp at hc32; omega
  refine QK (QSB (GV rfl ?_));refine A.openRowP (k := 1000203) (k' := 1000501) rfl (by rw [nods_len (treR_fit hR S h1 h2 (by omega)), treR_length]; omega) fun ad q hq hv => ?_
  change v = _ at hv
  subst hv
  refine A.reg (by kernel_rfl) (by kernel_rfl) (.inr (by kernel_rfl)) ?_;refine RunTK.newG 6 (by decide) rfl (.inr (by kernel_rfl)) ?_;refine RS (ok_field field32_1 (by decide) rfl) ?_;refine RS (OpOk.valP (k := 1000203) (ok_loadV (s := 1000009) (by decide) U30 rfl rfl rfl (rfl)) (by decide) rfl) ?_;refine RL 1000009 U32 rfl rfl (size32.of rfl) ?_;refine RV 2 rfl ?_;refine RS (ok_callMBK (above_fnB R.length h1 h2 i (by omega) ad (treR R S (tot R.length (i + 1))) (treR_fit hR S h1 h2 (by omega)) q (by rw [treR_length]; exact Nat.le_refl _) (fun j hj => by rw [treR_at (by omega) hj (by rw [tot_succ]; omega)]; exact nodR_ck hO hS (by omega)) S hS (by omega) a₂ c₂) newD_mono (SubK.app (SubK.of (Sub.cons rfl (Sub.cons rfl (Sub.cons rfl KN))) tabN_v) (SubK.cons (k := 1000501) (by decide) rfl (Le.refl _) (SubK.cons (k := 1000701) (by decide) rfl Le.unold SubK.nil))) (Args.cons rfl (Le.eq (by rw [treR_length])) (A2 rfl rfl))) ?_;refine RN ?_;refine ⟨_, _, _, Eff.named (k := 1000203) (fun w x h => ownP_one h) (by decide) (by decide) (by decide) (eff_appendRG U30 infoN (by decide) (by decide) rfl rfl rfl newD_rowD (nods_one _) (by rw [nods_len (pgT_fit fun k hk _ => upT_fit _ _ _ _ (by have := un_le h1 (i + 2); omega)), pgT_length]) (by have := un_le h1 (i + 2); omega) (by decide) (fun g hg => (LV 2 rfl (LV 6 rfl (LV 9 rfl (LV 30 rfl (LV 31 rfl (LT 1000006 rfl (LT 1000009 rfl (LO 1000701 rfl (LO 1000801 rfl (LQ 1900001 rfl (LQ 1900002 rfl (LQ 1900003 rfl LN)))))))))))))), fun v40 hv40 => ?_⟩
  refine TD 8 ?_;refine RS (ok_field field32_1 (by decide) rfl) ?_;refine RN ?_;refine ⟨_, eff_storeS (n := 48) (s := 1000009) info30 rfl rfl (by first | exact hv40 | rfl) hBb9 rfl (by simp) (LB 1000006 rfl (LeftS.cons (t := 1000203) rfl (Surv.valM (Surv.ownP (by decide))) (LO 1000701 rfl (LO 1000801 rfl (LQ 1900001 rfl (LQ 1900002 rfl (LQ 1900003 rfl (LW [2,6,9,30,31] rfl)))))))), ?_⟩
  refine TL (RN (End.sub (KC 2 rfl (KC 6 rfl (KC 9 rfl (KC 30 rfl (KC 31 rfl (KC 1000006 rfl (KE 1000009 rfl (show _ = blk b9 32 [nI R.length, v40] from rfl) (KC 1000203 rfl (KC 1000701 rfl (KC 1000801 rfl (KC 1900001 rfl (KC 1900002 rfl (KC 1900003 rfl KN))))))))))))) ?_));refine End.normal_block (EN (GTE (RB rfl rfl rfl ?_)));refine RZ (nI (i + 1)) (wrap_eq (by omega) (by omega)) ?_;refine RVN 1 rfl ?_;refine End.normal_then ?_;refine End.again ((i + 1 : Nat), v40) ?_ ?_ ?_
  ·exact ⟨by show i + 1 ≤ _; omega, hv40⟩
  ·show _ - _ < _ - _; omega
  ·exact (KC 2 rfl (KC 6 rfl (KC 1000006 rfl (KC 9 rfl (KC 30 rfl (KC 31 rfl (KC 1000009 rfl (KE 1000203 rfl (by show _ = valM v40 (ownP w₀.heap.size 57 274 (tot R.length (i + 1 + 1)) (nodsV (treR R S (tot R.length (i + 1 + 1))))); rw [← tre_up (by omega), nods_app, show tot R.length (i + 1 + 1) = tot R.length (i + 1) + un R.length (i + 2) from tot_succ _ _]) (KC 1900001 rfl (KC 1900002 rfl (KC 1900003 rfl (KC 1000801 rfl (KC 1000701 rfl KN)))))))))))))
 ·have hi2 : i = hg R.length := by have := hG.1; simp at hc32; omega
  subst hi2
  refine A.exit (End.exit_then (End.exit_then (End.exit_here (EN ?_))));refine A.openRowY (k := 1000203) (k' := 1000311) rfl (by rw [nods_len (treR_fit hR S h1 h2 (by omega)), treR_length]; omega) fun g11 q ys hBg hq hv => ?_
  change v = _ at hv
  subst hv
  refine GS (TF 4 (RS (ok_field field32_1 (by decide) rfl) ?_));refine RLV 1000009 U30 rfl rfl rfl ?_;refine RS (ok_call (clipN_fn ⟨g11,0, none⟩ (tot R.length (hg R.length + 1)) q (by omega) (by omega)) (A1 rfl)) ?_;refine RS (ok_field field32_1 (by decide) rfl) ?_;refine RN ?_;refine ⟨_, eff_storeS (n := 48) (s := 1000009) info30 rfl rfl (by first | exact hv40 | rfl) hBb9 rfl (by simp) (LB 1000006 rfl (LeftS.cons (t := 1000203) rfl (Surv.valM (Surv.ownP (by decide))) (LT 1000311 rfl (LO 1000701 rfl (LO 1000801 rfl (LQ 1900001 rfl (LQ 1900002 rfl (LQ 1900003 rfl (LW [6,9] rfl))))))))), ?_⟩
  refine TL (RN (A.sub (KC 6 rfl (KC 9 rfl (KC 1000006 rfl (KE 1000009 rfl (show _ = blk b9 32 [nI R.length, .slice (some ⟨g11,0, none⟩) (tot R.length (hg R.length + 1)) (tot R.length (hg R.length + 1))] from rfl) (KC 1000203 rfl (KC 1000311 rfl (KC 1000701 rfl (KC 1000801 rfl (KC 1900001 rfl (KC 1900002 rfl (KC 1900003 rfl KN))))))))))) ?_));refine GS (TF 1 (RL 1000009 U32 rfl rfl (size32.of rfl) ?_));refine RN ?_;refine ZA 1000006 (size32.of rfl) hBb6 rfl rfl rfl (LV 6 rfl (LB 1000009 rfl (LeftS.cons (t := 1000203) rfl (Surv.valM (Surv.ownP (by decide))) (LT 1000311 rfl (LO 1000701 rfl (LO 1000801 rfl (LQ 1900001 rfl (LQ 1900002 rfl (LQ 1900003 rfl LN))))))))) ?_;refine TL (RVN 1 rfl ?_);refine A.ret ?_;exact End.cellY (s := 1000006) (kg := 1000311) rfl U32 rfl (size32.of rfl) rfl rfl rfl rfl hBg rfl
end
section
section
variable {P : Program} {B : Nat} {E : Env} {dst : Option Tmp} {ty : TypeId} {pos : String} {after : Array Edge} {guard : Option (Nat × Bool)}
theorem ok_indexAX {t e : TypeId} {len sz : Nat} {x i : Operand} {ad : Addr} {o : Nat} {k : IntKind} (m : Nat) (ht : P.underlying t = some (.array len e)) (hs : SizeIs P e sz) (hx : E.at x = some (.v (.pointer (some (ad.add o))))) (hi : E.at i = some (.v (.int k (m : Int)))) (hn : m < len) :
  OpOk P B ⟨dst, .indexAddr t x i, ty, pos, after, guard⟩ E (.v (.pointer (some (ad.add (o + m * sz))))) := fun ρ w _ _ hρ => by
 have h1 : ρ x = _ := hρ x (by simp [Op.operands]) _ hx
 have hi' : ρ i = .int k (m : Int) := hρ i (by simp [Op.operands]) _ hi
 obtain ⟨info, hinfo, hsize⟩ := hs.get
 refine out_val (w' := w) ?_ ⟨Grow.refl w, rfl⟩
 simp [execOp, h1, hi', Instr.indexAt, Instr.sureAddr, asIntOf, run_underlying ht, sizeOf, typeInfo, hinfo, hsize]
 first | (intro hle; omega) | (exact ⟨by omega, add_of_add _ _ _⟩) | (rw [if_pos (by omega)]; simp [add_of_add]) | (split <;> simp_all [add_of_add] <;> omega) | skip
end
theorem nods_rec {T : List NodT} (h : FitT T) {k j : Nat} (hk : k < T.length) (hj : j < 4) : ((nodsV T).drop (k * 274 + 2 + j * 35)).take 35 = ((ndAt T k).r j).v := by
 have h1 := nods_at h hk
 have h2 := (h.at k).rec_at hj
 rw [← h1, List.drop_take, List.drop_drop, List.take_take, Nat.min_eq_left (by omega)] at h2
 rw [Nat.add_assoc]; exact h2
theorem wantV_len {n x : Nat} {d : List UInt8} {T : List NodT} (hd : d.length = 32) (hT : FitT T) (i : Nat) : (wantV n d x T i).length = 32 := by
 cases i with
 | zero => exact hd
 | succ i => exact ((hT.at i).e _).t
noncomputable instance : DecidableEq NodT := fun a b => Classical.propDecidable (a = b)
theorem End.ret3 {P : Program} {n : Nat} {E : Env} {w₀ : World} {fn : Func} {r s t : Nat} {d₁ d₂ d₃ e₁ e₂ e₃ : D} (hr : fn.results = #[.tmp r, .tmp s, .tmp t]) (he₁ : E.look r = some e₁) (hl₁ : Le e₁ d₁) (he₂ : E.look s = some e₂) (hl₂ : Le e₂ d₂) (he₃ : E.look t = some e₃) (hl₃ : Le e₃ d₃) : End Cx.top w₀ n E (BP P fn (PostOf w₀ (tup [d₁, d₂, d₃])) .ret) := fun a w g hs =>
 BP.ret hs.defers ⟨.tuple #[a.tmps.getD r undef, a.tmps.getD s undef, a.tmps.getD t undef], by simp [results, hr], _, rfl, g, [a.tmps.getD r undef, a.tmps.getD s undef, a.tmps.getD t undef], rfl, rfl, fun j d u hd hu => by
  match j, hd, hu with
  | 0, hd, hu => simp only [List.getElem?_cons_zero, Option.some.injEq] at hd hu; subst hd; subst hu; exact hl₁.of (hs.of r _ he₁)
  | 1, hd, hu => simp only [List.getElem?_cons_succ, List.getElem?_cons_zero, Option.some.injEq] at hd hu; subst hd; subst hu; exact hl₂.of (hs.of s _ he₂)
  | 2, hd, hu => simp only [List.getElem?_cons_succ, List.getElem?_cons_zero, Option.some.injEq] at hd hu; subst hd; subst hu; exact hl₃.of (hs.of t _ he₃)
  | j + 3, hd, _ => simp at hd⟩
end
section
theorem pathV_at {n x i : Nat} (h : i < hg n + 1) : ((pathV n x (hg n + 1)).drop (i * 2)).take 2 = plV (hg n - i) (pidx n x i) := pathV_get h
abbrev pthM (pd : Addr) (n x : Nat) (ad : Addr) (T : List NodT) : Env := [(1000501, memR (some ad) (nodsV T)), (1000711, memR (some pd) (pathV n x (hg n + 1)))]
set_option maxHeartbeats 4000000 in
theorem cProof_fn (n : Nat) (h1 : 1 ≤ n) (h2 : n ≤ 4096) (x : Nat) (hx : x < n) (d : List UInt8) (hd : d.length = 32) (pd : Addr) (pc : Nat) (ad : Addr) (T : List NodT) (hT : FitT T) (c : Nat) (hl0 : 0 < T.length) (hlh : T.length ≤ hg n + 1) (e : Value) (he0 : (∀ k, k < T.length → verE n d x T k = 0) → e = .nilIface) (heN : ∀ i, i < T.length → (∀ k, k < i → verE n d x T k = 0) → ¬ verE n d x T i = 0 → e = wrongV (hg n - i) (pidx n x i) (verE n d x T i))  : FnM Tryz.prog 58 (tabN ++ pthM pd n x ad T) [.v (nI (n)), .v (aggV (d.map byteV)), .v (.slice (some pd) (hg n + 1) pc), .v (.slice (some ad) T.length c)] (.v (e)) := by
 have hh := hg_le n
 refine FnM.ofO Tryz.func58 rfl (by kernel_rfl) Tryz.ntmps58 (by simp) (by decide) (fun w => [(0, .v (nI (n))), (1, .v (aggV (d.map byteV))), (2, .v (.slice (some pd) (hg n + 1) pc)), (3, .v (.slice (some ad) T.length c)), (1900001, tab 1 (sizV)), (1900002, tab 2 (H8.list.map u32V)), (1900003, tab 3 (K64.map u32V)), (1000501, old w.heap.size (memR (some ad) (nodsV T))), (1000711, old w.heap.size (memR (some pd) (pathV n x (hg n + 1))))]) (fun w => (StartMO.v rfl (StartMO.v rfl (StartMO.v rfl (StartMO.v rfl (StartMO.m (by simp [tabN]) (by decide) (StartMO.m (by simp [tabN]) (by decide) (StartMO.m (by simp [tabN]) (by decide) (StartMO.mo (by simp [tabN]) (by decide) (StartMO.mo (by simp [tabN]) (by decide) StartMO.nil)))))))))) fun w₀ hM => ?_
 have htab := tabN_hi fun p hp => hM p (List.mem_append_left _ hp)
 refine GS (TN 0 (RN ?_));refine ZB 1000005 rfl fun b5 ⟨hBb5, hb5⟩ => ?_
 refine TL (RVN 1 rfl ?_);refine GS (TN 1 (RL 1000005 U40 rfl rfl (size40.of (by rw [List.length_map, hd])) ?_));refine RN ?_;refine ZN 1000009 zero40 fun b9 ⟨hBb9, hb9⟩ => ?_
 have hlt_b5_b9 := hb9 1000005 b5 _ _ rfl
 refine TF 2 (RN ?_);refine ⟨_, eff_storeA (n := 84) (s := 1000009) (size40.of (by first | (rw [List.length_map, hd]; done) | (rw [List.length_map, ((hT.at i).e _).t]; done))) rfl rfl (all_bytes _) hBb9 rfl (by first | (rw [List.length_map, hd]; rfl) | (rw [List.length_map, List.length_map, ((hT.at i).e _).t, wantV_len hd hT])) (LB 1000005 rfl (LO 1000501 rfl (LO 1000711 rfl (LQ 1900001 rfl (LQ 1900002 rfl (LQ 1900003 rfl (LW [0,2,3,9] rfl))))))), ?_⟩
 refine TL (RN (QS (GT (RM rfl ?_))));refine RS (ok_lenV U30 rfl) ?_;refine RVN 1 rfl ?_;refine A.block ?_;refine A.loop (ι := Nat) (fun i => i ≤ T.length ∧ ∀ k, k < i → verE n d x T k = 0) (fun i => [(0, .v (nI (n))), (2, .v (.slice (some pd) (hg n + 1) pc)), (3, .v (.slice (some ad) T.length c)), (9, .v (ptr b9)), (18, .v (.slice (some ad) T.length c)), (19, .v (nI (T.length))), (20, .v (nI (i))), (1000009, blk b9 40 ((wantV n d x T (i)).map byteV)), (1900001, tab 1 (sizV)), (1900002, tab 2 (H8.list.map u32V)), (1900003, tab 3 (K64.map u32V)), (1000501, old w₀.heap.size (memR (some ad) (nodsV T))), (1000711, old w₀.heap.size (memR (some pd) (pathV n x (hg n + 1))))]) (fun i => T.length - i) 0 ?_ ?_ ?_
 ·exact ⟨Nat.zero_le _, fun k h => absurd h (Nat.not_lt_zero _)⟩
 ·exact (KC 0 rfl (KC 2 rfl (KC 3 rfl (KC 9 rfl (KC 18 rfl (KC 19 rfl (KE 20 rfl (by rfl) (KE 1000009 rfl (by rfl) (KC 1900001 rfl (KC 1900002 rfl (KC 1900003 rfl (KC 1000501 rfl (KC 1000711 rfl KN)))))))))))))
 intro i hG
 refine GV rfl (QS ?_);refine A.cond rfl (fun hc21 => ?_) (fun hc21 => ?_)
 ·have hi : i < T.length := by simp at hc21; omega
  have hih : i < hg n + 1 := by omega
  refine QK (QSB (GS (TN 3 (RM rfl ?_))));refine RS (ok_indexR (s := 1000501) i U30 infoN rfl rfl (by decide) rfl hi (by rw [nods_len hT]; omega)) ?_;refine RS (ok_loadElemT 274 U57 rfl size57 (by rw [nods_at hT hi, (hT.at _).len]; exact Nat.le_refl _) rfl) ?_;refine RZ (aggV (ndAt T i).v) (congrArg aggV (by rw [nods_at hT hi]; exact List.take_of_length_le (Nat.le_of_eq (hT.at _).len))) ?_;refine RN ?_;refine ZN 1000011 zero57 fun b11 ⟨hBb11, hb11⟩ => ?_
  refine TF 5 (RVN 1 rfl ?_);refine ⟨_, eff_storeA (n := 84) (s := 1000011) (size57.of ((hT.at i).len)) rfl rfl (NodT.one _) hBb11 rfl (by rw [(hT.at i).len]; rfl) (LT 1000009 rfl (LO 1000501 rfl (LO 1000711 rfl (LQ 1900001 rfl (LQ 1900002 rfl (LQ 1900003 rfl (LW [0,2,3,9,10,11,18,19,20] rfl))))))), ?_⟩
  refine TL (RN (QS (GTD (RV 3 rfl ?_))));refine RS (ok_indexR (s := 1000711) (i) U112 infoPP rfl rfl (by decide) rfl hih (by rw [pathV_length (Nat.le_refl _)]; omega)) ?_;refine RS (ok_loadElemT 2 U67 rfl size67 (by rw [pathV_at hih]; exact Nat.le_refl _) rfl) ?_;refine RZ (aggV (plV (hg n - (i)) (pidx n x (i)))) (congrArg aggV (by rw [pathV_at hih]; rfl)) ?_;refine RL 1000011 U57 rfl rfl (size57.of ((hT.at i).len)) ?_;refine RS (ok_call (checkFit_fn n h1 h2 (hg n - i) (pidx n x i) (ndAt T i) (hT.at i)) (A3 rfl rfl rfl)) ?_;refine RVN 1 rfl ?_;refine GT (RM rfl ?_);refine RS (ok_neIf U104 rfl) ?_;refine RN ?_;refine A.cond rfl (fun hc33 => ?_) (fun hc33 => ?_)
  ·have hf : fitA n (hg n - i) (pidx n x i) (ndAt T i) = false := by simpa using hc33
   obtain rfl := heN i hi hG.2 (by rw [verE_17 hf]; decide)
   refine GT (RM rfl ?_);refine RZ (wrongV (hg n - i) (pidx n x i) (verE n d x T i)) (by rw [if_neg (by simp [hf]), verE_17 hf]) ?_;refine RVN 1 rfl ?_;refine A.ret (End.ret_then (End.ret_block (End.ret_then (End.ret_then (End.ret_block (End.ret_then ?_))))));exact End.ret1 rfl rfl (Le.refl _)
  ·have hf : fitA n (hg n - i) (pidx n x i) (ndAt T i) = true := by simpa using hc33
   have hck : (ndAt T i).ck = 0 := (ft_zero h1 h2 (fitA_iff.1 hf).2.2).1
   refine QK (QS (GTD (RL 1000011 U57 rfl rfl (size57.of ((hT.at i).len)) ?_)));refine RS (ok_callM (digestOf_fn (ndAt T i) (hT.at i) hck) (Sub.cons rfl (Sub.cons rfl (Sub.cons rfl KN))) tabN_v (A1 rfl)) ?_;refine RL 1000009 U40 rfl rfl (size40.of (by rw [List.length_map, wantV_len hd hT])) ?_;refine RS (ok_neqT (n := 4) (decide (sha (ndAt T i).bl = wantV n d x T (i))) flat40r (by decide) (by kernel_rfl) (by kernel_rfl) rfl rfl (kinB (sha_length _)) (kinB (wantV_len hd hT i)) (by rw [decide_eq_true_iff]; exact ⟨fun h => congrArg _ h, fun h => bytes_inj h⟩)) ?_;refine RN ?_;refine A.cond rfl (fun hc38 => ?_) (fun hc38 => ?_)
   ·have hne : sha (ndAt T i).bl ≠ wantV n d x T (i) := by simpa using hc38
    obtain rfl := heN i hi hG.2 (by rw [verE_9 hf hne]; decide)
    refine GT (RV 2 rfl ?_);refine RS (ok_indexR (s := 1000711) (i) U112 infoPP rfl rfl (by decide) rfl hih (by rw [pathV_length (Nat.le_refl _)]; omega)) ?_;refine RS (ok_loadElemT 2 U67 rfl size67 (by rw [pathV_at hih]; exact Nat.le_refl _) rfl) ?_;refine RZ (aggV (plV (hg n - (i)) (pidx n x (i)))) (congrArg aggV (by rw [pathV_at hih]; rfl)) ?_;refine RS (ok_iface U140 rfl rfl) ?_;refine RS (ok_litS [(0, aggV (plV (hg n - i) (pidx n x i))), (1, .iface 140 (.int .i64 9))] [nI (hg n - i), nI (pidx n x i), .iface 140 (.int .i64 9)] ⟨rfl, rfl, rfl, rfl, trivial⟩ (buildW _ _ _)) ?_;refine RS (ok_iface U149 rfl rfl) ?_;refine RZ (wrongV (hg n - i) (pidx n x i) (verE n d x T i)) (by rw [verE_9 hf hne]) ?_;refine RVN 1 rfl ?_;refine A.sub (Sv [8,1000009,1000011,1000501,1000711,1900001,1900002,1900003] rfl) ?_;refine A.ret (End.ret_then (End.ret_block (End.ret_then (End.ret_then (End.ret_block (End.ret_then ?_))))));exact End.ret1 rfl rfl (Le.refl _)
   ·have heq : sha (ndAt T i).bl = wantV n d x T (i) := by simpa using hc38
    refine QK (QS (GT (RV 2 rfl ?_)));refine RS (ok_lenV U112 rfl) ?_;refine RB rfl rfl rfl ?_;refine RZ (nI (hg n)) (wrap_eq (by omega) (by omega)) ?_;refine RB rfl rfl rfl ?_;refine RZ (.bool (decide (i = hg n))) (congrArg Value.bool (decide_eq_decide.2 (by omega))) ?_;refine RN (A.sub (Sv [0,2,3,9,10,11,18,19,20,50,1000009,1000011,1000501,1000711,1900001,1900002,1900003] rfl) ?_);refine A.cond rfl (fun hc50 => ?_) (fun hc50 => ?_)
    ·have hlast : i = hg n := of_decide_eq_true hc50
     obtain rfl : e = .nilIface := he0 fun k hk => (Nat.lt_or_ge k i).elim (hG.2 k) fun h => by rw [show k = i from by omega]; exact verE_0 hf heq fun hlt => absurd hlt (by omega)
     refine A.exit (End.exit_then (End.exit_past (by decide) (End.exit_then (End.exit_then (End.exit_here (EN (GV rfl (A.ret ?_))))))));exact End.ret1 rfl rfl (Le.refl _)
    ·have hlt : i < hg n := by have := of_decide_eq_false hc50; omega
     have hi1 : i + 1 < hg n + 1 := by omega
     refine QK (GS (TN 11 (RV 4 rfl ?_)));refine RZ (nI (i + 1)) (wrap_eq (by omega) (by omega)) ?_;refine RS (ok_indexR (s := 1000711) (i + 1) U112 infoPP rfl rfl (by decide) rfl hi1 (by rw [pathV_length (Nat.le_refl _)]; omega)) ?_;refine RS (ok_loadElemT 2 U67 rfl size67 (by rw [pathV_at hi1]; exact Nat.le_refl _) rfl) ?_;refine RZ (aggV (plV (hg n - (i + 1)) (pidx n x (i + 1)))) (congrArg aggV (by rw [pathV_at hi1]; rfl)) ?_;refine RS (ok_call (Parent_up n h1 h2 (hg n - (i + 1)) (pidx n x (i + 1)) (Nat.sub_le _ _) (pidx_lt hx _) (by omega)) (A2 rfl rfl)) ?_;refine RVN 4 rfl ?_;refine ZN 1000013 zero67 fun b13 ⟨hBb13, hb13⟩ => ?_
     refine TF 12 (RN ?_);refine ZA 1000013 (size67.of rfl) hBb13 rfl rfl rfl (LT 1000009 rfl (LT 1000011 rfl (LO 1000501 rfl (LO 1000711 rfl (LQ 1900001 rfl (LQ 1900002 rfl (LQ 1900003 rfl (LW [0,2,3,9,10,11,18,19,20,60,61] rfl)))))))) ?_;refine TL (RVN 2 rfl ?_);refine GS (TN 4 (RM rfl ?_));refine RS (ok_field field57_3 (by decide) rfl) ?_;refine RS (ok_indexN (wch n x i) U55 size54 rfl rfl (rfl) (Nat.mod_lt _ (by decide))) ?_;refine RS (ok_loadP (s := 1000011) (by decide) U54 rfl size54 rfl rfl (by rw [(hT.at i).len]; have : wch n x i < 4 := Nat.mod_lt _ (by decide); omega) (ent_part (hT.at i) (Nat.mod_lt _ (by decide)))) ?_;refine RN ?_;refine ZN 1000016 zero54 fun b16 ⟨hBb16, hb16⟩ => ?_
     refine TF 5 (RN ?_);refine ⟨_, eff_storeA (n := 84) (s := 1000016) (size54.of (((hT.at i).e _).len)) rfl rfl (EntT.one _) hBb16 rfl (by rw [((hT.at i).e _).len]; rfl) (LT 1000009 rfl (LT 1000011 rfl (LT 1000013 rfl (LO 1000501 rfl (LO 1000711 rfl (LQ 1900001 rfl (LQ 1900002 rfl (LQ 1900003 rfl (LW [0,2,3,9,10,16,18,19,20] rfl))))))))), ?_⟩
     refine TL (RN (QS (GT (RL 1000016 U54 rfl rfl (size54.of (((hT.at i).e _).len)) ?_))));refine RS (ok_call (isZero_fn ((ndAt T i).e (wch n x i)) ((hT.at i).e _)) (A1 rfl)) ?_;refine RV 2 rfl ?_;refine RS (ok_lenV U30 rfl) ?_;refine RB rfl rfl rfl ?_;refine RZ (.int .i64 ((T.length : Int) - 1)) (congrArg (Value.int .i64) (wrap_i64 (by omega) (by omega))) ?_;refine RB rfl rfl rfl ?_;refine RZ (.bool (decide (i + 1 = T.length))) (congrArg Value.bool (decide_eq_decide.2 (by omega))) ?_;refine RS (ok_neBoolS U4 rfl rfl) ?_;refine RN (A.sub (Sv [0,2,3,9,10,16,18,19,20,73,1000009,1000011,1000013,1000016,1000501,1000711,1900001,1900002,1900003] rfl) ?_);refine A.cond rfl (fun hc73 => ?_) (fun hc73 => ?_)
     ·have hzz : decide ((ndAt T i).e (wch n x i)).Z ≠ decide (i + 1 = T.length) := by simpa using hc73
      obtain rfl := heN i hi hG.2 (by rw [verE_9z hf heq hlt hzz]; decide)
      refine GT (RV 2 rfl ?_);refine RS (ok_indexR (s := 1000711) (i) U112 infoPP rfl rfl (by decide) rfl hih (by rw [pathV_length (Nat.le_refl _)]; omega)) ?_;refine RS (ok_loadElemT 2 U67 rfl size67 (by rw [pathV_at hih]; exact Nat.le_refl _) rfl) ?_;refine RZ (aggV (plV (hg n - (i)) (pidx n x (i)))) (congrArg aggV (by rw [pathV_at hih]; rfl)) ?_;refine RS (ok_iface U140 rfl rfl) ?_;refine RS (ok_litS [(0, aggV (plV (hg n - i) (pidx n x i))), (1, .iface 140 (.int .i64 9))] [nI (hg n - i), nI (pidx n x i), .iface 140 (.int .i64 9)] ⟨rfl, rfl, rfl, rfl, trivial⟩ (buildW _ _ _)) ?_;refine RS (ok_iface U149 rfl rfl) ?_;refine RZ (wrongV (hg n - i) (pidx n x i) (verE n d x T i)) (by rw [verE_9z hf heq hlt hzz]) ?_;refine RVN 1 rfl ?_;refine A.ret (End.ret_then (End.ret_block (End.ret_then (End.ret_then (End.ret_block (End.ret_then ?_))))));exact End.ret1 rfl rfl (Le.refl _)
     ·have hzz : decide ((ndAt T i).e (wch n x i)).Z = decide (i + 1 = T.length) := by simpa using hc73
      have hz : verE n d x T i = 0 := verE_0 hf heq fun _ => hzz
      refine QK (GE (TF 2 (RS (ok_field field54_1 (by decide) rfl) ?_)));refine RS (ok_loadP (s := 1000016) (by decide) U40 rfl size40 rfl rfl (by rw [((hT.at i).e _).len]; decide) (ent_t ((hT.at i).e _))) ?_;refine RN ?_;refine ⟨_, eff_storeA (n := 84) (s := 1000009) (size40.of (by first | (rw [List.length_map, hd]; done) | (rw [List.length_map, ((hT.at i).e _).t]; done))) rfl rfl (all_bytes _) hBb9 rfl (by first | (rw [List.length_map, hd]; rfl) | (rw [List.length_map, List.length_map, ((hT.at i).e _).t, wantV_len hd hT])) (LT 1000011 rfl (LT 1000013 rfl (LT 1000016 rfl (LO 1000501 rfl (LO 1000711 rfl (LQ 1900001 rfl (LQ 1900002 rfl (LQ 1900003 rfl (LW [0,2,3,9,18,19,20] rfl))))))))), ?_⟩
      refine TL (RN (End.normal_block (EN (GTE (RB rfl rfl rfl ?_)))));refine RZ (nI (i + 1)) (wrap_eq (by omega) (by omega)) ?_;refine RVN 1 rfl ?_;refine End.normal_then ?_;refine End.again (i + 1) ?_ ?_ ?_
      ·exact ⟨by omega, fun k hk => (Nat.lt_or_ge k i).elim (hG.2 k) fun h => by rw [show k = i from by omega]; exact hz⟩
      ·show _ - _ < _ - _; omega
      ·exact (KC 0 rfl (KC 2 rfl (KC 3 rfl (KC 9 rfl (KC 18 rfl (KC 19 rfl (KC 20 rfl (KE 1000009 rfl (by rfl) (KC 1900001 rfl (KC 1900002 rfl (KC 1900003 rfl (KC 1000501 rfl (KC 1000711 rfl KN)))))))))))))
 ·have hi2 : i = T.length := by have := hG.1; simp at hc21; omega
  obtain rfl : e = .nilIface := he0 (by subst hi2; exact hG.2)
  refine A.exit (End.exit_then (End.exit_then (End.exit_here (EN (GV rfl (A.ret ?_))))));exact End.ret1 rfl rfl (Le.refl _)
theorem Ver_m (n : Int) (hm : ¬ (1 ≤ n ∧ n ≤ 4096)) (x : Int) (d : List UInt8) (hd : d.length = 32) (A₀ : Option Addr) (T : List NodT) (hT : FitT T) (c : Nat)  : FnM Tryz.prog 25 (tabE ++ trO A₀ T) [.v (.int .i64 (n)), .v (aggV (d.map byteV)), .v (aggV [.int .i64 x, .slice A₀ T.length c])] (.v (.tuple #[aggV RecT.zero.v, .int .i64 1])) := by
 refine FnM.ofO Tryz.func25 rfl (by kernel_rfl) Tryz.ntmps25 (by simp) (by decide) (fun w => [(0, .v (.int .i64 (n))), (1, .v (aggV (d.map byteV))), (2, .v (aggV [.int .i64 x, .slice A₀ T.length c])), (1900000, tabH 0 ([errT])), (1900001, tab 1 (sizV)), (1900002, tab 2 (H8.list.map u32V)), (1900003, tab 3 (K64.map u32V)), (1000501, old w.heap.size (memR A₀ (nodsV T)))]) (fun w => (StartMO.v rfl (StartMO.v rfl (StartMO.v rfl (StartMO.m (by simp [tabE]) (by decide) (StartMO.m (by simp [tabE]) (by decide) (StartMO.m (by simp [tabE]) (by decide) (StartMO.m (by simp [tabE]) (by decide) (StartMO.mo (by simp [tabE]) (by decide) StartMO.nil))))))))) fun w₀ hM => ?_
 have htab := tabE_hi fun p hp => hM p (List.mem_append_left _ hp)
 refine GS (TN 0 (RN ?_));refine ZB 1000004 rfl fun b4 ⟨hBb4, hb4⟩ => ?_
 refine TN 1 (RN ?_);refine ZB 1000005 rfl fun b5 ⟨hBb5, hb5⟩ => ?_
 refine TN 2 (RN ?_);refine ZN 1000006 zero51 fun b6 ⟨hBb6, hb6⟩ => ?_
 refine TL (RVN 1 rfl ?_);refine GT (RM rfl ?_);refine RS (ok_field field69_0 (by decide) rfl) ?_;refine RLV 1000005 U3 rfl rfl rfl ?_;refine RS (ok_call (Path_bad n hm x) (A2 rfl rfl)) ?_;refine RVN 5 rfl ?_;refine QSB (GT (RV 2 rfl ?_));refine RT ?_;refine RVN 1 rfl ?_;refine A.yes rfl ?_;refine GS (TF 2 (RS (ok_lit [] (RecT.v RecT.zero) (fun _ _ => rfl) (by kernel_rfl)) ?_));refine RVN 1 rfl ?_;refine ⟨_, eff_storeA (n := 77) (s := 1000006) (size51.of (RecT.zero_fit.len)) rfl rfl (RecT.one _) hBb6 rfl (by rw [RecT.zero_fit.len]; rfl) (LT 1000004 rfl (LT 1000005 rfl (LO 1000501 rfl (LeftS.cons (t := 1900000) rfl (Surv.tabH (by omega)) (LQ 1900001 rfl (LQ 1900002 rfl (LQ 1900003 rfl (LW [6,25] rfl)))))))), ?_⟩
 refine TL (RVN 1 rfl ?_);refine A.ret (End.ret_block (End.ret_then ?_));exact End.cellV (s := 1000006) rfl U51 rfl (size51.of (RecT.zero_fit.len)) rfl rfl rfl
theorem Ver_b (n : Nat) (h1 : 1 ≤ n) (h2 : n ≤ 4096) (x : Int) (hx : ¬ (0 ≤ x ∧ x < n)) (d : List UInt8) (hd : d.length = 32) (A₀ : Option Addr) (T : List NodT) (hT : FitT T) (c : Nat)  : FnM Tryz.prog 25 (tabE ++ trO A₀ T) [.v (nI (n)), .v (aggV (d.map byteV)), .v (aggV [.int .i64 x, .slice A₀ T.length c])] (.v (.tuple #[aggV RecT.zero.v, .int .i64 1])) := by
 refine FnM.ofO Tryz.func25 rfl (by kernel_rfl) Tryz.ntmps25 (by simp) (by decide) (fun w => [(0, .v (nI (n))), (1, .v (aggV (d.map byteV))), (2, .v (aggV [.int .i64 x, .slice A₀ T.length c])), (1900000, tabH 0 ([errT])), (1900001, tab 1 (sizV)), (1900002, tab 2 (H8.list.map u32V)), (1900003, tab 3 (K64.map u32V)), (1000501, old w.heap.size (memR A₀ (nodsV T)))]) (fun w => (StartMO.v rfl (StartMO.v rfl (StartMO.v rfl (StartMO.m (by simp [tabE]) (by decide) (StartMO.m (by simp [tabE]) (by decide) (StartMO.m (by simp [tabE]) (by decide) (StartMO.m (by simp [tabE]) (by decide) (StartMO.mo (by simp [tabE]) (by decide) StartMO.nil))))))))) fun w₀ hM => ?_
 have htab := tabE_hi fun p hp => hM p (List.mem_append_left _ hp)
 refine GS (TN 0 (RN ?_));refine ZB 1000004 rfl fun b4 ⟨hBb4, hb4⟩ => ?_
 refine TN 1 (RN ?_);refine ZB 1000005 rfl fun b5 ⟨hBb5, hb5⟩ => ?_
 refine TN 2 (RN ?_);refine ZN 1000006 zero51 fun b6 ⟨hBb6, hb6⟩ => ?_
 refine TL (RVN 1 rfl ?_);refine GT (RM rfl ?_);refine RS (ok_field field69_0 (by decide) rfl) ?_;refine RLV 1000005 U3 rfl rfl rfl ?_;refine RS (ok_call (Path_no n h1 h2 x hx) (A2 rfl rfl)) ?_;refine RVN 5 rfl ?_;refine QSB (GT (RV 2 rfl ?_));refine RT ?_;refine RVN 1 rfl ?_;refine A.yes rfl ?_;refine GS (TF 2 (RS (ok_lit [] (RecT.v RecT.zero) (fun _ _ => rfl) (by kernel_rfl)) ?_));refine RVN 1 rfl ?_;refine ⟨_, eff_storeA (n := 77) (s := 1000006) (size51.of (RecT.zero_fit.len)) rfl rfl (RecT.one _) hBb6 rfl (by rw [RecT.zero_fit.len]; rfl) (LT 1000004 rfl (LT 1000005 rfl (LO 1000501 rfl (LeftS.cons (t := 1900000) rfl (Surv.tabH (by omega)) (LQ 1900001 rfl (LQ 1900002 rfl (LQ 1900003 rfl (LW [6,25] rfl)))))))), ?_⟩
 refine TL (RVN 1 rfl ?_);refine A.ret (End.ret_block (End.ret_then ?_));exact End.cellV (s := 1000006) rfl U51 rfl (size51.of (RecT.zero_fit.len)) rfl rfl rfl
theorem Ver_0 (n : Nat) (h1 : 1 ≤ n) (h2 : n ≤ 4096) (x : Nat) (hx : x < n) (d : List UInt8) (hd : d.length = 32) (A₀ : Option Addr) (T : List NodT) (hT : FitT T) (c : Nat) (h0 : T.length = 0)  : FnM Tryz.prog 25 (tabE ++ trO A₀ T) [.v (nI (n)), .v (aggV (d.map byteV)), .v (aggV [nI x, .slice A₀ T.length c])] (.v (.tuple #[aggV RecT.zero.v, .int .i64 1])) := by
 refine FnM.ofO Tryz.func25 rfl (by kernel_rfl) Tryz.ntmps25 (by simp) (by decide) (fun w => [(0, .v (nI (n))), (1, .v (aggV (d.map byteV))), (2, .v (aggV [nI x, .slice A₀ T.length c])), (1900000, tabH 0 ([errT])), (1900001, tab 1 (sizV)), (1900002, tab 2 (H8.list.map u32V)), (1900003, tab 3 (K64.map u32V)), (1000501, old w.heap.size (memR A₀ (nodsV T)))]) (fun w => (StartMO.v rfl (StartMO.v rfl (StartMO.v rfl (StartMO.m (by simp [tabE]) (by decide) (StartMO.m (by simp [tabE]) (by decide) (StartMO.m (by simp [tabE]) (by decide) (StartMO.m (by simp [tabE]) (by decide) (StartMO.mo (by simp [tabE]) (by decide) StartMO.nil))))))))) fun w₀ hM => ?_
 have htab := tabE_hi fun p hp => hM p (List.mem_append_left _ hp)
 refine GS (TN 0 (RN ?_));refine ZB 1000004 rfl fun b4 ⟨hBb4, hb4⟩ => ?_
 refine TN 1 (RN ?_);refine ZB 1000005 rfl fun b5 ⟨hBb5, hb5⟩ => ?_
 refine TN 2 (RN ?_);refine ZN 1000006 zero51 fun b6 ⟨hBb6, hb6⟩ => ?_
 refine TL (RVN 1 rfl ?_);refine GS (TN 3 (RM rfl ?_));refine RS (ok_field field69_0 (by decide) rfl) ?_;refine RLV 1000005 U3 rfl rfl rfl ?_;refine RN ?_;refine ZM 1000018 (fun B' => ok_callB (Path_fnB n h1 h2 x hx) newD_mono (A2 rfl rfl)) rfl fun b18 ⟨hBb18, hb18⟩ => ?_
 have hlt_b4_b18 := hb18 1000004 b4 _ _ rfl
 have hlt_b5_b18 := hb18 1000005 b5 _ _ rfl
 have hlt_b6_b18 := hb18 1000006 b6 _ _ rfl
 refine TL (RVN 5 rfl ?_);refine QSB (GT (RV 2 rfl ?_));refine RF ?_;refine RVN 1 rfl ?_;refine A.no rfl ?_;refine GT (RS (ok_field field69_1 (by decide) rfl) ?_);refine RLV 1000005 U30 rfl rfl rfl ?_;refine RS (ok_lenV U30 rfl) ?_;refine RB rfl rfl rfl ?_;refine RZ (.bool true) (congrArg Value.bool (decide_eq_true (by omega))) ?_;refine RVN 9 rfl ?_;refine A.sub (Sv [0,4,5,6,8,26,1000004,1000005,1000006,1000018,1000501,1900000,1900001,1900002,1900003] rfl) ?_;refine A.yes rfl ?_;refine GS (TF 1 (RS (ok_lit [] (RecT.v RecT.zero) (fun _ _ => rfl) (by kernel_rfl)) ?_));refine RN ?_;refine ⟨_, eff_storeA (n := 77) (s := 1000006) (size51.of (RecT.zero_fit.len)) rfl rfl (RecT.one _) hBb6 rfl (by rw [RecT.zero_fit.len]; rfl) (LV 6 rfl (LT 1000004 rfl (LT 1000005 rfl (LT 1000018 rfl (LO 1000501 rfl (LeftS.cons (t := 1900000) rfl (Surv.tabH (by omega)) (LQ 1900001 rfl (LQ 1900002 rfl (LQ 1900003 rfl LN))))))))), ?_⟩
 refine TL (RVN 1 rfl ?_);refine A.ret (End.ret_block (End.ret_then ?_));exact End.cellV (s := 1000006) rfl U51 rfl (size51.of (RecT.zero_fit.len)) rfl rfl rfl
theorem Ver_l (n : Nat) (h1 : 1 ≤ n) (h2 : n ≤ 4096) (x : Nat) (hx : x < n) (d : List UInt8) (hd : d.length = 32) (A₀ : Option Addr) (T : List NodT) (hT : FitT T) (c : Nat) (h0 : T.length ≠ 0) (hl : hg n + 1 < T.length)  : FnM Tryz.prog 25 (tabE ++ trO A₀ T) [.v (nI (n)), .v (aggV (d.map byteV)), .v (aggV [nI x, .slice A₀ T.length c])] (.v (.tuple #[aggV RecT.zero.v, .int .i64 1])) := by
 refine FnM.ofO Tryz.func25 rfl (by kernel_rfl) Tryz.ntmps25 (by simp) (by decide) (fun w => [(0, .v (nI (n))), (1, .v (aggV (d.map byteV))), (2, .v (aggV [nI x, .slice A₀ T.length c])), (1900000, tabH 0 ([errT])), (1900001, tab 1 (sizV)), (1900002, tab 2 (H8.list.map u32V)), (1900003, tab 3 (K64.map u32V)), (1000501, old w.heap.size (memR A₀ (nodsV T)))]) (fun w => (StartMO.v rfl (StartMO.v rfl (StartMO.v rfl (StartMO.m (by simp [tabE]) (by decide) (StartMO.m (by simp [tabE]) (by decide) (StartMO.m (by simp [tabE]) (by decide) (StartMO.m (by simp [tabE]) (by decide) (StartMO.mo (by simp [tabE]) (by decide) StartMO.nil))))))))) fun w₀ hM => ?_
 have htab := tabE_hi fun p hp => hM p (List.mem_append_left _ hp)
 refine GS (TN 0 (RN ?_));refine ZB 1000004 rfl fun b4 ⟨hBb4, hb4⟩ => ?_
 refine TN 1 (RN ?_);refine ZB 1000005 rfl fun b5 ⟨hBb5, hb5⟩ => ?_
 refine TN 2 (RN ?_);refine ZN 1000006 zero51 fun b6 ⟨hBb6, hb6⟩ => ?_
 refine TL (RVN 1 rfl ?_);refine GS (TN 3 (RM rfl ?_));refine RS (ok_field field69_0 (by decide) rfl) ?_;refine RLV 1000005 U3 rfl rfl rfl ?_;refine RN ?_;refine ZM 1000018 (fun B' => ok_callB (Path_fnB n h1 h2 x hx) newD_mono (A2 rfl rfl)) rfl fun b18 ⟨hBb18, hb18⟩ => ?_
 have hlt_b4_b18 := hb18 1000004 b4 _ _ rfl
 have hlt_b5_b18 := hb18 1000005 b5 _ _ rfl
 have hlt_b6_b18 := hb18 1000006 b6 _ _ rfl
 refine TL (RVN 5 rfl ?_);refine QSB (GT (RV 2 rfl ?_));refine RF ?_;refine RVN 1 rfl ?_;refine A.no rfl ?_;refine GT (RS (ok_field field69_1 (by decide) rfl) ?_);refine RLV 1000005 U30 rfl rfl rfl ?_;refine RS (ok_lenV U30 rfl) ?_;refine RB rfl rfl rfl ?_;refine RZ (.bool false) (congrArg Value.bool (decide_eq_false (by omega))) ?_;refine RM rfl ?_;refine RQ (ok_field field69_1 (by decide) rfl) ?_;refine RQ (ok_loadV (s := 1000005) (by decide) U30 rfl rfl rfl (rfl)) ?_;refine RQ (ok_lenV U30 rfl) ?_;refine RQ (ok_move rfl) ?_;refine RQ (ok_lenV U112 rfl) ?_;refine RQ (ok_bin rfl rfl rfl) ?_;refine RZ (.bool true) (congrArg Value.bool (by simp; omega)) ?_;refine RVN 2 rfl ?_;refine A.sub (Sv [0,4,5,6,8,26,1000004,1000005,1000006,1000018,1000501,1900000,1900001,1900002,1900003] rfl) ?_;refine A.yes rfl ?_;refine GS (TF 1 (RS (ok_lit [] (RecT.v RecT.zero) (fun _ _ => rfl) (by kernel_rfl)) ?_));refine RN ?_;refine ⟨_, eff_storeA (n := 77) (s := 1000006) (size51.of (RecT.zero_fit.len)) rfl rfl (RecT.one _) hBb6 rfl (by rw [RecT.zero_fit.len]; rfl) (LV 6 rfl (LT 1000004 rfl (LT 1000005 rfl (LT 1000018 rfl (LO 1000501 rfl (LeftS.cons (t := 1900000) rfl (Surv.tabH (by omega)) (LQ 1900001 rfl (LQ 1900002 rfl (LQ 1900003 rfl LN))))))))), ?_⟩
 refine TL (RVN 1 rfl ?_);refine A.ret (End.ret_block (End.ret_then ?_));exact End.cellV (s := 1000006) rfl U51 rfl (size51.of (RecT.zero_fit.len)) rfl rfl rfl
set_option maxHeartbeats 1000000 in
theorem Ver_i (n : Nat) (h1 : 1 ≤ n) (h2 : n ≤ 4096) (x : Nat) (hx : x < n) (d : List UInt8) (hd : d.length = 32) (ad : Addr) (T : List NodT) (hT : FitT T) (c : Nat) (hl0 : 0 < T.length) (hlh : T.length ≤ hg n + 1) (i : Nat) (hi : i < T.length) (hz : ∀ k, k < i → verE n d x T k = 0) (h0 : ¬ verE n d x T i = 0)  : FnM Tryz.prog 25 (tabE ++ trO (some ad) T) [.v (nI (n)), .v (aggV (d.map byteV)), .v (aggV [nI x, .slice (some ad) T.length c])] (.v (.tuple #[aggV RecT.zero.v, .int .i64 (verE n d x T i)])) := by
 refine FnM.ofO Tryz.func25 rfl (by kernel_rfl) Tryz.ntmps25 (by simp) (by decide) (fun w => [(0, .v (nI (n))), (1, .v (aggV (d.map byteV))), (2, .v (aggV [nI x, .slice (some ad) T.length c])), (1900000, tabH 0 ([errT])), (1900001, tab 1 (sizV)), (1900002, tab 2 (H8.list.map u32V)), (1900003, tab 3 (K64.map u32V)), (1000501, old w.heap.size (memR ((some ad)) (nodsV T)))]) (fun w => (StartMO.v rfl (StartMO.v rfl (StartMO.v rfl (StartMO.m (by simp [tabE]) (by decide) (StartMO.m (by simp [tabE]) (by decide) (StartMO.m (by simp [tabE]) (by decide) (StartMO.m (by simp [tabE]) (by decide) (StartMO.mo (by simp [tabE]) (by decide) StartMO.nil))))))))) fun w₀ hM => ?_
 have htab := tabE_hi fun p hp => hM p (List.mem_append_left _ hp)
 refine GS (TN 0 (RN ?_));refine ZB 1000004 rfl fun b4 ⟨hBb4, hb4⟩ => ?_
 refine TN 1 (RN ?_);refine ZB 1000005 rfl fun b5 ⟨hBb5, hb5⟩ => ?_
 refine TN 2 (RN ?_);refine ZN 1000006 zero51 fun b6 ⟨hBb6, hb6⟩ => ?_
 refine TL (RVN 1 rfl ?_);refine GS (TN 3 (RM rfl ?_));refine RS (ok_field field69_0 (by decide) rfl) ?_;refine RLV 1000005 U3 rfl rfl rfl ?_;refine RN ?_;refine ZM 1000018 (fun B' => ok_callB (Path_fnB n h1 h2 x hx) newD_mono (A2 rfl rfl)) rfl fun b18 ⟨hBb18, hb18⟩ => ?_
 have hlt_b4_b18 := hb18 1000004 b4 _ _ rfl
 have hlt_b5_b18 := hb18 1000005 b5 _ _ rfl
 have hlt_b6_b18 := hb18 1000006 b6 _ _ rfl
 refine TL (RVN 5 rfl ?_);refine A.blkRow (k := 1000018) (k' := 1000712) (ys := []) (by rw [List.append_nil]; rfl) ?_;refine QSB (GT (RV 2 rfl ?_));refine RF ?_;refine RVN 1 rfl ?_;refine A.no rfl ?_;refine GT (RS (ok_field field69_1 (by decide) rfl) ?_);refine RLV 1000005 U30 rfl rfl rfl ?_;refine RS (ok_lenV U30 rfl) ?_;refine RB rfl rfl rfl ?_;refine RZ (.bool false) (congrArg Value.bool (decide_eq_false (by omega))) ?_;refine RM rfl ?_;refine RQ (ok_field field69_1 (by decide) rfl) ?_;refine RQ (ok_loadV (s := 1000005) (by decide) U30 rfl rfl rfl (rfl)) ?_;refine RQ (ok_lenV U30 rfl) ?_;refine RQ (ok_move rfl) ?_;refine RQ (ok_lenV U112 rfl) ?_;refine RQ (ok_bin rfl rfl rfl) ?_;refine RZ (.bool false) (congrArg Value.bool (by simp; omega)) ?_;refine RVN 2 rfl ?_;refine A.sub (Sv [0,4,5,6,8,26,1000004,1000005,1000006,1000018,1000501,1000712,1900000,1900001,1900002,1900003] rfl) ?_;refine A.no rfl ?_;refine A.skip (End.normal_block (EN (QS (GT (RM rfl ?_)))));refine RL 1000004 U40 rfl rfl (size40.of (by rw [List.length_map, hd])) ?_;refine RM rfl ?_;refine RS (ok_field field69_1 (by decide) rfl) ?_;refine RLV 1000005 U30 rfl rfl rfl ?_;refine RS (ok_callMK (cProof_fn n h1 h2 x hx d hd ⟨b18,0, none⟩ (hg n + 1) ad T hT c hl0 hlh (wrongV (hg n - i) (pidx n x i) (verE n d x T i)) (fun ha => absurd (ha i hi) h0) (fun k hk hb hb0 => by rcases Nat.lt_trichotomy k i with hlt | rfl | hlt; exact absurd (hz k hlt) hb0; rfl; exact absurd (hb i hlt) h0)) (SubK.app (SubK.of (Sub.cons rfl (Sub.cons rfl (Sub.cons rfl KN))) tabN_v) (SubK.cons (k := 1000501) (by decide) rfl Le.unold (SubK.cons (k := 1000712) (by decide) rfl (Le.refl _) SubK.nil))) (Args.cons rfl (Le.refl _) (A3 rfl rfl rfl))) ?_;refine RVN 1 rfl ?_;refine GT (RM rfl ?_);refine RS (ok_neHeld U104 rfl) ?_;refine RN (A.yes rfl ?_);refine GS (TF 3 (RS (ok_lit [] (RecT.v RecT.zero) (fun _ _ => rfl) (by kernel_rfl)) ?_));refine RM rfl ?_;refine RS (ok_callMK (errnoOf_wrong (hg n - i) (pidx n x i) (verE n d x T i)) (SubK.of (Sub.cons rfl (Sub.cons rfl (Sub.cons rfl (Sub.cons rfl KN)))) tabE_v) (A1 rfl)) ?_;refine RN ?_;refine ⟨_, eff_storeA (n := 77) (s := 1000006) (size51.of (RecT.zero_fit.len)) rfl rfl (RecT.one _) hBb6 rfl (by rw [RecT.zero_fit.len]; rfl) (LT 1000004 rfl (LT 1000005 rfl (LT 1000018 rfl (LO 1000501 rfl (LeftS.cons (t := 1900000) rfl (Surv.tabH (by omega)) (LQ 1900001 rfl (LQ 1900002 rfl (LQ 1900003 rfl (LW [6,50] rfl))))))))), ?_⟩
 refine TL (RVN 1 rfl ?_);refine A.ret (End.ret_then ?_);exact End.cellV (s := 1000006) rfl U51 rfl (size51.of (RecT.zero_fit.len)) rfl rfl rfl
set_option maxHeartbeats 1000000 in
theorem Ver_s (n : Nat) (h1 : 1 ≤ n) (h2 : n ≤ 4096) (x : Nat) (hx : x < n) (d : List UInt8) (hd : d.length = 32) (ad : Addr) (T : List NodT) (hT : FitT T) (c : Nat) (hl0 : 0 < T.length) (hlh : T.length ≤ hg n + 1) (hz : ∀ k, k < T.length → verE n d x T k = 0) (hs : T.length ≠ hg n + 1)  : FnM Tryz.prog 25 (tabE ++ trO (some ad) T) [.v (nI (n)), .v (aggV (d.map byteV)), .v (aggV [nI x, .slice (some ad) T.length c])] (.v (.tuple #[aggV RecT.zero.v, .int .i64 0])) := by
 refine FnM.ofO Tryz.func25 rfl (by kernel_rfl) Tryz.ntmps25 (by simp) (by decide) (fun w => [(0, .v (nI (n))), (1, .v (aggV (d.map byteV))), (2, .v (aggV [nI x, .slice (some ad) T.length c])), (1900000, tabH 0 ([errT])), (1900001, tab 1 (sizV)), (1900002, tab 2 (H8.list.map u32V)), (1900003, tab 3 (K64.map u32V)), (1000501, old w.heap.size (memR ((some ad)) (nodsV T)))]) (fun w => (StartMO.v rfl (StartMO.v rfl (StartMO.v rfl (StartMO.m (by simp [tabE]) (by decide) (StartMO.m (by simp [tabE]) (by decide) (StartMO.m (by simp [tabE]) (by decide) (StartMO.m (by simp [tabE]) (by decide) (StartMO.mo (by simp [tabE]) (by decide) StartMO.nil))))))))) fun w₀ hM => ?_
 have htab := tabE_hi fun p hp => hM p (List.mem_append_left _ hp)
 refine GS (TN 0 (RN ?_));refine ZB 1000004 rfl fun b4 ⟨hBb4, hb4⟩ => ?_
 refine TN 1 (RN ?_);refine ZB 1000005 rfl fun b5 ⟨hBb5, hb5⟩ => ?_
 refine TN 2 (RN ?_);refine ZN 1000006 zero51 fun b6 ⟨hBb6, hb6⟩ => ?_
 refine TL (RVN 1 rfl ?_);refine GS (TN 3 (RM rfl ?_));refine RS (ok_field field69_0 (by decide) rfl) ?_;refine RLV 1000005 U3 rfl rfl rfl ?_;refine RN ?_;refine ZM 1000018 (fun B' => ok_callB (Path_fnB n h1 h2 x hx) newD_mono (A2 rfl rfl)) rfl fun b18 ⟨hBb18, hb18⟩ => ?_
 have hlt_b4_b18 := hb18 1000004 b4 _ _ rfl
 have hlt_b5_b18 := hb18 1000005 b5 _ _ rfl
 have hlt_b6_b18 := hb18 1000006 b6 _ _ rfl
 refine TL (RVN 5 rfl ?_);refine A.blkRow (k := 1000018) (k' := 1000712) (ys := []) (by rw [List.append_nil]; rfl) ?_;refine QSB (GT (RV 2 rfl ?_));refine RF ?_;refine RVN 1 rfl ?_;refine A.no rfl ?_;refine GT (RS (ok_field field69_1 (by decide) rfl) ?_);refine RLV 1000005 U30 rfl rfl rfl ?_;refine RS (ok_lenV U30 rfl) ?_;refine RB rfl rfl rfl ?_;refine RZ (.bool false) (congrArg Value.bool (decide_eq_false (by omega))) ?_;refine RM rfl ?_;refine RQ (ok_field field69_1 (by decide) rfl) ?_;refine RQ (ok_loadV (s := 1000005) (by decide) U30 rfl rfl rfl (rfl)) ?_;refine RQ (ok_lenV U30 rfl) ?_;refine RQ (ok_move rfl) ?_;refine RQ (ok_lenV U112 rfl) ?_;refine RQ (ok_bin rfl rfl rfl) ?_;refine RZ (.bool false) (congrArg Value.bool (by simp; omega)) ?_;refine RVN 2 rfl ?_;refine A.sub (Sv [0,4,5,6,8,26,1000004,1000005,1000006,1000018,1000501,1000712,1900000,1900001,1900002,1900003] rfl) ?_;refine A.no rfl ?_;refine A.skip (End.normal_block (EN (QS (GT (RM rfl ?_)))));refine RL 1000004 U40 rfl rfl (size40.of (by rw [List.length_map, hd])) ?_;refine RM rfl ?_;refine RS (ok_field field69_1 (by decide) rfl) ?_;refine RLV 1000005 U30 rfl rfl rfl ?_;refine RS (ok_callMK (cProof_fn n h1 h2 x hx d hd ⟨b18,0, none⟩ (hg n + 1) ad T hT c hl0 hlh (.nilIface) (fun _ => rfl) (fun i hi _ h0 => absurd (hz i hi) h0)) (SubK.app (SubK.of (Sub.cons rfl (Sub.cons rfl (Sub.cons rfl KN))) tabN_v) (SubK.cons (k := 1000501) (by decide) rfl Le.unold (SubK.cons (k := 1000712) (by decide) rfl (Le.refl _) SubK.nil))) (Args.cons rfl (Le.refl _) (A3 rfl rfl rfl))) ?_;refine RVN 1 rfl ?_;refine GT (RM rfl ?_);refine RS (ok_neNil U104 rfl) ?_;refine RN (A.no rfl ?_);refine QK (QS (GT (RS (ok_field field69_1 (by decide) rfl) ?_)));refine RLV 1000005 U30 rfl rfl rfl ?_;refine RS (ok_lenV U30 rfl) ?_;refine RM rfl ?_;refine RS (ok_lenV U112 rfl) ?_;refine RB rfl rfl rfl ?_;refine RZ (.bool true) (congrArg Value.bool (by simp; omega)) ?_;refine RN (A.yes rfl ?_);refine GS (TF 1 (RS (ok_lit [] (RecT.v RecT.zero) (fun _ _ => rfl) (by kernel_rfl)) ?_));refine RN ?_;refine ⟨_, eff_storeA (n := 77) (s := 1000006) (size51.of (RecT.zero_fit.len)) rfl rfl (RecT.one _) hBb6 rfl (by rw [RecT.zero_fit.len]; rfl) (LV 6 rfl (LT 1000004 rfl (LT 1000005 rfl (LT 1000018 rfl (LO 1000501 rfl (LeftS.cons (t := 1900000) rfl (Surv.tabH (by omega)) (LQ 1900001 rfl (LQ 1900002 rfl (LQ 1900003 rfl LN))))))))), ?_⟩
 refine TL (RVN 1 rfl ?_);refine A.ret (End.ret_then ?_);exact End.cellV (s := 1000006) rfl U51 rfl (size51.of (RecT.zero_fit.len)) rfl rfl rfl
set_option maxHeartbeats 1000000 in
theorem Ver_r (n : Nat) (h1 : 1 ≤ n) (h2 : n ≤ 4096) (x : Nat) (hx : x < n) (d : List UInt8) (hd : d.length = 32) (ad : Addr) (T : List NodT) (hT : FitT T) (c : Nat) (hl0 : 0 < T.length) (hlh : T.length ≤ hg n + 1) (hz : ∀ k, k < T.length → verE n d x T k = 0) (hs : T.length = hg n + 1)  : FnM Tryz.prog 25 (tabE ++ trO (some ad) T) [.v (nI (n)), .v (aggV (d.map byteV)), .v (aggV [nI x, .slice (some ad) T.length c])] (.v (.tuple #[aggV ((ndAt T (hg n)).r (x % 4)).v, .int .i64 0])) := by
 have hx4 : x % 4 < 4 := Nat.mod_lt _ (by decide)
 have hh := hg_le n
 refine FnM.ofO Tryz.func25 rfl (by kernel_rfl) Tryz.ntmps25 (by simp) (by decide) (fun w => [(0, .v (nI (n))), (1, .v (aggV (d.map byteV))), (2, .v (aggV [nI x, .slice (some ad) T.length c])), (1900000, tabH 0 ([errT])), (1900001, tab 1 (sizV)), (1900002, tab 2 (H8.list.map u32V)), (1900003, tab 3 (K64.map u32V)), (1000501, old w.heap.size (memR ((some ad)) (nodsV T)))]) (fun w => (StartMO.v rfl (StartMO.v rfl (StartMO.v rfl (StartMO.m (by simp [tabE]) (by decide) (StartMO.m (by simp [tabE]) (by decide) (StartMO.m (by simp [tabE]) (by decide) (StartMO.m (by simp [tabE]) (by decide) (StartMO.mo (by simp [tabE]) (by decide) StartMO.nil))))))))) fun w₀ hM => ?_
 have htab := tabE_hi fun p hp => hM p (List.mem_append_left _ hp)
 refine GS (TN 0 (RN ?_));refine ZB 1000004 rfl fun b4 ⟨hBb4, hb4⟩ => ?_
 refine TN 1 (RN ?_);refine ZB 1000005 rfl fun b5 ⟨hBb5, hb5⟩ => ?_
 refine TN 2 (RN ?_);refine ZN 1000006 zero51 fun b6 ⟨hBb6, hb6⟩ => ?_
 refine TL (RVN 1 rfl ?_);refine GS (TN 3 (RM rfl ?_));refine RS (ok_field field69_0 (by decide) rfl) ?_;refine RLV 1000005 U3 rfl rfl rfl ?_;refine RN ?_;refine ZM 1000018 (fun B' => ok_callB (Path_fnB n h1 h2 x hx) newD_mono (A2 rfl rfl)) rfl fun b18 ⟨hBb18, hb18⟩ => ?_
 have hlt_b4_b18 := hb18 1000004 b4 _ _ rfl
 have hlt_b5_b18 := hb18 1000005 b5 _ _ rfl
 have hlt_b6_b18 := hb18 1000006 b6 _ _ rfl
 refine TL (RVN 5 rfl ?_);refine A.blkRow (k := 1000018) (k' := 1000712) (ys := []) (by rw [List.append_nil]; rfl) ?_;refine QSB (GT (RV 2 rfl ?_));refine RF ?_;refine RVN 1 rfl ?_;refine A.no rfl ?_;refine GT (RS (ok_field field69_1 (by decide) rfl) ?_);refine RLV 1000005 U30 rfl rfl rfl ?_;refine RS (ok_lenV U30 rfl) ?_;refine RB rfl rfl rfl ?_;refine RZ (.bool false) (congrArg Value.bool (decide_eq_false (by omega))) ?_;refine RM rfl ?_;refine RQ (ok_field field69_1 (by decide) rfl) ?_;refine RQ (ok_loadV (s := 1000005) (by decide) U30 rfl rfl rfl (rfl)) ?_;refine RQ (ok_lenV U30 rfl) ?_;refine RQ (ok_move rfl) ?_;refine RQ (ok_lenV U112 rfl) ?_;refine RQ (ok_bin rfl rfl rfl) ?_;refine RZ (.bool false) (congrArg Value.bool (by simp; omega)) ?_;refine RVN 2 rfl ?_;refine A.sub (Sv [0,4,5,6,8,26,1000004,1000005,1000006,1000018,1000501,1000712,1900000,1900001,1900002,1900003] rfl) ?_;refine A.no rfl ?_;refine A.skip (End.normal_block (EN (QS (GT (RM rfl ?_)))));refine RL 1000004 U40 rfl rfl (size40.of (by rw [List.length_map, hd])) ?_;refine RM rfl ?_;refine RS (ok_field field69_1 (by decide) rfl) ?_;refine RLV 1000005 U30 rfl rfl rfl ?_;refine RS (ok_callMK (cProof_fn n h1 h2 x hx d hd ⟨b18,0, none⟩ (hg n + 1) ad T hT c hl0 hlh (.nilIface) (fun _ => rfl) (fun i hi _ h0 => absurd (hz i hi) h0)) (SubK.app (SubK.of (Sub.cons rfl (Sub.cons rfl (Sub.cons rfl KN))) tabN_v) (SubK.cons (k := 1000501) (by decide) rfl Le.unold (SubK.cons (k := 1000712) (by decide) rfl (Le.refl _) SubK.nil))) (Args.cons rfl (Le.refl _) (A3 rfl rfl rfl))) ?_;refine RVN 1 rfl ?_;refine GT (RM rfl ?_);refine RS (ok_neNil U104 rfl) ?_;refine RN (A.no rfl ?_);refine QK (QS (GT (RS (ok_field field69_1 (by decide) rfl) ?_)));refine RLV 1000005 U30 rfl rfl rfl ?_;refine RS (ok_lenV U30 rfl) ?_;refine RM rfl ?_;refine RS (ok_lenV U112 rfl) ?_;refine RB rfl rfl rfl ?_;refine RZ (.bool false) (congrArg Value.bool (by simp; omega)) ?_;refine RN (A.no rfl ?_);refine QK (GS (TN 8 (RM rfl ?_)));refine RS (ok_field field69_0 (by decide) rfl) ?_;refine RLV 1000005 U3 rfl rfl rfl ?_;refine RS (ok_call (Group_ok n h1 h2 x hx) (A2 rfl rfl)) ?_;refine RVN 4 rfl ?_;refine ZN 1000011 zero67 fun b11 ⟨hBb11, hb11⟩ => ?_
 have hlt_b18_b11 := hb11 1000018 b18 _ _ rfl
 refine TF 9 (RN ?_);refine ZA 1000011 (size67.of rfl) hBb11 rfl rfl rfl (LT 1000004 rfl (LT 1000005 rfl (LT 1000006 rfl (LB 1000018 rfl (LO 1000501 rfl (LeftS.cons (t := 1900000) rfl (Surv.tabH (by omega)) (LQ 1900001 rfl (LQ 1900002 rfl (LQ 1900003 rfl (LW [5,6,64,65] rfl)))))))))) ?_;refine TL (RVN 2 rfl ?_);refine A.sub (Sv [5,6,12,1000004,1000005,1000006,1000011,1000018,1000501,1900000,1900001,1900002,1900003] rfl) ?_;refine GS (TF 11 (RS (ok_field field69_1 (by decide) rfl) ?_));refine RLV 1000005 U30 rfl rfl rfl ?_;refine RS (ok_field field69_1 (by decide) rfl) ?_;refine RLV 1000005 U30 rfl rfl rfl ?_;refine RS (ok_lenV U30 rfl) ?_;refine RB rfl rfl rfl ?_;refine RZ (nI (hg n)) (wrap_eq (by omega) (by omega)) ?_;refine RM rfl ?_;refine RS (ok_indexRX (hg n) U30 infoN rfl rfl (by omega)) ?_;refine RS (ok_fieldRX field57_2 (by decide) rfl) ?_;refine RS (ok_indexAX (x % 4) U52 size51 rfl rfl hx4) ?_;refine RS (ok_loadRXT (ys := ((ndAt T (hg n)).r (x % 4)).v) (s := 1000501) U51 rfl (size51.of ((hT.at _).r _).len) rfl (by decide) rfl (by rw [((hT.at _).r _).len]; exact nods_rec hT (by omega) hx4)) ?_;refine RN ?_;refine ⟨_, eff_storeA (n := 77) (s := 1000006) (size51.of (((hT.at _).r _).len)) rfl rfl (RecT.one _) hBb6 rfl (by rw [((hT.at _).r _).len]; rfl) (LV 6 rfl (LT 1000004 rfl (LT 1000005 rfl (LT 1000011 rfl (LT 1000018 rfl (LO 1000501 rfl (LeftS.cons (t := 1900000) rfl (Surv.tabH (by omega)) (LQ 1900001 rfl (LQ 1900002 rfl (LQ 1900003 rfl LN)))))))))), ?_⟩
 refine TL (RVN 1 rfl ?_);refine A.ret ?_;exact End.cellV (s := 1000006) rfl U51 rfl (size51.of (((hT.at _).r _).len)) rfl rfl rfl
theorem Verify_fn (n x : Int) (d : List UInt8) (hd : d.length = 32) (A₀ : Option Addr) (T : List NodT) (hT : FitT T) (c : Nat) : FnM Tryz.prog 25 (tabE ++ trO A₀ T) [.v (.int .i64 (n)), .v (aggV (d.map byteV)), .v (aggV [.int .i64 x, .slice A₀ T.length c])] (.v (.tuple #[aggV (verR n d x T).v, .int .i64 (ver n d x T)])) := by
 by_cases hn : 1 ≤ n ∧ n ≤ 4096
 ·obtain ⟨k, rfl⟩ : ∃ k : Nat, n = k := ⟨n.toNat, by omega⟩
  have h1 : 1 ≤ k := by omega
  have h2 : k ≤ 4096 := by omega
  by_cases hx : 0 ≤ x ∧ x < k
  ·obtain ⟨y, rfl⟩ : ∃ y : Nat, x = y := ⟨x.toNat, by omega⟩
   have hy : y < k := by omega
   by_cases h0 : T.length = 0
   ·have hv := ver_len (d := d) h1 h2 hy (.inl h0)
    rw [hv, verR_no (by rw [hv]; decide)]; exact Ver_0 k h1 h2 y hy d hd A₀ T hT c h0
   by_cases hl : hg k + 1 < T.length
   ·have hv := ver_len (d := d) h1 h2 hy (.inr hl)
    rw [hv, verR_no (by rw [hv]; decide)]; exact Ver_l k h1 h2 y hy d hd A₀ T hT c h0 hl
   have hv := ver_ok (d := d) h1 h2 hy (T := T) (by omega)
   refine FnM.addr (ds := fun a => [.v (.int .i64 (k : Int)), .v (aggV (d.map byteV)), .v (aggV [.int .i64 (y : Int), .slice a T.length c])]) (Ver_m 0 (by omega) 0 d hd none [] FitT.nil 0).body hT (by omega) fun ad => ?_
   by_cases hz : fstN (verE k d y T) T.length = 0
   ·rw [hz] at hv
    rw [hv]
    by_cases hs : T.length = hg k + 1
    ·rw [verR_all hv hs]; exact Ver_r k h1 h2 y hy d hd ad T hT c (by omega) (by omega) (fstN_zero.1 hz) hs
    ·rw [verR_part hs]; exact Ver_s k h1 h2 y hy d hd ad T hT c (by omega) (by omega) (fstN_zero.1 hz) hs
   ·obtain ⟨i, hi, hb, h3, he⟩ := fstN_ex hz
    rw [verR_no (by rw [hv]; exact hz), hv, he]; exact Ver_i k h1 h2 y hy d hd ad T hT c (by omega) (by omega) i hi hb h3
  ·have hv := ver_blk (d := d) (T := T) h1 h2 hx
   rw [hv, verR_no (by rw [hv]; decide)]; exact Ver_b k h1 h2 x hx d hd A₀ T hT c
 ·have hv := ver_bad (d := d) (x := x) (T := T) hn
  rw [hv, verR_no (by rw [hv]; decide)]; exact Ver_m n hn x d hd A₀ T hT c
end
section
theorem buildPf (x : Nat) (v : Value) (hv : v.oneCell' = true) : Tryz.prog.built 69 [(0, nI x), (1, v)] = some ([nI x, v] : List Value).toArray := by
 cases v with
 | agg => cases hv
 | tuple => cases hv
 | _ => kernel_rfl
theorem pthT_row (n : Nat) (T : List NodT) (x m : Nat) : nodsV (pthT n T x m) ++ (ndAt T (tot n (hg n - m) + pidx n x m)).v = nodsV (pthT n T x (m + 1)) := by
 rw [← pthT_step, nods_app]; simp [nodsV]
theorem mny_at {n x i : Nat} {T : List NodT} (h : ∀ k, 1 ≤ k → k ≤ i → emT n T (hg n - k) (pidx n x k) = false) (hi : i ≤ hg n) (he : i < hg n → emT n T (hg n - (i + 1)) (pidx n x (i + 1)) = true) : mny n T x = i + 1 :=
 runTo_eq (by omega) (by omega) (fun k h1 h2 => h k h1 (by omega)) fun h3 => he (by omega)
theorem pth_start {n x : Nat} (h1 : 1 ≤ n) (h2 : n ≤ 4096) (hx : x < n) (T : List NodT) : (ndAt T (tot n (hg n) + 0)).v = nodsV (pthT n T x (0 + 1)) := by
 unfold pthT nodsV
 rw [show List.range (0 + 1) = [0] from rfl, List.map_singleton, List.flatMap_singleton, Nat.sub_zero, pidx_root h1 h2 hx]
set_option maxHeartbeats 4000000 in
theorem Prove_okB (n : Nat) (ad : Addr) (T : List NodT) (hT : FitT T) (c : Nat) (ht : Tree n T) (x : Nat) (hx : x < n)  : FnMB Tryz.prog 23 (tabE ++ trO (some ad) T) [.v (aggV [nI n, .slice (some ad) T.length c]), .v (nI (x))] (fun B => newY B 57 (fun b => .tuple #[aggV [nI x, .slice (some ⟨b, 0, none⟩) (mny n T x) (mny n T x)], .int .i64 0]) (nodsV (pthT n T x (mny n T x)))) := by
 have h1 := ht.h1
 have h2 := ht.h2
 have hl := ht.len
 have he : chkT n T = 0 := ht.chkT
 have hh := hg_le n
 have htp := un_top h1 h2
 have hsm := tot_small h1 h2 (show hg n + 1 ≤ 6 by omega)
 have hpos := tot_pos h1
 have hu1 : un n 1 ≤ T.length := by have := tot_mono (n := n) (show 1 ≤ hg n + 1 by omega); rw [tot_one] at this; omega
 refine FnMB.ofO Tryz.func23 rfl (by kernel_rfl) Tryz.ntmps23 (by simp) (by decide) (fun w => [(0, .v (aggV [nI n, .slice (some ad) T.length c])), (1, .v (nI (x))), (1900000, tabH 0 ([errT])), (1900001, tab 1 (sizV)), (1900002, tab 2 (H8.list.map u32V)), (1900003, tab 3 (K64.map u32V)), (1000501, old w.heap.size (memR ((some ad)) (nodsV T)))]) (fun w => (StartMO.v rfl (StartMO.v rfl (StartMO.m (by simp [tabE]) (by decide) (StartMO.m (by simp [tabE]) (by decide) (StartMO.m (by simp [tabE]) (by decide) (StartMO.m (by simp [tabE]) (by decide) (StartMO.mo (by simp [tabE]) (by decide) StartMO.nil)))))))) fun w₀ hM => ?_
 have htab := tabE_hi fun p hp => hM p (List.mem_append_left _ hp)
 refine GS (TN 0 (RN ?_));refine ZB 1000002 rfl fun b2 ⟨hBb2, hb2⟩ => ?_
 refine TN 1 (RN ?_);refine ZN 1000004 zero69 fun b4 ⟨hBb4, hb4⟩ => ?_
 refine TL (RVN 1 rfl ?_);refine QS (GT (RL 1000002 U32 rfl rfl (size32.of rfl) ?_));refine RS (ok_callMK (Check_fn n (some ad) T hT c) (SubK.app (SubK.of (Sub.cons rfl (Sub.cons rfl (Sub.cons rfl (Sub.cons rfl KN)))) tabE_v) (SubK.cons (k := 1000501) (by decide) rfl Le.unold SubK.nil)) (A1 rfl)) ?_;refine RVN 1 rfl ?_;refine GT (RV 2 rfl ?_);refine RZ (.bool false) (congrArg Value.bool (by simp [he])) ?_;refine RN (A.no rfl ?_);refine QK (GS (TN 3 (RS (ok_field field32_0 (by decide) rfl) ?_)));refine RLV 1000002 U3 rfl rfl rfl ?_;refine RVN 1 rfl ?_;refine ZM 1000023 (fun B' => ok_callB (Path_fnB n h1 h2 x hx) newD_mono (A2 rfl rfl)) rfl fun b23 ⟨hBb23, hb23⟩ => ?_
 have hlt_b2_b23 := hb23 1000002 b2 _ _ rfl
 have hlt_b4_b23 := hb23 1000004 b4 _ _ rfl
 refine TL (RVN 5 rfl ?_);refine QS (GT (RV 2 rfl ?_));refine RF ?_;refine RN (A.no rfl ?_);refine QK (GTD (RL 1000002 U32 rfl rfl (size32.of rfl) ?_));refine RM rfl ?_;refine RS (ok_indexS 0 U112 infoPP rfl rfl rfl (by omega)) ?_;refine RS (ok_loadP (s := 1000023) (by decide) U67 rfl size67 rfl rfl (by rw [pathV_length (Nat.le_refl _)]; omega) (pathV_at (i := 0) (by omega))) ?_;refine RZ (aggV (plV (hg n) 0)) (congrArg (fun k => aggV (plV (hg n) k)) (pidx_root h1 h2 hx)) ?_;refine RS (ok_callMK (at_fn n h1 h2 (hg n) 0 (Nat.le_refl _) (by rw [un_root h1 h2]; decide) ad T hT c (by omega)) (SubK.cons (k := 1000501) (by decide) rfl Le.unold SubK.nil) (A2 rfl rfl)) ?_;refine RZ (aggV (ndAt T (tot n (hg n) + 0)).v) (by rfl) ?_;refine RS (ok_build1O U30 infoN rfl (by decide) (by decide) rfl (hT.at _).len) ?_;refine RL 1000002 U32 rfl rfl (size32.of rfl) ?_;refine RS (ok_callB (emptiness_fnB _ _ rfl rfl) closE_mono (A1 rfl)) ?_;refine RVN 2 rfl ?_;refine A.sub (Sv [1,2,4,7,9,10,1000002,1000004,1000023,1000501,1900000,1900001,1900002,1900003] rfl) ?_;refine A.openClosE (t := 10) (k₁ := 1000601) (k₂ := 1000602) rfl fun p q hBp hBq hpq => ?_
 refine QS (GT (RM rfl ?_));refine RS (ok_sliceLoK 1 U112 infoPP rfl rfl (by omega)) ?_;refine RS (ok_lenV U112 rfl) ?_;refine RZ (nI (hg n)) (congrArg (Value.int .i64) (by omega)) ?_;refine RVN 1 rfl ?_;refine A.block ?_;refine A.loop (ι := Nat) (fun i => i ≤ hg n ∧ ∀ k, 1 ≤ k → k ≤ i → emT n T (hg n - k) (pidx n x k) = false) (fun i => [(1, .v (nI (x))), (2, .v (ptr b2)), (4, .v (ptr b4)), (9, ownP w₀.heap.size 57 274 (i + 1) (nodsV (pthT n T x (i + 1)))), (10, .v (emF1 p q)), (39, .v (.slice (some ⟨b23, if hg n + 1 = 1 then 0 else 1 * 2, none⟩) (hg n + 1 - 1) (hg n + 1 - 1))), (40, .v (nI (hg n))), (41, .v (nI (i))), (1000002, blk b2 32 [nI n, .slice (some ad) T.length c]), (1000004, blk b4 69 [nI 0, .slice none 0 0]), (1000023, blk b23 67 (pathV n x (hg n + 1))), (1000601, blk p 32 [nI n, .slice (some ad) T.length c]), (1000602, blk q 115 [emF1 p q]), (1900000, tabH 0 ([errT])), (1900001, tab 1 (sizV)), (1900002, tab 2 (H8.list.map u32V)), (1900003, tab 3 (K64.map u32V)), (1000501, old w₀.heap.size (memR ((some ad)) (nodsV T)))]) (fun i => hg n - i) 0 ?_ ?_ ?_
 ·exact ⟨Nat.zero_le _, fun k h1 h2 => absurd h1 (by omega)⟩
 ·exact (KC 1 rfl (KC 2 rfl (KC 4 rfl (KE 9 rfl (congrArg (ownP w₀.heap.size 57 274 1) (pth_start h1 h2 hx T)) (KC 10 rfl (KC 39 rfl (KC 40 rfl (KE 41 rfl (by rfl) (KC 1000002 rfl (KE 1000004 rfl (by rfl) (KC 1000023 rfl (KC 1000601 rfl (KC 1000602 rfl (KC 1900000 rfl (KC 1900001 rfl (KC 1900002 rfl (KC 1900003 rfl (KC 1000501 rfl KN))))))))))))))))))
 intro i hG
 refine GV rfl (QS ?_);refine A.cond rfl (fun hc42 => ?_) (fun hc42 => ?_)
 ·have hi : i < hg n := by simp at hc42; omega
  refine QK (QSB (GS (TN 2 (RS (ok_indexS i U112 infoPP rfl rfl rfl (by omega)) ?_))));refine RZ (.pointer (some ⟨b23, (i + 1) * 2, none⟩)) (by rw [if_neg (by omega)]; congr 3; omega) ?_;refine RS (ok_loadP (s := 1000023) (by decide) U67 rfl size67 rfl rfl (by rw [pathV_length (Nat.le_refl _)]; omega) (pathV_at (by omega))) ?_;refine RZ (aggV (plV (hg n - (i + 1)) (pidx n x (i + 1)))) (by rfl) ?_;refine RN ?_;refine ZN 1000012 zero67 fun b12 ⟨hBb12, hb12⟩ => ?_
  have hlt_b23_b12 := hb12 1000023 b23 _ _ rfl
  refine TF 3 (RN ?_);refine ZA 1000012 (size67.of rfl) hBb12 rfl rfl rfl (LeftS.cons (t := 9) rfl (Surv.ownP (by decide)) (LT 1000002 rfl (LT 1000004 rfl (LB 1000023 rfl (LO 1000501 rfl (LT 1000601 rfl (LT 1000602 rfl (LeftS.cons (t := 1900000) rfl (Surv.tabH (by omega)) (LQ 1900001 rfl (LQ 1900002 rfl (LQ 1900003 rfl (LW [1,2,4,10,12,39,40,41] rfl)))))))))))) ?_;refine TL (RN (QS (GT (RM rfl ?_))));refine RL 1000012 U67 rfl rfl (size67.of rfl) ?_;refine RS (ok_callVMK (us := [ptr p, ptr q]) (em_fn n h1 h2 ad T hT hu1 c p q (hg n - (i + 1)) (pidx n x (i + 1)) (Nat.sub_le _ _) (pidx_lt hx _)) (SubK.cons (k := 1000601) (by decide) rfl (Le.refl _) (SubK.cons (k := 1000602) (by decide) rfl (Le.refl _) (SubK.cons (k := 1000501) (by decide) rfl Le.unold SubK.nil))) rfl (A1 rfl)) ?_;refine RN ?_;refine A.cond rfl (fun hc47 => ?_) (fun hc47 => ?_)
  ·have hm : mny n T x = i + 1 := mny_at hG.2 (by omega) fun _ => hc47
   refine A.exit (End.exit_then (End.exit_past (by decide) (End.exit_then (End.exit_then (End.exit_here (EN ?_))))));refine A.nameP (t := 9) (k := 1000203) rfl (fun w y h => ownP_one h) fun v9 hv9 => ?_
   refine A.openRowY (k := 1000203) (k' := 1000311) rfl (by rw [nods_len (pthT_fit hT _ _), pthT_length]; omega) fun g11 q ys hBg hq hv => ?_
   subst hv
   refine GS (TF 4 (RV 2 rfl ?_));refine RS (ok_call (clipN_fn ⟨g11,0, none⟩ (i + 1) q (by omega) (by omega)) (A1 rfl)) ?_;refine RS (ok_litS [(0, nI x), (1, .slice (some ⟨g11,0, none⟩) (i + 1) (i + 1))] [nI x, .slice (some ⟨g11,0, none⟩) (i + 1) (i + 1)] ⟨rfl, rfl, rfl, rfl, trivial⟩ (buildPf _ _ rfl)) ?_;refine RN ?_;refine ZA 1000004 (size69.of rfl) hBb4 rfl rfl rfl (LV 4 rfl (LT 1000002 rfl (LT 1000012 rfl (LT 1000023 rfl (LT 1000311 rfl (LO 1000501 rfl (LT 1000601 rfl (LT 1000602 rfl (LeftS.cons (t := 1900000) rfl (Surv.tabH (by omega)) (LQ 1900001 rfl (LQ 1900002 rfl (LQ 1900003 rfl LN)))))))))))) ?_;refine TL (RVN 1 rfl ?_);refine A.ret ?_;exact (by rw [hm]; exact End.cellY (s := 1000004) (kg := 1000311) rfl U69 rfl (size69.of rfl) rfl rfl rfl rfl hBg rfl)
  ·have hf : emT n T (hg n - (i + 1)) (pidx n x (i + 1)) = false := by simpa using hc47
   refine QK (GE (TF 5 (RM rfl ?_)));refine RL 1000002 U32 rfl rfl (size32.of rfl) ?_;refine RL 1000012 U67 rfl rfl (size67.of rfl) ?_;refine RS (ok_callMK (at_fn n h1 h2 (hg n - (i + 1)) (pidx n x (i + 1)) (Nat.sub_le _ _) (pidx_lt hx _) ad T hT c (by have := numP_lt (Nat.sub_le (hg n) (i + 1)) (pidx_lt hx (i + 1)); omega)) (SubK.cons (k := 1000501) (by decide) rfl Le.unold SubK.nil) (A2 rfl rfl)) ?_;refine RS (ok_build1K U30 infoN rfl (by decide) (by decide) rfl (hT.at _).len) ?_;refine RN ?_;refine ⟨_, eff_appendG U30 infoN (by decide) (by decide) rfl rfl rfl (hT.at _).len (NodT.one _) (by omega) (by decide) (fun g hg => (LT 1000002 rfl (LT 1000004 rfl (LT 1000012 rfl (LT 1000023 rfl (LO 1000501 rfl (LT 1000601 rfl (LT 1000602 rfl (LeftS.cons (t := 1900000) rfl (Surv.tabH (by omega)) (LQ 1900001 rfl (LQ 1900002 rfl (LQ 1900003 rfl (LW [1,2,4,10,39,40,41] rfl))))))))))))), ?_⟩
   refine TL (RVN 1 rfl ?_);refine End.normal_block (EN (GTE (RB rfl rfl rfl ?_)));refine RZ (nI (i + 1)) (wrap_eq (by omega) (by omega)) ?_;refine RVN 1 rfl ?_;refine End.normal_then ?_;refine End.again (i + 1) ?_ ?_ ?_
   ·exact ⟨by omega, fun k ha hb => (Nat.lt_or_ge k (i + 1)).elim (fun h => hG.2 k ha (by omega)) fun h => by rw [show k = i + 1 from by omega]; exact hf⟩
   ·show _ - _ < _ - _; omega
   ·exact (KC 1 rfl (KC 2 rfl (KC 4 rfl (KE 9 rfl (congrArg (ownP w₀.heap.size 57 274 (i + 1 + 1)) (pthT_row n T x (i + 1))) (KC 10 rfl (KC 39 rfl (KC 40 rfl (KC 41 rfl (KC 1000002 rfl (KC 1000004 rfl (KC 1000023 rfl (KC 1000601 rfl (KC 1000602 rfl (KC 1900000 rfl (KC 1900001 rfl (KC 1900002 rfl (KC 1900003 rfl (KC 1000501 rfl KN))))))))))))))))))
 ·have hi2 : i = hg n := by have := hG.1; simp at hc42; omega
  have hm : mny n T x = i + 1 := mny_at hG.2 (by omega) fun h => absurd h (by omega)
  refine A.exit (End.exit_then (End.exit_then (End.exit_here (EN ?_))));refine A.nameP (t := 9) (k := 1000203) rfl (fun w y h => ownP_one h) fun v9 hv9 => ?_
  refine A.openRowY (k := 1000203) (k' := 1000311) rfl (by rw [nods_len (pthT_fit hT _ _), pthT_length]; omega) fun g11 q ys hBg hq hv => ?_
  subst hv
  refine GS (TF 4 (RV 2 rfl ?_));refine RS (ok_call (clipN_fn ⟨g11,0, none⟩ (i + 1) q (by omega) (by omega)) (A1 rfl)) ?_;refine RS (ok_litS [(0, nI x), (1, .slice (some ⟨g11,0, none⟩) (i + 1) (i + 1))] [nI x, .slice (some ⟨g11,0, none⟩) (i + 1) (i + 1)] ⟨rfl, rfl, rfl, rfl, trivial⟩ (buildPf _ _ rfl)) ?_;refine RN ?_;refine ZA 1000004 (size69.of rfl) hBb4 rfl rfl rfl (LV 4 rfl (LT 1000002 rfl (LT 1000023 rfl (LT 1000311 rfl (LO 1000501 rfl (LT 1000601 rfl (LT 1000602 rfl (LeftS.cons (t := 1900000) rfl (Surv.tabH (by omega)) (LQ 1900001 rfl (LQ 1900002 rfl (LQ 1900003 rfl LN))))))))))) ?_;refine TL (RVN 1 rfl ?_);refine A.ret ?_;exact (by rw [hm]; exact End.cellY (s := 1000004) (kg := 1000311) rfl U69 rfl (size69.of rfl) rfl rfl rfl rfl hBg rfl)
abbrev twoM (A₀ : Option Addr) (T : List NodT) (B₀ : Option Addr) (W : List NodT) : Env := [(1000501, memR A₀ (nodsV T)), (1000502, memR B₀ (nodsV W))]
theorem fd_at (A₀ B₀ : Option Addr) (T W : List NodT) (hT : FitT T) (hW : FitT W) (c c' : Nat) (hsm : T.length ≤ 1000000) (k : Nat) (hk1 : k < T.length) (hk2 : k < W.length) (h : ∀ i, i < k → ndAt T i = ndAt W i) (hne : ndAt T k ≠ ndAt W k) (hcT : (ndAt T k).ck = 0) (hcW : (ndAt W k).ck = 0)  : FnM Tryz.prog 93 (tabS ++ twoM A₀ T B₀ W) [.v (.slice A₀ T.length c), .v (.slice B₀ W.length c')] (tup [bytes (ndAt T k).bl (NodT.sz (ndAt T k).l.toNat), bytes (ndAt W k).bl (NodT.sz (ndAt W k).l.toNat), .v (.int .i64 0)]) := by
 refine FnM.ofO Tryz.func93 rfl (by kernel_rfl) Tryz.ntmps93 (by simp) (by decide) (fun w => [(0, .v (.slice A₀ T.length c)), (1, .v (.slice B₀ W.length c')), (1900001, tab 1 (sizV)), (1000501, old w.heap.size (memR A₀ (nodsV T))), (1000502, old w.heap.size (memR B₀ (nodsV W)))]) (fun w => (StartMO.v rfl (StartMO.v rfl (StartMO.m (by simp [tabS]) (by decide) (StartMO.mo (by simp [tabS]) (by decide) (StartMO.mo (by simp [tabS]) (by decide) StartMO.nil)))))) fun w₀ hM => ?_
 skip
 refine GV rfl (QS (GT (RM rfl ?_)));refine RS (ok_lenV U30 rfl) ?_;refine RM rfl ?_;refine RS (ok_lenV U30 rfl) ?_;refine RS (ok_min rfl rfl) ?_;refine RZ (nI (min T.length W.length)) (congrArg (Value.int .i64) (by omega)) ?_;refine RVN 1 rfl ?_;refine A.block ?_;refine A.loop (ι := Nat) (fun i => i ≤ k) (fun i => [(0, .v (.slice A₀ T.length c)), (1, .v (.slice B₀ W.length c')), (12, .v (nI (min T.length W.length))), (13, .v (nI (i))), (1900001, tab 1 (sizV)), (1000501, old w₀.heap.size (memR A₀ (nodsV T))), (1000502, old w₀.heap.size (memR B₀ (nodsV W)))]) (fun i => min T.length W.length - i) 0 ?_ ?_ ?_
 ·exact Nat.zero_le _
 ·exact (KC 0 rfl (KC 1 rfl (KC 12 rfl (KE 13 rfl (by rfl) (KC 1900001 rfl (KC 1000501 rfl (KC 1000502 rfl KN)))))))
 intro i hG
 have hik0 : i ≤ k := hG
 have hi : i < min T.length W.length := by omega
 refine GT (RB rfl rfl rfl ?_);refine RZ (.bool true) (congrArg Value.bool (decide_eq_true (by omega))) ?_;refine RN (QS (A.yes rfl ?_));refine QK (QSB (GV rfl (GTD (RV 2 rfl ?_))));refine RS (ok_indexR (s := 1000501) i U30 infoN rfl rfl (by decide) rfl (by omega : i < T.length) (by rw [nods_len hT]; omega)) ?_;refine RS (ok_loadElemT 274 U57 rfl size57 (by rw [nods_at hT (by omega : i < T.length), (hT.at _).len]; exact Nat.le_refl _) rfl) ?_;refine RZ (aggV (ndAt T i).v) (congrArg aggV (by rw [nods_at hT (by omega : i < T.length)]; exact List.take_of_length_le (Nat.le_of_eq (hT.at _).len))) ?_;refine RV 2 rfl ?_;refine RS (ok_indexR (s := 1000502) i U30 infoN rfl rfl (by decide) rfl (by omega : i < W.length) (by rw [nods_len hW]; omega)) ?_;refine RS (ok_loadElemT 274 U57 rfl size57 (by rw [nods_at hW (by omega : i < W.length), (hW.at _).len]; exact Nat.le_refl _) rfl) ?_;refine RZ (aggV (ndAt W i).v) (congrArg aggV (by rw [nods_at hW (by omega : i < W.length)]; exact List.take_of_length_le (Nat.le_of_eq (hW.at _).len))) ?_;refine RS (ok_neqT (n := 6) (decide (ndAt T i = ndAt W i)) flat57 (by decide) (by kernel_rfl) (by kernel_rfl) rfl rfl (hT.at _).kin (hW.at _).kin (by rw [decide_eq_true_iff]; exact (nodV_eq_iff (hT.at _) (hW.at _)).symm)) ?_;refine RN ?_;refine A.cond rfl (fun hc24 => ?_) (fun hc24 => ?_)
 ·have hik : i = k := by
   have hd : ndAt T i ≠ ndAt W i := by simpa using hc24
   exact Classical.byContradiction fun hn => hd (h i (by omega))
  refine GT (RV 2 rfl ?_);refine RS (ok_indexR (s := 1000501) i U30 infoN rfl rfl (by decide) rfl (by omega : i < T.length) (by rw [nods_len hT]; omega)) ?_;refine RS (ok_loadElemT 274 U57 rfl size57 (by rw [nods_at hT (by omega : i < T.length), (hT.at _).len]; exact Nat.le_refl _) rfl) ?_;refine RZ (aggV (ndAt T i).v) (congrArg aggV (by rw [nods_at hT (by omega : i < T.length)]; exact List.take_of_length_le (Nat.le_of_eq (hT.at _).len))) ?_;refine RS (ok_callM (nPut_ok (ndAt T i) (hT.at i) (by rw [hik]; exact hcT)) (Sub.cons rfl KN) tabS_v (A1 rfl)) ?_;refine RM rfl ?_;refine RS (ok_extract rfl rfl) ?_;refine RS (ok_extract rfl rfl) ?_;refine RVN 1 rfl ?_;refine GT (RV 2 rfl ?_);refine RS (ok_indexR (s := 1000502) i U30 infoN rfl rfl (by decide) rfl (by omega : i < W.length) (by rw [nods_len hW]; omega)) ?_;refine RS (ok_loadElemT 274 U57 rfl size57 (by rw [nods_at hW (by omega : i < W.length), (hW.at _).len]; exact Nat.le_refl _) rfl) ?_;refine RZ (aggV (ndAt W i).v) (congrArg aggV (by rw [nods_at hW (by omega : i < W.length)]; exact List.take_of_length_le (Nat.le_of_eq (hW.at _).len))) ?_;refine RS (ok_callM (nPut_ok (ndAt W i) (hW.at i) (by rw [hik]; exact hcW)) (Sub.cons rfl KN) tabS_v (A1 rfl)) ?_;refine RM rfl ?_;refine RS (ok_extract rfl rfl) ?_;refine RS (ok_extract rfl rfl) ?_;refine RVN 1 rfl ?_;refine A.sub (Sv [4,5,1000501,1000502,1900001] rfl) ?_;refine GV rfl (A.ret (End.ret_block (End.ret_then (End.ret_then (End.ret_block (End.ret_then ?_))))))
  subst hik; exact End.ret3 rfl rfl (Le.refl _) rfl (Le.refl _) rfl (Le.refl _)
 ·have hd : ndAt T i = ndAt W i := by simpa using hc24
  have hik : i ≠ k := fun e => hne (by rw [← e]; exact hd)
  refine A.skip (End.normal_block (EN (GTE (RB rfl rfl rfl ?_))));refine RZ (nI (i + 1)) (wrap_eq (by omega) (by omega)) ?_;refine RVN 1 rfl ?_;refine End.normal_then ?_;refine End.again (i + 1) ?_ ?_ ?_
  ·exact (by omega : i + 1 ≤ k)
  ·show _ - _ < _ - _; omega
  ·exact (Sv [0,1,12,13,1900001,1000501,1000502] rfl)
end
section
theorem verR_fit {n x : Int} {d : List UInt8} {T : List NodT} (hT : FitT T) : (verR n d x T).Fit := by
 unfold verR
 split
 ·exact (hT.at _).r _
 ·exact RecT.zero_fit
noncomputable instance : DecidableEq RecT := fun a b => Classical.propDecidable (a = b)
theorem RecT.eq_v {a b : RecT} : decide (a = b) = true ↔ a.v = b.v := by rw [decide_eq_true_iff]; exact ⟨fun h => by rw [h], RecT.v_inj⟩
theorem coll_x (x y : Int) (A₀ B₀ : Option Addr) (T W : List NodT) (hT : FitT T) (hW : FitT W) (c c' : Nat) (r s : RecT) (hr : r.Fit) (hs : s.Fit) (h : x ≠ y)  : FnM Tryz.prog 60 (tabS ++ twoM A₀ T B₀ W) [.v (aggV [.int .i64 x, .slice A₀ T.length c]), .v (aggV [.int .i64 y, .slice B₀ W.length c']), .v (aggV r.v), .v (aggV s.v)] (.v (.tuple #[.slice none 0 0, .slice none 0 0, .int .i64 1])) := by
 refine FnM.ofO Tryz.func60 rfl (by kernel_rfl) Tryz.ntmps60 (by simp) (by decide) (fun w => [(0, .v (aggV [.int .i64 x, .slice A₀ T.length c])), (1, .v (aggV [.int .i64 y, .slice B₀ W.length c'])), (2, .v (aggV r.v)), (3, .v (aggV s.v)), (1900001, tab 1 (sizV)), (1000501, old w.heap.size (memR A₀ (nodsV T))), (1000502, old w.heap.size (memR B₀ (nodsV W)))]) (fun w => (StartMO.v rfl (StartMO.v rfl (StartMO.v rfl (StartMO.v rfl (StartMO.m (by simp [tabS]) (by decide) (StartMO.mo (by simp [tabS]) (by decide) (StartMO.mo (by simp [tabS]) (by decide) StartMO.nil)))))))) fun w₀ hM => ?_
 skip
 refine GS (TN 0 (RN ?_));refine ZB 1000004 rfl fun b4 ⟨hBb4, hb4⟩ => ?_
 refine TN 1 (RN ?_);refine ZB 1000005 rfl fun b5 ⟨hBb5, hb5⟩ => ?_
 have hlt_b4_b5 := hb5 1000004 b4 _ _ rfl
 refine TN 2 (RN ?_);refine ZB 1000006 rfl fun b6 ⟨hBb6, hb6⟩ => ?_
 refine TN 3 (RN ?_);refine ZB 1000007 rfl fun b7 ⟨hBb7, hb7⟩ => ?_
 have hlt_b6_b7 := hb7 1000006 b6 _ _ rfl
 refine TL (RVN 3 rfl ?_);refine QSB (GT (RS (ok_field field69_0 (by decide) rfl) ?_));refine RLV 1000004 U3 rfl rfl rfl ?_;refine RS (ok_field field69_0 (by decide) rfl) ?_;refine RLV 1000005 U3 rfl rfl rfl ?_;refine RB rfl rfl rfl ?_;refine RZ (.bool true) (congrArg Value.bool (by simp [h])) ?_;refine RVN 1 rfl ?_;refine A.yes rfl ?_;refine GV rfl (A.ret (End.ret_block (End.ret_then ?_)));exact End.ret3V rfl rfl rfl rfl
theorem coll_r (x : Int) (A₀ B₀ : Option Addr) (T W : List NodT) (hT : FitT T) (hW : FitT W) (c c' : Nat) (r s : RecT) (hr : r.Fit) (hs : s.Fit) (h : r = s)  : FnM Tryz.prog 60 (tabS ++ twoM A₀ T B₀ W) [.v (aggV [.int .i64 x, .slice A₀ T.length c]), .v (aggV [.int .i64 x, .slice B₀ W.length c']), .v (aggV r.v), .v (aggV s.v)] (.v (.tuple #[.slice none 0 0, .slice none 0 0, .int .i64 11])) := by
 refine FnM.ofO Tryz.func60 rfl (by kernel_rfl) Tryz.ntmps60 (by simp) (by decide) (fun w => [(0, .v (aggV [.int .i64 x, .slice A₀ T.length c])), (1, .v (aggV [.int .i64 x, .slice B₀ W.length c'])), (2, .v (aggV r.v)), (3, .v (aggV s.v)), (1900001, tab 1 (sizV)), (1000501, old w.heap.size (memR A₀ (nodsV T))), (1000502, old w.heap.size (memR B₀ (nodsV W)))]) (fun w => (StartMO.v rfl (StartMO.v rfl (StartMO.v rfl (StartMO.v rfl (StartMO.m (by simp [tabS]) (by decide) (StartMO.mo (by simp [tabS]) (by decide) (StartMO.mo (by simp [tabS]) (by decide) StartMO.nil)))))))) fun w₀ hM => ?_
 skip
 refine GS (TN 0 (RN ?_));refine ZB 1000004 rfl fun b4 ⟨hBb4, hb4⟩ => ?_
 refine TN 1 (RN ?_);refine ZB 1000005 rfl fun b5 ⟨hBb5, hb5⟩ => ?_
 have hlt_b4_b5 := hb5 1000004 b4 _ _ rfl
 refine TN 2 (RN ?_);refine ZB 1000006 rfl fun b6 ⟨hBb6, hb6⟩ => ?_
 refine TN 3 (RN ?_);refine ZB 1000007 rfl fun b7 ⟨hBb7, hb7⟩ => ?_
 have hlt_b6_b7 := hb7 1000006 b6 _ _ rfl
 refine TL (RVN 3 rfl ?_);refine QSB (GT (RS (ok_field field69_0 (by decide) rfl) ?_));refine RLV 1000004 U3 rfl rfl rfl ?_;refine RS (ok_field field69_0 (by decide) rfl) ?_;refine RLV 1000005 U3 rfl rfl rfl ?_;refine RB rfl rfl rfl ?_;refine RZ (.bool false) (congrArg Value.bool (by simp)) ?_;refine RVN 1 rfl ?_;refine A.no rfl ?_;refine GT (RL 1000006 U51 rfl rfl (size51.of (hr.len)) ?_);refine RL 1000007 U51 rfl rfl (size51.of (hs.len)) ?_;refine RS (ok_eqlT (n := 4) (decide (r = s)) flat51 (by decide) (by kernel_rfl) (by kernel_rfl) rfl rfl hr.kin hs.kin RecT.eq_v) ?_;refine RZ (.bool true) (by rw [decide_eq_true h]) ?_;refine RVN 1 rfl ?_;refine A.yes rfl ?_;refine GV rfl (A.ret (End.ret_block (End.ret_then ?_)));exact End.ret3V rfl rfl rfl rfl
theorem coll_at (x : Int) (A₀ B₀ : Option Addr) (T W : List NodT) (hT : FitT T) (hW : FitT W) (c c' : Nat) (r s : RecT) (hr : r.Fit) (hs : s.Fit) (hrs : r ≠ s) (hsm : T.length ≤ 1000000) (k : Nat) (hk1 : k < T.length) (hk2 : k < W.length) (h : ∀ i, i < k → ndAt T i = ndAt W i) (hne : ndAt T k ≠ ndAt W k) (hcT : (ndAt T k).ck = 0) (hcW : (ndAt W k).ck = 0)  : FnM Tryz.prog 60 (tabS ++ twoM A₀ T B₀ W) [.v (aggV [.int .i64 x, .slice A₀ T.length c]), .v (aggV [.int .i64 x, .slice B₀ W.length c']), .v (aggV r.v), .v (aggV s.v)] (tup [bytes (ndAt T k).bl (NodT.sz (ndAt T k).l.toNat), bytes (ndAt W k).bl (NodT.sz (ndAt W k).l.toNat), .v (.int .i64 0)]) := by
 refine FnM.ofO Tryz.func60 rfl (by kernel_rfl) Tryz.ntmps60 (by simp) (by decide) (fun w => [(0, .v (aggV [.int .i64 x, .slice A₀ T.length c])), (1, .v (aggV [.int .i64 x, .slice B₀ W.length c'])), (2, .v (aggV r.v)), (3, .v (aggV s.v)), (1900001, tab 1 (sizV)), (1000501, old w.heap.size (memR A₀ (nodsV T))), (1000502, old w.heap.size (memR B₀ (nodsV W)))]) (fun w => (StartMO.v rfl (StartMO.v rfl (StartMO.v rfl (StartMO.v rfl (StartMO.m (by simp [tabS]) (by decide) (StartMO.mo (by simp [tabS]) (by decide) (StartMO.mo (by simp [tabS]) (by decide) StartMO.nil)))))))) fun w₀ hM => ?_
 skip
 refine GS (TN 0 (RN ?_));refine ZB 1000004 rfl fun b4 ⟨hBb4, hb4⟩ => ?_
 refine TN 1 (RN ?_);refine ZB 1000005 rfl fun b5 ⟨hBb5, hb5⟩ => ?_
 have hlt_b4_b5 := hb5 1000004 b4 _ _ rfl
 refine TN 2 (RN ?_);refine ZB 1000006 rfl fun b6 ⟨hBb6, hb6⟩ => ?_
 refine TN 3 (RN ?_);refine ZB 1000007 rfl fun b7 ⟨hBb7, hb7⟩ => ?_
 have hlt_b6_b7 := hb7 1000006 b6 _ _ rfl
 refine TL (RVN 3 rfl ?_);refine QSB (GT (RS (ok_field field69_0 (by decide) rfl) ?_));refine RLV 1000004 U3 rfl rfl rfl ?_;refine RS (ok_field field69_0 (by decide) rfl) ?_;refine RLV 1000005 U3 rfl rfl rfl ?_;refine RB rfl rfl rfl ?_;refine RZ (.bool false) (congrArg Value.bool (by simp)) ?_;refine RVN 1 rfl ?_;refine A.no rfl ?_;refine GT (RL 1000006 U51 rfl rfl (size51.of (hr.len)) ?_);refine RL 1000007 U51 rfl rfl (size51.of (hs.len)) ?_;refine RS (ok_eqlT (n := 4) (decide (r = s)) flat51 (by decide) (by kernel_rfl) (by kernel_rfl) rfl rfl hr.kin hs.kin RecT.eq_v) ?_;refine RZ (.bool false) (by rw [decide_eq_false hrs]) ?_;refine RVN 1 rfl ?_;refine A.no rfl ?_;refine A.skip (End.normal_block (EN (GT (RS (ok_field field69_1 (by decide) rfl) ?_))));refine RLV 1000004 U30 rfl rfl rfl ?_;refine RS (ok_field field69_1 (by decide) rfl) ?_;refine RLV 1000005 U30 rfl rfl rfl ?_;refine RS (ok_callMK (fd_at A₀ B₀ T W hT hW c c' hsm k hk1 hk2 h hne hcT hcW) (SubK.app (SubK.of (Sub.cons rfl KN) tabS_v) (SubK.cons (k := 1000501) (by decide) rfl Le.unold (SubK.cons (k := 1000502) (by decide) rfl Le.unold SubK.nil))) (A2 rfl rfl)) ?_;refine RS (ok_extract rfl rfl) ?_;refine RS (ok_extract rfl rfl) ?_;refine RS (ok_extract rfl rfl) ?_;refine RVN 3 rfl ?_;refine A.sub (Sv [8,9,10,1000004,1000005,1000006,1000007,1000501,1000502,1900001] rfl) ?_;refine A.ret ?_;exact End.ret3 rfl rfl (Le.refl _) rfl (Le.refl _) rfl (Le.refl _)
set_option maxHeartbeats 1000000 in
theorem Coll_a (n x y : Int) (d : List UInt8) (hd : d.length = 32) (A₀ B₀ : Option Addr) (T W : List NodT) (hT : FitT T) (hW : FitT W) (c c' : Nat) (ha : ver n d x T ≠ 0)  : FnM Tryz.prog 32 (tabE ++ twoM A₀ T B₀ W) [.v (.int .i64 (n)), .v (aggV (d.map byteV)), .v (aggV [.int .i64 x, .slice A₀ T.length c]), .v (aggV [.int .i64 y, .slice B₀ W.length c'])] (.v (.tuple #[.slice none 0 0, .slice none 0 0, .int .i64 (ver n d x T)])) := by
 refine FnM.ofO Tryz.func32 rfl (by kernel_rfl) Tryz.ntmps32 (by simp) (by decide) (fun w => [(0, .v (.int .i64 (n))), (1, .v (aggV (d.map byteV))), (2, .v (aggV [.int .i64 x, .slice A₀ T.length c])), (3, .v (aggV [.int .i64 y, .slice B₀ W.length c'])), (1900000, tabH 0 ([errT])), (1900001, tab 1 (sizV)), (1900002, tab 2 (H8.list.map u32V)), (1900003, tab 3 (K64.map u32V)), (1000501, old w.heap.size (memR A₀ (nodsV T))), (1000502, old w.heap.size (memR B₀ (nodsV W)))]) (fun w => (StartMO.v rfl (StartMO.v rfl (StartMO.v rfl (StartMO.v rfl (StartMO.m (by simp [tabE]) (by decide) (StartMO.m (by simp [tabE]) (by decide) (StartMO.m (by simp [tabE]) (by decide) (StartMO.m (by simp [tabE]) (by decide) (StartMO.mo (by simp [tabE]) (by decide) (StartMO.mo (by simp [tabE]) (by decide) StartMO.nil))))))))))) fun w₀ hM => ?_
 have htab := tabE_hi fun p hp => hM p (List.mem_append_left _ hp)
 refine GS (TN 0 (RN ?_));refine ZB 1000005 rfl fun b5 ⟨hBb5, hb5⟩ => ?_
 refine TN 1 (RN ?_);refine ZB 1000006 rfl fun b6 ⟨hBb6, hb6⟩ => ?_
 refine TN 2 (RN ?_);refine ZB 1000007 rfl fun b7 ⟨hBb7, hb7⟩ => ?_
 have hlt_b6_b7 := hb7 1000006 b6 _ _ rfl
 refine TL (RVN 3 rfl ?_);refine GS (TN 7 (RM rfl ?_));refine RL 1000005 U40 rfl rfl (size40.of (by rw [List.length_map, hd])) ?_;refine RL 1000006 U69 rfl rfl (size69.of rfl) ?_;refine RS (ok_callMK (Verify_fn n x d hd A₀ T hT c) (SubK.app (SubK.of (Sub.cons rfl (Sub.cons rfl (Sub.cons rfl (Sub.cons rfl KN)))) tabE_v) (SubK.cons (k := 1000501) (by decide) rfl Le.unold SubK.nil)) (A3 rfl rfl rfl)) ?_;refine RVN 3 rfl ?_;refine ZN 1000011 zero51 fun b11 ⟨hBb11, hb11⟩ => ?_
 refine TF 8 (RN ?_);refine ⟨_, eff_storeA (n := 42) (s := 1000011) (size51.of ((verR_fit hT).len)) rfl rfl (RecT.one _) hBb11 rfl (by rw [(verR_fit hT).len]; rfl) (LT 1000005 rfl (LT 1000006 rfl (LT 1000007 rfl (LO 1000501 rfl (LO 1000502 rfl (LeftS.cons (t := 1900000) rfl (Surv.tabH (by omega)) (LQ 1900001 rfl (LQ 1900002 rfl (LQ 1900003 rfl (LW [0,5,6,7,11,20] rfl)))))))))), ?_⟩
 refine TL (RVN 1 rfl ?_);refine QS (GT (RV 2 rfl ?_));refine RZ (.bool true) (congrArg Value.bool (by simpa using ha)) ?_;refine RN (A.yes rfl ?_);refine GV rfl (A.ret (End.ret_then ?_));exact End.ret3V rfl rfl rfl rfl
set_option maxHeartbeats 1000000 in
theorem Coll_b (n x y : Int) (d : List UInt8) (hd : d.length = 32) (A₀ B₀ : Option Addr) (T W : List NodT) (hT : FitT T) (hW : FitT W) (c c' : Nat) (ha : ver n d x T = 0) (hb : ver n d y W ≠ 0)  : FnM Tryz.prog 32 (tabE ++ twoM A₀ T B₀ W) [.v (.int .i64 (n)), .v (aggV (d.map byteV)), .v (aggV [.int .i64 x, .slice A₀ T.length c]), .v (aggV [.int .i64 y, .slice B₀ W.length c'])] (.v (.tuple #[.slice none 0 0, .slice none 0 0, .int .i64 (ver n d y W)])) := by
 refine FnM.ofO Tryz.func32 rfl (by kernel_rfl) Tryz.ntmps32 (by simp) (by decide) (fun w => [(0, .v (.int .i64 (n))), (1, .v (aggV (d.map byteV))), (2, .v (aggV [.int .i64 x, .slice A₀ T.length c])), (3, .v (aggV [.int .i64 y, .slice B₀ W.length c'])), (1900000, tabH 0 ([errT])), (1900001, tab 1 (sizV)), (1900002, tab 2 (H8.list.map u32V)), (1900003, tab 3 (K64.map u32V)), (1000501, old w.heap.size (memR A₀ (nodsV T))), (1000502, old w.heap.size (memR B₀ (nodsV W)))]) (fun w => (StartMO.v rfl (StartMO.v rfl (StartMO.v rfl (StartMO.v rfl (StartMO.m (by simp [tabE]) (by decide) (StartMO.m (by simp [tabE]) (by decide) (StartMO.m (by simp [tabE]) (by decide) (StartMO.m (by simp [tabE]) (by decide) (StartMO.mo (by simp [tabE]) (by decide) (StartMO.mo (by simp [tabE]) (by decide) StartMO.nil))))))))))) fun w₀ hM => ?_
 have htab := tabE_hi fun p hp => hM p (List.mem_append_left _ hp)
 refine GS (TN 0 (RN ?_));refine ZB 1000005 rfl fun b5 ⟨hBb5, hb5⟩ => ?_
 refine TN 1 (RN ?_);refine ZB 1000006 rfl fun b6 ⟨hBb6, hb6⟩ => ?_
 refine TN 2 (RN ?_);refine ZB 1000007 rfl fun b7 ⟨hBb7, hb7⟩ => ?_
 have hlt_b6_b7 := hb7 1000006 b6 _ _ rfl
 refine TL (RVN 3 rfl ?_);refine GS (TN 7 (RM rfl ?_));refine RL 1000005 U40 rfl rfl (size40.of (by rw [List.length_map, hd])) ?_;refine RL 1000006 U69 rfl rfl (size69.of rfl) ?_;refine RS (ok_callMK (Verify_fn n x d hd A₀ T hT c) (SubK.app (SubK.of (Sub.cons rfl (Sub.cons rfl (Sub.cons rfl (Sub.cons rfl KN)))) tabE_v) (SubK.cons (k := 1000501) (by decide) rfl Le.unold SubK.nil)) (A3 rfl rfl rfl)) ?_;refine RVN 3 rfl ?_;refine ZN 1000011 zero51 fun b11 ⟨hBb11, hb11⟩ => ?_
 refine TF 8 (RN ?_);refine ⟨_, eff_storeA (n := 42) (s := 1000011) (size51.of ((verR_fit hT).len)) rfl rfl (RecT.one _) hBb11 rfl (by rw [(verR_fit hT).len]; rfl) (LT 1000005 rfl (LT 1000006 rfl (LT 1000007 rfl (LO 1000501 rfl (LO 1000502 rfl (LeftS.cons (t := 1900000) rfl (Surv.tabH (by omega)) (LQ 1900001 rfl (LQ 1900002 rfl (LQ 1900003 rfl (LW [0,5,6,7,11,20] rfl)))))))))), ?_⟩
 refine TL (RVN 1 rfl ?_);refine QS (GT (RV 2 rfl ?_));refine RZ (.bool false) (congrArg Value.bool (by simp [ha])) ?_;refine RN (A.no rfl ?_);refine QK (GS (TN 7 (RM rfl ?_)));refine RL 1000005 U40 rfl rfl (size40.of (by rw [List.length_map, hd])) ?_;refine RL 1000007 U69 rfl rfl (size69.of rfl) ?_;refine RS (ok_callMK (Verify_fn n y d hd B₀ W hW c') (SubK.app (SubK.of (Sub.cons rfl (Sub.cons rfl (Sub.cons rfl (Sub.cons rfl KN)))) tabE_v) (SubK.cons (k := 1000502) (by decide) rfl Le.unold SubK.nil)) (A3 rfl rfl rfl)) ?_;refine RVN 3 rfl ?_;refine ZN 1000013 zero51 fun b13 ⟨hBb13, hb13⟩ => ?_
 have hlt_b11_b13 := hb13 1000011 b11 _ _ rfl
 refine TF 8 (RN ?_);refine ⟨_, eff_storeA (n := 42) (s := 1000013) (size51.of ((verR_fit hW).len)) rfl rfl (RecT.one _) hBb13 rfl (by rw [(verR_fit hW).len]; rfl) (LT 1000005 rfl (LT 1000006 rfl (LT 1000007 rfl (LB 1000011 rfl (LO 1000501 rfl (LO 1000502 rfl (LeftS.cons (t := 1900000) rfl (Surv.tabH (by omega)) (LQ 1900001 rfl (LQ 1900002 rfl (LQ 1900003 rfl (LW [6,7,11,13,30] rfl))))))))))), ?_⟩
 refine TL (RVN 1 rfl ?_);refine A.sub (Sv [6,7,11,12,13,1000005,1000006,1000007,1000011,1000013,1000501,1000502,1900000,1900001,1900002,1900003] rfl) ?_;refine QS (GT (RV 2 rfl ?_));refine RZ (.bool true) (congrArg Value.bool (by simpa using hb)) ?_;refine RN (A.yes rfl ?_);refine GV rfl (A.ret (End.ret_then ?_));exact End.ret3V rfl rfl rfl rfl
set_option maxHeartbeats 1000000 in
theorem Coll_x (n x y : Int) (d : List UInt8) (hd : d.length = 32) (A₀ B₀ : Option Addr) (T W : List NodT) (hT : FitT T) (hW : FitT W) (c c' : Nat) (ha : ver n d x T = 0) (hb : ver n d y W = 0) (h : x ≠ y)  : FnM Tryz.prog 32 (tabE ++ twoM A₀ T B₀ W) [.v (.int .i64 (n)), .v (aggV (d.map byteV)), .v (aggV [.int .i64 x, .slice A₀ T.length c]), .v (aggV [.int .i64 y, .slice B₀ W.length c'])] (.v (.tuple #[.slice none 0 0, .slice none 0 0, .int .i64 1])) := by
 refine FnM.ofO Tryz.func32 rfl (by kernel_rfl) Tryz.ntmps32 (by simp) (by decide) (fun w => [(0, .v (.int .i64 (n))), (1, .v (aggV (d.map byteV))), (2, .v (aggV [.int .i64 x, .slice A₀ T.length c])), (3, .v (aggV [.int .i64 y, .slice B₀ W.length c'])), (1900000, tabH 0 ([errT])), (1900001, tab 1 (sizV)), (1900002, tab 2 (H8.list.map u32V)), (1900003, tab 3 (K64.map u32V)), (1000501, old w.heap.size (memR A₀ (nodsV T))), (1000502, old w.heap.size (memR B₀ (nodsV W)))]) (fun w => (StartMO.v rfl (StartMO.v rfl (StartMO.v rfl (StartMO.v rfl (StartMO.m (by simp [tabE]) (by decide) (StartMO.m (by simp [tabE]) (by decide) (StartMO.m (by simp [tabE]) (by decide) (StartMO.m (by simp [tabE]) (by decide) (StartMO.mo (by simp [tabE]) (by decide) (StartMO.mo (by simp [tabE]) (by decide) StartMO.nil))))))))))) fun w₀ hM => ?_
 have htab := tabE_hi fun p hp => hM p (List.mem_append_left _ hp)
 refine GS (TN 0 (RN ?_));refine ZB 1000005 rfl fun b5 ⟨hBb5, hb5⟩ => ?_
 refine TN 1 (RN ?_);refine ZB 1000006 rfl fun b6 ⟨hBb6, hb6⟩ => ?_
 refine TN 2 (RN ?_);refine ZB 1000007 rfl fun b7 ⟨hBb7, hb7⟩ => ?_
 have hlt_b6_b7 := hb7 1000006 b6 _ _ rfl
 refine TL (RVN 3 rfl ?_);refine GS (TN 7 (RM rfl ?_));refine RL 1000005 U40 rfl rfl (size40.of (by rw [List.length_map, hd])) ?_;refine RL 1000006 U69 rfl rfl (size69.of rfl) ?_;refine RS (ok_callMK (Verify_fn n x d hd A₀ T hT c) (SubK.app (SubK.of (Sub.cons rfl (Sub.cons rfl (Sub.cons rfl (Sub.cons rfl KN)))) tabE_v) (SubK.cons (k := 1000501) (by decide) rfl Le.unold SubK.nil)) (A3 rfl rfl rfl)) ?_;refine RVN 3 rfl ?_;refine ZN 1000011 zero51 fun b11 ⟨hBb11, hb11⟩ => ?_
 refine TF 8 (RN ?_);refine ⟨_, eff_storeA (n := 42) (s := 1000011) (size51.of ((verR_fit hT).len)) rfl rfl (RecT.one _) hBb11 rfl (by rw [(verR_fit hT).len]; rfl) (LT 1000005 rfl (LT 1000006 rfl (LT 1000007 rfl (LO 1000501 rfl (LO 1000502 rfl (LeftS.cons (t := 1900000) rfl (Surv.tabH (by omega)) (LQ 1900001 rfl (LQ 1900002 rfl (LQ 1900003 rfl (LW [0,5,6,7,11,20] rfl)))))))))), ?_⟩
 refine TL (RVN 1 rfl ?_);refine QS (GT (RV 2 rfl ?_));refine RZ (.bool false) (congrArg Value.bool (by simp [ha])) ?_;refine RN (A.no rfl ?_);refine QK (GS (TN 7 (RM rfl ?_)));refine RL 1000005 U40 rfl rfl (size40.of (by rw [List.length_map, hd])) ?_;refine RL 1000007 U69 rfl rfl (size69.of rfl) ?_;refine RS (ok_callMK (Verify_fn n y d hd B₀ W hW c') (SubK.app (SubK.of (Sub.cons rfl (Sub.cons rfl (Sub.cons rfl (Sub.cons rfl KN)))) tabE_v) (SubK.cons (k := 1000502) (by decide) rfl Le.unold SubK.nil)) (A3 rfl rfl rfl)) ?_;refine RVN 3 rfl ?_;refine ZN 1000013 zero51 fun b13 ⟨hBb13, hb13⟩ => ?_
 have hlt_b11_b13 := hb13 1000011 b11 _ _ rfl
 refine TF 8 (RN ?_);refine ⟨_, eff_storeA (n := 42) (s := 1000013) (size51.of ((verR_fit hW).len)) rfl rfl (RecT.one _) hBb13 rfl (by rw [(verR_fit hW).len]; rfl) (LT 1000005 rfl (LT 1000006 rfl (LT 1000007 rfl (LB 1000011 rfl (LO 1000501 rfl (LO 1000502 rfl (LeftS.cons (t := 1900000) rfl (Surv.tabH (by omega)) (LQ 1900001 rfl (LQ 1900002 rfl (LQ 1900003 rfl (LW [6,7,11,13,30] rfl))))))))))), ?_⟩
 refine TL (RVN 1 rfl ?_);refine A.sub (Sv [6,7,11,12,13,1000005,1000006,1000007,1000011,1000013,1000501,1000502,1900000,1900001,1900002,1900003] rfl) ?_;refine QS (GT (RV 2 rfl ?_));refine RZ (.bool false) (congrArg Value.bool (by simp [hb])) ?_;refine RN (A.no rfl ?_);refine QK (GT (RL 1000006 U69 rfl rfl (size69.of rfl) ?_));refine RL 1000007 U69 rfl rfl (size69.of rfl) ?_;refine RL 1000011 U51 rfl rfl (size51.of ((verR_fit hT).len)) ?_;refine RL 1000013 U51 rfl rfl (size51.of ((verR_fit hW).len)) ?_;refine RS (ok_callMK (coll_x x y A₀ B₀ T W hT hW c c' (verR n d x T) (verR n d y W) (verR_fit hT) (verR_fit hW) h) (SubK.app (SubK.of (Sub.cons rfl KN) tabS_v) (SubK.cons (k := 1000501) (by decide) rfl Le.unold (SubK.cons (k := 1000502) (by decide) rfl Le.unold SubK.nil))) (Args.cons rfl (Le.refl _) (A3 rfl rfl rfl))) ?_;refine RVN 6 rfl ?_;refine A.ret ?_;exact End.ret3V rfl rfl rfl rfl
set_option maxHeartbeats 1000000 in
theorem Coll_r (n x : Int) (d : List UInt8) (hd : d.length = 32) (A₀ B₀ : Option Addr) (T W : List NodT) (hT : FitT T) (hW : FitT W) (c c' : Nat) (ha : ver n d x T = 0) (hb : ver n d x W = 0) (h : (verR n d x T) = (verR n d x W))  : FnM Tryz.prog 32 (tabE ++ twoM A₀ T B₀ W) [.v (.int .i64 (n)), .v (aggV (d.map byteV)), .v (aggV [.int .i64 x, .slice A₀ T.length c]), .v (aggV [.int .i64 x, .slice B₀ W.length c'])] (.v (.tuple #[.slice none 0 0, .slice none 0 0, .int .i64 11])) := by
 refine FnM.ofO Tryz.func32 rfl (by kernel_rfl) Tryz.ntmps32 (by simp) (by decide) (fun w => [(0, .v (.int .i64 (n))), (1, .v (aggV (d.map byteV))), (2, .v (aggV [.int .i64 x, .slice A₀ T.length c])), (3, .v (aggV [.int .i64 x, .slice B₀ W.length c'])), (1900000, tabH 0 ([errT])), (1900001, tab 1 (sizV)), (1900002, tab 2 (H8.list.map u32V)), (1900003, tab 3 (K64.map u32V)), (1000501, old w.heap.size (memR A₀ (nodsV T))), (1000502, old w.heap.size (memR B₀ (nodsV W)))]) (fun w => (StartMO.v rfl (StartMO.v rfl (StartMO.v rfl (StartMO.v rfl (StartMO.m (by simp [tabE]) (by decide) (StartMO.m (by simp [tabE]) (by decide) (StartMO.m (by simp [tabE]) (by decide) (StartMO.m (by simp [tabE]) (by decide) (StartMO.mo (by simp [tabE]) (by decide) (StartMO.mo (by simp [tabE]) (by decide) StartMO.nil))))))))))) fun w₀ hM => ?_
 have htab := tabE_hi fun p hp => hM p (List.mem_append_left _ hp)
 refine GS (TN 0 (RN ?_));refine ZB 1000005 rfl fun b5 ⟨hBb5, hb5⟩ => ?_
 refine TN 1 (RN ?_);refine ZB 1000006 rfl fun b6 ⟨hBb6, hb6⟩ => ?_
 refine TN 2 (RN ?_);refine ZB 1000007 rfl fun b7 ⟨hBb7, hb7⟩ => ?_
 have hlt_b6_b7 := hb7 1000006 b6 _ _ rfl
 refine TL (RVN 3 rfl ?_);refine GS (TN 7 (RM rfl ?_));refine RL 1000005 U40 rfl rfl (size40.of (by rw [List.length_map, hd])) ?_;refine RL 1000006 U69 rfl rfl (size69.of rfl) ?_;refine RS (ok_callMK (Verify_fn n x d hd A₀ T hT c) (SubK.app (SubK.of (Sub.cons rfl (Sub.cons rfl (Sub.cons rfl (Sub.cons rfl KN)))) tabE_v) (SubK.cons (k := 1000501) (by decide) rfl Le.unold SubK.nil)) (A3 rfl rfl rfl)) ?_;refine RVN 3 rfl ?_;refine ZN 1000011 zero51 fun b11 ⟨hBb11, hb11⟩ => ?_
 refine TF 8 (RN ?_);refine ⟨_, eff_storeA (n := 42) (s := 1000011) (size51.of ((verR_fit hT).len)) rfl rfl (RecT.one _) hBb11 rfl (by rw [(verR_fit hT).len]; rfl) (LT 1000005 rfl (LT 1000006 rfl (LT 1000007 rfl (LO 1000501 rfl (LO 1000502 rfl (LeftS.cons (t := 1900000) rfl (Surv.tabH (by omega)) (LQ 1900001 rfl (LQ 1900002 rfl (LQ 1900003 rfl (LW [0,5,6,7,11,20] rfl)))))))))), ?_⟩
 refine TL (RVN 1 rfl ?_);refine QS (GT (RV 2 rfl ?_));refine RZ (.bool false) (congrArg Value.bool (by simp [ha])) ?_;refine RN (A.no rfl ?_);refine QK (GS (TN 7 (RM rfl ?_)));refine RL 1000005 U40 rfl rfl (size40.of (by rw [List.length_map, hd])) ?_;refine RL 1000007 U69 rfl rfl (size69.of rfl) ?_;refine RS (ok_callMK (Verify_fn n x d hd B₀ W hW c') (SubK.app (SubK.of (Sub.cons rfl (Sub.cons rfl (Sub.cons rfl (Sub.cons rfl KN)))) tabE_v) (SubK.cons (k := 1000502) (by decide) rfl Le.unold SubK.nil)) (A3 rfl rfl rfl)) ?_;refine RVN 3 rfl ?_;refine ZN 1000013 zero51 fun b13 ⟨hBb13, hb13⟩ => ?_
 have hlt_b11_b13 := hb13 1000011 b11 _ _ rfl
 refine TF 8 (RN ?_);refine ⟨_, eff_storeA (n := 42) (s := 1000013) (size51.of ((verR_fit hW).len)) rfl rfl (RecT.one _) hBb13 rfl (by rw [(verR_fit hW).len]; rfl) (LT 1000005 rfl (LT 1000006 rfl (LT 1000007 rfl (LB 1000011 rfl (LO 1000501 rfl (LO 1000502 rfl (LeftS.cons (t := 1900000) rfl (Surv.tabH (by omega)) (LQ 1900001 rfl (LQ 1900002 rfl (LQ 1900003 rfl (LW [6,7,11,13,30] rfl))))))))))), ?_⟩
 refine TL (RVN 1 rfl ?_);refine A.sub (Sv [6,7,11,12,13,1000005,1000006,1000007,1000011,1000013,1000501,1000502,1900000,1900001,1900002,1900003] rfl) ?_;refine QS (GT (RV 2 rfl ?_));refine RZ (.bool false) (congrArg Value.bool (by simp [hb])) ?_;refine RN (A.no rfl ?_);refine QK (GT (RL 1000006 U69 rfl rfl (size69.of rfl) ?_));refine RL 1000007 U69 rfl rfl (size69.of rfl) ?_;refine RL 1000011 U51 rfl rfl (size51.of ((verR_fit hT).len)) ?_;refine RL 1000013 U51 rfl rfl (size51.of ((verR_fit hW).len)) ?_;refine RS (ok_callMK (coll_r x A₀ B₀ T W hT hW c c' (verR n d x T) (verR n d x W) (verR_fit hT) (verR_fit hW) h) (SubK.app (SubK.of (Sub.cons rfl KN) tabS_v) (SubK.cons (k := 1000501) (by decide) rfl Le.unold (SubK.cons (k := 1000502) (by decide) rfl Le.unold SubK.nil))) (Args.cons rfl (Le.refl _) (A3 rfl rfl rfl))) ?_;refine RVN 6 rfl ?_;refine A.ret ?_;exact End.ret3V rfl rfl rfl rfl
set_option maxHeartbeats 1000000 in
theorem Coll_at (n x : Int) (d : List UInt8) (hd : d.length = 32) (A₀ B₀ : Option Addr) (T W : List NodT) (hT : FitT T) (hW : FitT W) (c c' : Nat) (ha : ver n d x T = 0) (hb : ver n d x W = 0) (hrs : (verR n d x T) ≠ (verR n d x W)) (hsm : T.length ≤ 1000000) (k : Nat) (hk1 : k < T.length) (hk2 : k < W.length) (h : ∀ i, i < k → ndAt T i = ndAt W i) (hne : ndAt T k ≠ ndAt W k) (hcT : (ndAt T k).ck = 0) (hcW : (ndAt W k).ck = 0)  : FnM Tryz.prog 32 (tabE ++ twoM A₀ T B₀ W) [.v (.int .i64 (n)), .v (aggV (d.map byteV)), .v (aggV [.int .i64 x, .slice A₀ T.length c]), .v (aggV [.int .i64 x, .slice B₀ W.length c'])] (tup [bytes (ndAt T k).bl (NodT.sz (ndAt T k).l.toNat), bytes (ndAt W k).bl (NodT.sz (ndAt W k).l.toNat), .v (.int .i64 0)]) := by
 refine FnM.ofO Tryz.func32 rfl (by kernel_rfl) Tryz.ntmps32 (by simp) (by decide) (fun w => [(0, .v (.int .i64 (n))), (1, .v (aggV (d.map byteV))), (2, .v (aggV [.int .i64 x, .slice A₀ T.length c])), (3, .v (aggV [.int .i64 x, .slice B₀ W.length c'])), (1900000, tabH 0 ([errT])), (1900001, tab 1 (sizV)), (1900002, tab 2 (H8.list.map u32V)), (1900003, tab 3 (K64.map u32V)), (1000501, old w.heap.size (memR A₀ (nodsV T))), (1000502, old w.heap.size (memR B₀ (nodsV W)))]) (fun w => (StartMO.v rfl (StartMO.v rfl (StartMO.v rfl (StartMO.v rfl (StartMO.m (by simp [tabE]) (by decide) (StartMO.m (by simp [tabE]) (by decide) (StartMO.m (by simp [tabE]) (by decide) (StartMO.m (by simp [tabE]) (by decide) (StartMO.mo (by simp [tabE]) (by decide) (StartMO.mo (by simp [tabE]) (by decide) StartMO.nil))))))))))) fun w₀ hM => ?_
 have htab := tabE_hi fun p hp => hM p (List.mem_append_left _ hp)
 refine GS (TN 0 (RN ?_));refine ZB 1000005 rfl fun b5 ⟨hBb5, hb5⟩ => ?_
 refine TN 1 (RN ?_);refine ZB 1000006 rfl fun b6 ⟨hBb6, hb6⟩ => ?_
 refine TN 2 (RN ?_);refine ZB 1000007 rfl fun b7 ⟨hBb7, hb7⟩ => ?_
 have hlt_b6_b7 := hb7 1000006 b6 _ _ rfl
 refine TL (RVN 3 rfl ?_);refine GS (TN 7 (RM rfl ?_));refine RL 1000005 U40 rfl rfl (size40.of (by rw [List.length_map, hd])) ?_;refine RL 1000006 U69 rfl rfl (size69.of rfl) ?_;refine RS (ok_callMK (Verify_fn n x d hd A₀ T hT c) (SubK.app (SubK.of (Sub.cons rfl (Sub.cons rfl (Sub.cons rfl (Sub.cons rfl KN)))) tabE_v) (SubK.cons (k := 1000501) (by decide) rfl Le.unold SubK.nil)) (A3 rfl rfl rfl)) ?_;refine RVN 3 rfl ?_;refine ZN 1000011 zero51 fun b11 ⟨hBb11, hb11⟩ => ?_
 refine TF 8 (RN ?_);refine ⟨_, eff_storeA (n := 42) (s := 1000011) (size51.of ((verR_fit hT).len)) rfl rfl (RecT.one _) hBb11 rfl (by rw [(verR_fit hT).len]; rfl) (LT 1000005 rfl (LT 1000006 rfl (LT 1000007 rfl (LO 1000501 rfl (LO 1000502 rfl (LeftS.cons (t := 1900000) rfl (Surv.tabH (by omega)) (LQ 1900001 rfl (LQ 1900002 rfl (LQ 1900003 rfl (LW [0,5,6,7,11,20] rfl)))))))))), ?_⟩
 refine TL (RVN 1 rfl ?_);refine QS (GT (RV 2 rfl ?_));refine RZ (.bool false) (congrArg Value.bool (by simp [ha])) ?_;refine RN (A.no rfl ?_);refine QK (GS (TN 7 (RM rfl ?_)));refine RL 1000005 U40 rfl rfl (size40.of (by rw [List.length_map, hd])) ?_;refine RL 1000007 U69 rfl rfl (size69.of rfl) ?_;refine RS (ok_callMK (Verify_fn n x d hd B₀ W hW c') (SubK.app (SubK.of (Sub.cons rfl (Sub.cons rfl (Sub.cons rfl (Sub.cons rfl KN)))) tabE_v) (SubK.cons (k := 1000502) (by decide) rfl Le.unold SubK.nil)) (A3 rfl rfl rfl)) ?_;refine RVN 3 rfl ?_;refine ZN 1000013 zero51 fun b13 ⟨hBb13, hb13⟩ => ?_
 have hlt_b11_b13 := hb13 1000011 b11 _ _ rfl
 refine TF 8 (RN ?_);refine ⟨_, eff_storeA (n := 42) (s := 1000013) (size51.of ((verR_fit hW).len)) rfl rfl (RecT.one _) hBb13 rfl (by rw [(verR_fit hW).len]; rfl) (LT 1000005 rfl (LT 1000006 rfl (LT 1000007 rfl (LB 1000011 rfl (LO 1000501 rfl (LO 1000502 rfl (LeftS.cons (t := 1900000) rfl (Surv.tabH (by omega)) (LQ 1900001 rfl (LQ 1900002 rfl (LQ 1900003 rfl (LW [6,7,11,13,30] rfl))))))))))), ?_⟩
 refine TL (RVN 1 rfl ?_);refine A.sub (Sv [6,7,11,12,13,1000005,1000006,1000007,1000011,1000013,1000501,1000502,1900000,1900001,1900002,1900003] rfl) ?_;refine QS (GT (RV 2 rfl ?_));refine RZ (.bool false) (congrArg Value.bool (by simp [hb])) ?_;refine RN (A.no rfl ?_);refine QK (GT (RL 1000006 U69 rfl rfl (size69.of rfl) ?_));refine RL 1000007 U69 rfl rfl (size69.of rfl) ?_;refine RL 1000011 U51 rfl rfl (size51.of ((verR_fit hT).len)) ?_;refine RL 1000013 U51 rfl rfl (size51.of ((verR_fit hW).len)) ?_;refine RS (ok_callMK (coll_at x A₀ B₀ T W hT hW c c' (verR n d x T) (verR n d x W) (verR_fit hT) (verR_fit hW) hrs hsm k hk1 hk2 h hne hcT hcW) (SubK.app (SubK.of (Sub.cons rfl KN) tabS_v) (SubK.cons (k := 1000501) (by decide) rfl Le.unold (SubK.cons (k := 1000502) (by decide) rfl Le.unold SubK.nil))) (Args.cons rfl (Le.refl _) (A3 rfl rfl rfl))) ?_;refine RS (ok_extract rfl rfl) ?_;refine RS (ok_extract rfl rfl) ?_;refine RS (ok_extract rfl rfl) ?_;refine RVN 3 rfl ?_;refine A.ret ?_;exact End.ret3 rfl rfl (Le.refl _) rfl (Le.refl _) rfl (Le.refl _)
end
theorem un_one {n h : Nat} (hh : h ≤ hg n) (h0 : un n (h + 1) = 1) : h = hg n := by
 rcases Nat.lt_or_ge h (hg n) with h1 | h1
 ·have := un_big (n := n) (k := h + 1) (by omega) (by omega)
  omega
 ·omega
theorem rCount_fn (n : Nat) (h1 : 1 ≤ n) (h2 : n ≤ 4096) (l : Nat) (hl : l ≤ hg n) : Fn Tryz.prog 44 [.v (nI (n)), .v (nI (l))] (.v (nI (un n (l + 1)))) := by
 have hh := hg_le n
 refine FV Tryz.func44 rfl Tryz.ntmps44 rfl fun w₀ => ?_
 refine GV rfl (GV rfl (QS (GV rfl (A.block ?_))));refine A.loop (ι := Nat) (fun i => i ≤ l + 1) (fun i => [(0, .v (nI (n))), (1, .v (nI (l))), (5, .v (nI (un n i))), (6, .v (nI (i)))]) (fun i => l + 1 - i) 0 ?_ ?_ ?_
 ·exact Nat.zero_le _
 ·exact (Sv [0,1,5,6] rfl)
 intro i hi
 have hu0 := un_le h1 (i)
 have hv0 := un_pos h1 (i)
 have hu1 := un_le h1 (i + 1)
 have hv1 := un_pos h1 (i + 1)
 refine QS (GV rfl ?_);refine A.cond rfl (fun hc10 => ?_) (fun hc10 => ?_)
 ·have hlt : i ≤ l := by simp at hc10; omega
  refine QK (QSB (QS ?_))
  by_cases hi0 : 0 < i
  ·refine GT (RV 2 rfl ?_);refine RT ?_;refine RV 3 rfl ?_;refine RZ (.bool false) (by have := un_big (n := n) (k := i) (by omega) (by omega); simp; omega) ?_;refine RVN 1 rfl ?_;refine A.no rfl ?_;refine QK (GTE (RV 2 rfl ?_));refine RZ (nI (un n i + 3)) (wrap_eq (by omega) (by omega)) ?_;refine RS (ok_div rfl rfl (by decide)) ?_;refine RZ (nI (un n (i + 1))) (by rw [tdiv_lit _ (by decide)]; exact wrap_eq rfl (by omega)) ?_;refine RVN 1 rfl ?_;refine End.normal_block (EN (GTE (RV 2 rfl ?_)));refine RZ (nI (i + 1)) (wrap_eq (by omega) (by omega)) ?_;refine RVN 1 rfl ?_;refine End.normal_then ?_;refine End.again (i + 1) ?_ ?_ ?_
   ·show _ ≤ _; omega
   ·show _ - _ < _ - _; omega
   ·exact (Sv [0,1,5,6] rfl)
  ·refine GT (RV 2 rfl ?_);refine RF ?_;refine RVN 4 rfl ?_;refine A.no rfl ?_;refine QK (GTE (RV 2 rfl ?_));refine RZ (nI (un n i + 3)) (wrap_eq (by omega) (by omega)) ?_;refine RS (ok_div rfl rfl (by decide)) ?_;refine RZ (nI (un n (i + 1))) (by rw [tdiv_lit _ (by decide)]; exact wrap_eq rfl (by omega)) ?_;refine RVN 1 rfl ?_;refine End.normal_block (EN (GTE (RV 2 rfl ?_)));refine RZ (nI (i + 1)) (wrap_eq (by omega) (by omega)) ?_;refine RVN 1 rfl ?_;refine End.normal_then ?_;refine End.again (i + 1) ?_ ?_ ?_
   ·show _ ≤ _; omega
   ·show _ - _ < _ - _; omega
   ·exact (Sv [0,1,5,6] rfl)
 ·have hie : i = l + 1 := by simp at hc10; omega
  refine A.exit (End.exit_then (End.exit_then (End.exit_here (EN (GT (RM rfl ?_))))));refine RZ (nI (un n (l + 1))) (by rw [hie]) ?_;refine RVN 1 rfl ?_;refine A.ret ?_;exact ER rfl rfl
theorem rHeight_fn (n : Nat) (h1 : 1 ≤ n) (h2 : n ≤ 4096)  : Fn Tryz.prog 26 [.v (nI (n))] (.v (nI (hg n))) := by
 have hh := hg_le n
 refine FV Tryz.func26 rfl Tryz.ntmps26 rfl fun w₀ => ?_
 refine GV rfl (GV rfl (QSB ?_));refine A.loop (ι := Nat) (fun h => h ≤ hg n) (fun h => [(0, .v (nI (n))), (3, .v (nI (h)))]) (fun h => hg n - h) 0 ?_ ?_ ?_
 ·exact Nat.zero_le _
 ·exact (Sv [0,3] rfl)
 intro h hle
 refine QS (GT (RV 2 rfl ?_));refine RS (ok_call (rCount_fn n h1 h2 h hle) (A2 rfl rfl)) ?_;refine RVN 1 rfl ?_;refine A.cond rfl (fun hc7 => ?_) (fun hc7 => ?_)
 ·have hlt : h < hg n := by
   have h3 := un_root h1 h2
   have h4 : un n (h + 1) ≠ 1 := by simp at hc7; omega
   rcases Nat.lt_or_ge h (hg n) with h5 | h5
   ·exact h5
   ·obtain rfl : h = hg n := by omega
    exact absurd h3 h4
  refine QK (A.block (GTE (RV 2 rfl ?_)));refine RZ (nI (h + 1)) (wrap_eq (by omega) (by omega)) ?_;refine RVN 1 rfl ?_;refine End.normal_block (End.normal_then ?_);refine End.again (h + 1) ?_ ?_ ?_
  ·show _ ≤ _; omega
  ·show _ - _ < _ - _; omega
  ·exact (Sv [0,3] rfl)
 ·have hie : h = hg n := un_one hle (by simp at hc7; omega)
  refine A.exit (End.exit_then (End.exit_then (End.exit_here (EN (GT (RM rfl ?_))))));refine RZ (nI (hg n)) (by rw [hie]) ?_;refine RVN 1 rfl ?_;refine A.ret ?_;exact ER rfl rfl
theorem rIs_y (n : Nat) (h1 : 1 ≤ n) (h2 : n ≤ 4096) (l j : Nat) (hl : l ≤ hg n) (hj : j < un n (l + 1))  : Fn Tryz.prog 30 [.v (nI (n)), .v (nI (l)), .v (nI (j))] (.v (.bool true)) := by
 have hh := hg_le n
 refine FV Tryz.func30 rfl Tryz.ntmps30 rfl fun w₀ => ?_
 refine GV rfl (GT (RV 2 rfl ?_));refine RT ?_;refine RV 3 rfl ?_;refine RQ (ok_call (rHeight_fn n h1 h2) (A1 rfl)) ?_;refine RQ (ok_bin rfl rfl rfl) ?_;refine RT ?_;refine RV 4 rfl ?_;refine RT ?_;refine RV 5 rfl ?_;refine RQ (ok_call (rCount_fn n h1 h2 l hl) (A2 rfl rfl)) ?_;refine RQ (ok_bin rfl rfl rfl) ?_;refine RT ?_;refine RVN 2 rfl ?_;refine A.ret ?_;exact ER rfl rfl
theorem rIs_1 (n : Nat) (h1 : 1 ≤ n) (h2 : n ≤ 4096) (l j : Int) (h : ¬ 0 ≤ l) : Fn Tryz.prog 30 [.v (nI (n)), .v (.int .i64 (l)), .v (.int .i64 (j))] (.v (.bool false)) := by
 refine FV Tryz.func30 rfl Tryz.ntmps30 rfl fun w₀ => ?_
 refine GV rfl (GT (RV 2 rfl ?_));refine RF ?_;refine RVN 18 rfl ?_;refine A.ret ?_;exact ER rfl rfl
theorem rIs_2 (n : Nat) (h1 : 1 ≤ n) (h2 : n ≤ 4096) (l j : Int) (h : 0 ≤ l) (h' : ¬ l ≤ hg n) : Fn Tryz.prog 30 [.v (nI (n)), .v (.int .i64 (l)), .v (.int .i64 (j))] (.v (.bool false)) := by
 refine FV Tryz.func30 rfl Tryz.ntmps30 rfl fun w₀ => ?_
 refine GV rfl (GT (RV 2 rfl ?_));refine RT ?_;refine RV 3 rfl ?_;refine RQ (ok_call (rHeight_fn n h1 h2) (A1 rfl)) ?_;refine RQ (ok_bin rfl rfl rfl) ?_;refine RF ?_;refine RVN 13 rfl ?_;refine A.ret ?_;exact ER rfl rfl
theorem rIs_3 (n : Nat) (h1 : 1 ≤ n) (h2 : n ≤ 4096) (l : Nat) (j : Int) (hl : l ≤ hg n) (h : ¬ 0 ≤ j) : Fn Tryz.prog 30 [.v (nI (n)), .v (nI (l)), .v (.int .i64 (j))] (.v (.bool false)) := by
 refine FV Tryz.func30 rfl Tryz.ntmps30 rfl fun w₀ => ?_
 refine GV rfl (GT (RV 2 rfl ?_));refine RT ?_;refine RV 3 rfl ?_;refine RQ (ok_call (rHeight_fn n h1 h2) (A1 rfl)) ?_;refine RQ (ok_bin rfl rfl rfl) ?_;refine RT ?_;refine RV 4 rfl ?_;refine RF ?_;refine RVN 9 rfl ?_;refine A.ret ?_;exact ER rfl rfl
theorem rIs_4 (n : Nat) (h1 : 1 ≤ n) (h2 : n ≤ 4096) (l j : Nat) (hl : l ≤ hg n) (h : ¬ j < un n (l + 1)) : Fn Tryz.prog 30 [.v (nI (n)), .v (nI (l)), .v (nI (j))] (.v (.bool false)) := by
 refine FV Tryz.func30 rfl Tryz.ntmps30 rfl fun w₀ => ?_
 refine GV rfl (GT (RV 2 rfl ?_));refine RT ?_;refine RV 3 rfl ?_;refine RQ (ok_call (rHeight_fn n h1 h2) (A1 rfl)) ?_;refine RQ (ok_bin rfl rfl rfl) ?_;refine RT ?_;refine RV 4 rfl ?_;refine RT ?_;refine RV 5 rfl ?_;refine RQ (ok_call (rCount_fn n h1 h2 l hl) (A2 rfl rfl)) ?_;refine RQ (ok_bin rfl rfl rfl) ?_;refine RF ?_;refine RVN 2 rfl ?_;refine A.ret ?_;exact ER rfl rfl
theorem rIs_n (n : Nat) (h1 : 1 ≤ n) (h2 : n ≤ 4096) (l j : Int) (h : ¬ IsP n l j) : Fn Tryz.prog 30 [.v (nI (n)), .v (.int .i64 (l)), .v (.int .i64 (j))] (.v (.bool false)) := by
 by_cases hl : 0 ≤ l
 ·by_cases hl' : l ≤ hg n
  ·obtain ⟨a, rfl⟩ : ∃ a : Nat, l = (a : Int) := ⟨l.toNat, by omega⟩
   by_cases hj : 0 ≤ j
   ·obtain ⟨b, rfl⟩ : ∃ b : Nat, j = (b : Int) := ⟨j.toNat, by omega⟩
    exact rIs_4 n h1 h2 a b (by omega) fun hb => h ⟨a, b, rfl, rfl, by omega, hb⟩
   ·exact rIs_3 n h1 h2 a j (by omega) hj
  ·exact rIs_2 n h1 h2 l j hl hl'
 ·exact rIs_1 n h1 h2 l j hl
theorem rParts_fn (n : Nat) (h1 : 1 ≤ n) (h2 : n ≤ 4096) (l j : Nat) (hl : l ≤ hg n) (hj : j < un n (l + 1))  : Fn Tryz.prog 59 [.v (nI (n)), .v (nI (l)), .v (nI (j))] (.v (nI (pts n l j))) := by
 have hu0 := un_le h1 (l)
 have hv0 := un_pos h1 (l)
 have hu1 := un_le h1 (l + 1)
 have hv1 := un_pos h1 (l + 1)
 have hh := hg_le n
 have hp := pts_pos hj
 refine FV Tryz.func59 rfl Tryz.ntmps59 rfl fun w₀ => ?_
 refine GV rfl (GV rfl (QS (GV rfl ?_)));refine A.cond rfl (fun hc12 => ?_) (fun hc12 => ?_)
 ·have hl0 : 0 < l := by simp at hc12; omega
  refine GTE (RV 3 rfl ?_);refine RZ (nI (l - 1)) (wrap_eq (by omega) (by omega)) ?_;refine RS (ok_call (rCount_fn n h1 h2 (l - 1) (by omega)) (A2 rfl rfl)) ?_;refine RZ (nI (un n l)) (by rw [show l - 1 + 1 = l from by omega]) ?_;refine RVN 1 rfl ?_;refine EN (GV rfl (QS (GV rfl (A.block ?_))));refine A.loop (ι := Nat) (fun i => i ≤ 4) (fun i => [(2, .v (nI (j))), (7, .v (nI (un n l))), (8, .v (nI (min (un n l - 4 * j) (i)))), (9, .v (nI (i)))]) (fun i => 4 - i) 0 ?_ ?_ ?_
  ·exact Nat.zero_le _
  ·exact (KC 2 rfl (KE 7 rfl (by first | rfl | (rw [hl0]; rfl)) (KE 8 rfl (congrArg (fun z : Int => D.v (.int .i64 z)) (show (0 : Int) = _ by omega)) (KC 9 rfl KN))))
  intro i hi
  refine QS (GV rfl ?_);refine A.cond rfl (fun hc18 => ?_) (fun hc18 => ?_)
  ·have hlt : i < 4 := by simp at hc18; omega
   refine QK (QSB (GT (RV 2 rfl ?_)));refine RZ (nI (4 * j)) (wrap_eq (by omega) (by omega)) ?_;refine RV 2 rfl ?_;refine RZ (nI (4 * j + i)) (wrap_eq (by omega) (by omega)) ?_;refine RVN 2 rfl ?_;refine A.cond rfl (fun hc26 => ?_) (fun hc26 => ?_)
   ·have hin : 4 * j + i < un n l := by simp at hc26; omega
    refine GTE (RV 2 rfl ?_);refine RZ (nI (min (un n l - 4 * j) (i + 1))) (wrap_eq (by omega) (by omega)) ?_;refine RVN 1 rfl ?_;refine End.normal_block (EN (GTE (RV 2 rfl ?_)));refine RZ (nI (i + 1)) (wrap_eq (by omega) (by omega)) ?_;refine RVN 1 rfl ?_;refine End.normal_then ?_;refine End.again (i + 1) ?_ ?_ ?_
    ·show _ ≤ _; omega
    ·show _ - _ < _ - _; omega
    ·exact (KC 2 rfl (KC 7 rfl (KE 8 rfl (by first | rfl | exact congrArg (fun z : Int => D.v (.int .i64 z)) (by omega)) (KC 9 rfl KN))))
   ·have hin : ¬ 4 * j + i < un n l := by simp at hc26; omega
    refine A.skip (End.normal_block (EN (GTE (RV 2 rfl ?_))));refine RZ (nI (i + 1)) (wrap_eq (by omega) (by omega)) ?_;refine RVN 1 rfl ?_;refine End.normal_then ?_;refine End.again (i + 1) ?_ ?_ ?_
    ·show _ ≤ _; omega
    ·show _ - _ < _ - _; omega
    ·exact (KC 2 rfl (KC 7 rfl (KE 8 rfl (by first | rfl | exact congrArg (fun z : Int => D.v (.int .i64 z)) (by omega)) (KC 9 rfl KN))))
  ·have hie : i = 4 := by simp at hc18; omega
   refine A.exit (End.exit_then (End.exit_then (End.exit_here (EN (GT (RM rfl ?_))))));refine RZ (nI (pts n l j)) (congrArg (Value.int .i64) (by unfold pts; omega)) ?_;refine RVN 1 rfl ?_;refine A.ret ?_;exact ER rfl rfl
 ·have hl0 : l = 0 := by simp at hc12; omega
  refine QK (GV rfl (QS (GV rfl (A.block ?_))));refine A.loop (ι := Nat) (fun i => i ≤ 4) (fun i => [(2, .v (nI (j))), (7, .v (nI (un n l))), (8, .v (nI (min (un n l - 4 * j) (i)))), (9, .v (nI (i)))]) (fun i => 4 - i) 0 ?_ ?_ ?_
  ·exact Nat.zero_le _
  ·exact (KC 2 rfl (KE 7 rfl (by first | rfl | (rw [hl0]; rfl)) (KE 8 rfl (congrArg (fun z : Int => D.v (.int .i64 z)) (show (0 : Int) = _ by omega)) (KC 9 rfl KN))))
  intro i hi
  refine QS (GV rfl ?_);refine A.cond rfl (fun hc18 => ?_) (fun hc18 => ?_)
  ·have hlt : i < 4 := by simp at hc18; omega
   refine QK (QSB (GT (RV 2 rfl ?_)));refine RZ (nI (4 * j)) (wrap_eq (by omega) (by omega)) ?_;refine RV 2 rfl ?_;refine RZ (nI (4 * j + i)) (wrap_eq (by omega) (by omega)) ?_;refine RVN 2 rfl ?_;refine A.cond rfl (fun hc26 => ?_) (fun hc26 => ?_)
   ·have hin : 4 * j + i < un n l := by simp at hc26; omega
    refine GTE (RV 2 rfl ?_);refine RZ (nI (min (un n l - 4 * j) (i + 1))) (wrap_eq (by omega) (by omega)) ?_;refine RVN 1 rfl ?_;refine End.normal_block (EN (GTE (RV 2 rfl ?_)));refine RZ (nI (i + 1)) (wrap_eq (by omega) (by omega)) ?_;refine RVN 1 rfl ?_;refine End.normal_then ?_;refine End.again (i + 1) ?_ ?_ ?_
    ·show _ ≤ _; omega
    ·show _ - _ < _ - _; omega
    ·exact (KC 2 rfl (KC 7 rfl (KE 8 rfl (by first | rfl | exact congrArg (fun z : Int => D.v (.int .i64 z)) (by omega)) (KC 9 rfl KN))))
   ·have hin : ¬ 4 * j + i < un n l := by simp at hc26; omega
    refine A.skip (End.normal_block (EN (GTE (RV 2 rfl ?_))));refine RZ (nI (i + 1)) (wrap_eq (by omega) (by omega)) ?_;refine RVN 1 rfl ?_;refine End.normal_then ?_;refine End.again (i + 1) ?_ ?_ ?_
    ·show _ ≤ _; omega
    ·show _ - _ < _ - _; omega
    ·exact (KC 2 rfl (KC 7 rfl (KE 8 rfl (by first | rfl | exact congrArg (fun z : Int => D.v (.int .i64 z)) (by omega)) (KC 9 rfl KN))))
  ·have hie : i = 4 := by simp at hc18; omega
   refine A.exit (End.exit_then (End.exit_then (End.exit_here (EN (GT (RM rfl ?_))))));refine RZ (nI (pts n l j)) (congrArg (Value.int .i64) (by unfold pts; omega)) ?_;refine RVN 1 rfl ?_;refine A.ret ?_;exact ER rfl rfl
theorem rIndex_fn (x l : Nat) (hx : x < 4096) (hl : l ≤ 5) : Fn Tryz.prog 28 [.v (nI (x)), .v (nI (l))] (.v (nI (x / 4 ^ (l + 1)))) := by
 refine FV Tryz.func28 rfl Tryz.ntmps28 rfl fun w₀ => ?_
 refine GV rfl (GT (RM rfl ?_));refine RS (ok_div rfl rfl (by decide)) ?_;refine RZ (nI (x / 4 ^ (0 + 1))) (by rw [tdiv_lit _ (by decide)]; exact wrap_eq (by simp) (by omega)) ?_;refine RVN 1 rfl ?_;refine QS (GV rfl (A.block ?_));refine A.loop (ι := Nat) (fun i => i ≤ l) (fun i => [(1, .v (nI (l))), (5, .v (nI (x / 4 ^ (i + 1)))), (6, .v (nI (i)))]) (fun i => l - i) 0 ?_ ?_ ?_
 ·exact Nat.zero_le _
 ·exact (Sv [1,5,6] rfl)
 intro i hi
 refine QS (GV rfl ?_);refine A.cond rfl (fun hc11 => ?_) (fun hc11 => ?_)
 ·have hlt : i < l := by simp at hc11; omega
  refine QK (QSB (GTE (RM rfl ?_)));refine RS (ok_div rfl rfl (by decide)) ?_;refine RZ (nI (x / 4 ^ (i + 1 + 1))) (by rw [tdiv_lit _ (by decide), show Int.toNat 4 = 4 from rfl, Nat.div_div_eq_div_mul, ← Nat.pow_succ]; exact wrap_eq rfl (by have := Nat.div_le_self x (4 ^ (i + 1 + 1)); omega)) ?_;refine RVN 1 rfl ?_;refine End.normal_block (EN (GTE (RV 2 rfl ?_)));refine RZ (nI (i + 1)) (wrap_eq (by omega) (by omega)) ?_;refine RVN 1 rfl ?_;refine End.normal_then ?_;refine End.again (i + 1) ?_ ?_ ?_
  ·show _ ≤ _; omega
  ·show _ - _ < _ - _; omega
  ·exact (Sv [1,5,6] rfl)
 ·obtain rfl : i = l := by simp at hc11; omega
  refine A.exit (End.exit_then (End.exit_then (End.exit_here (EN (GV rfl (A.ret ?_))))));exact ER rfl rfl
end Go.Proofs.YtmkpekmhhbcifaaGreatDoor
