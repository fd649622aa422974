/- OWN TEXTS. -/
import Derived.Test.YtjigbkamgfidkaaGreatDoorQz3
namespace Go.Proofs.YtjigbkamgfidkaaGreatDoor
set_option linter.unusedVariables false
set_option linter.unusedSimpArgs false
set_option maxRecDepth 20000
open Go Go.RowKit
variable {n:Nat} {w:World} {i:Nat} {E:Env} {l:Nat} {m:Nat} {g:Nat} {w₀:World} {ys:List Value} {pos:String} {after:Array Edge} {ty:TypeId}
def sizV:List Value:=[185,137,137,137,137,137].map fun n:Int=>Value.int .i64 n
abbrev tabS:Env:=[(1900000,tab 0 sizV)]
abbrev allM (b T:Nat) (cs:List Value):Env:=[(1900000,blk b T cs)]
theorem tabS_v: ∀ p∈tabS,vbase<=p.1:=fun p hp=>by
 simp only[tabS,List.mem_cons,List.not_mem_nil,or_false] at hp
 subst hp; decide
theorem tabS_hi(h:∀ p∈tabS,p.2.Of w undef): 0<w.heap.size:=(h _ List.mem_cons_self).1
theorem siz_get(h:n<=5): sizV[n]?=some (nI (NodT.sz n)):=by
 match n,h with
 | 0,_=>rfl
 | 1,_=>rfl
 | 2,_=>rfl
 | 3,_=>rfl
 | 4,_=>rfl
 | 5,_=>rfl
theorem zero67: ZeroIs Tryz.prog 67 (recsV zerosR):=by unfold ZeroIs; kernel_rfl
theorem size67: SizeIs Tryz.prog 67 140:=by unfold SizeIs; kernel_rfl
theorem infoP57: InfoP Tryz.prog 57 (aggV RecT.zero.v) 35 56:=by unfold InfoP; kernel_rfl
theorem zero70: ZeroIs Tryz.prog 70 (entsV zerosE):=by unfold ZeroIs; kernel_rfl
theorem size70: SizeIs Tryz.prog 70 132:=by unfold SizeIs; kernel_rfl
theorem infoP69: InfoP Tryz.prog 69 (aggV EntT.zero.v) 33 33:=by unfold InfoP; kernel_rfl
theorem zero23: ZeroIs Tryz.prog 23 [.slice none 0 0]:=by unfold ZeroIs; kernel_rfl
theorem zero3: ZeroIs Tryz.prog 3 [.int .i64 0]:=by unfold ZeroIs; kernel_rfl
theorem zero72: ZeroIs Tryz.prog 72 (NodT.v (NodT.emp 0 0)):=by unfold ZeroIs; kernel_rfl
theorem size72: SizeIs Tryz.prog 72 274:=by unfold SizeIs; kernel_rfl
theorem field72_0: FieldIs Tryz.prog 72 0 0 1:=by unfold FieldIs; kernel_rfl
theorem field72_1: FieldIs Tryz.prog 72 1 1 1:=by unfold FieldIs; kernel_rfl
theorem field72_2: FieldIs Tryz.prog 72 2 2 140:=by unfold FieldIs; kernel_rfl
theorem field72_3: FieldIs Tryz.prog 72 3 142 132:=by unfold FieldIs; kernel_rfl
theorem flat72: flat Tryz.prog 6 72=some (.u8 :: .u32::((List.replicate 4 (.u8 :: .u32 :: .u64::List.replicate 32 .u8)).flatten++(List.replicate 4 (.u8::List.replicate 32 .u8)).flatten)):=by kernel_rfl
theorem isGroup_y(x:NodT)(hx:x.Fit)(h:x.l.toNat=0): Fn Tryz.prog 131 [.v (aggV x.v)] (.v (.bool true)):=by
 refine FV Tryz.func131 rfl Tryz.ntmps131 rfl fun w₀=>?_
 refine GS (TN 0 (RN ?_));refine ZB 1000001 rfl fun b1 ⟨hBb1,hb1⟩=>?_
 refine TL (RVN 1 rfl ?_);refine GT (Rf field72_0 ?_);refine RLV 1000001 U5 rfl rfl rfl ?_;refine RB rfl rfl rfl ?_;refine RT ?_;refine RVN 1 rfl ?_;refine A.ret ?_;exact ER rfl rfl
theorem isGroup_n(x:NodT)(hx:x.Fit)(h:¬ x.l.toNat=0): Fn Tryz.prog 131 [.v (aggV x.v)] (.v (.bool false)):=by
 refine FV Tryz.func131 rfl Tryz.ntmps131 rfl fun w₀=>?_
 refine GS (TN 0 (RN ?_));refine ZB 1000001 rfl fun b1 ⟨hBb1,hb1⟩=>?_
 refine TL (RVN 1 rfl ?_);refine GT (Rf field72_0 ?_);refine RLV 1000001 U5 rfl rfl rfl ?_;refine RB rfl rfl rfl ?_;refine RF ?_;refine RVN 1 rfl ?_;refine A.ret ?_;exact ER rfl rfl
theorem allZeroR_fn(b T o m k:Nat)(cs:List Value)(L:List RecT)(hL:L.length=k)(hk:k<=4)(hf:∀ r∈L,r.Fit)(hc:(cs.drop o).take (L.length*35)=L.flatMap RecT.v)(hl:o+k*35<=cs.length): FnM Tryz.prog 108 (allM b T cs) [.v (.slice (some ⟨b,o,none⟩) k m)] (.v (.bool (decide (∀ i,i<k->(L.getD i RecT.zero).Z)))):=by
 refine FnM.of Tryz.func108 rfl (by kernel_rfl) Tryz.ntmps108 (by simp) (by decide) (fun w=>[(0,.v (.slice (some ⟨b,o,none⟩) k m)),(1900000,blk b T cs)]) (fun w=>(StartM.v rfl (StartM.m (by simp[allM]) (by decide) StartM.nil))) fun w₀ hM=>?_
 skip
 refine GV rfl (GS (TN 0 (RN ?_)));refine ZN 1000003 zero57 fun b3 ⟨hBb3,hb3⟩=>?_
 have hlt_b_b3:=hb3 1900000 b _ _ rfl
 refine TL (RN (QS (GT (RM rfl ?_))));refine RS (ok_lenV U37 rfl) ?_;refine RVN 1 rfl ?_;refine A.block ?_;refine A.loop (ι:=Nat) (fun i=>i<=k∧∀ j,j<i->(L.getD j RecT.zero).Z) (fun i=>[(3,.v (ptr b3)),(6,.v (.slice (some ⟨b,o,none⟩) k m)),(7,.v (nI (k))),(8,.v (nI (i))),(1000003,blk b3 57 (RecT.v RecT.zero)),(1900000,blk b T cs)]) (fun i=>k-i) 0 ?_ ?_ ?_
 ·exact⟨Nat.zero_le _,fun j h=>absurd h (Nat.not_lt_zero _)⟩
 ·exact(KC 3 rfl (KC 6 rfl (KC 7 rfl (KE 8 rfl (by rfl) (KE 1000003 rfl (by rfl) (KC 1900000 rfl KN))))))
 intro i hG
 refine GV rfl (QS ?_);refine A.cond rfl (fun hc9=>?_) (fun hc9=>?_)
 ·have hi:i<k:=by simp at hc9; omega
  have hi':i<L.length:=by omega
  refine QK (QSB (GS (TN 2 (RS (ok_indexS i U37 infoP57 rfl rfl rfl hi) ?_))));refine RS (ok_loadP (s:=1900000) (by decide) U57 rfl size57 rfl rfl (by have:=Nat.mul_le_mul_right 35 (Nat.succ_le_of_lt hi); rw[Nat.succ_mul] at this; omega) (rows_part (RecT.lens hf) hc hi' RecT.zero)) ?_;refine RN ?_;refine ZN 1000005 zero57 fun b5 ⟨hBb5,hb5⟩=>?_
  have hlt_b3_b5:=hb5 1000003 b3 _ _ rfl
  have hlt_b_b5:=hb5 1900000 b _ _ rfl
  refine TF 3 (RN ?_);refine⟨_,eff_storeA (n:=16) (s:=1000005) (size57.of ((hf _ (getD_in L hi' _)).len)) rfl rfl (by first|exact NodT.one _|exact RecT.one _|exact EntT.one _|exact RecT.all1 _|exact EntT.all1 _|exact all_byte _|exact all_bytes _) hBb5 rfl (by first|rfl|(rw[(hf _ (getD_in L hi' _)).len]; rfl)) (LB 1000003 rfl (LB 1900000 rfl (LW [3,5,6,7,8] rfl))),?_⟩
  refine TL (RN (GT (RL 1000005 U57 rfl rfl (size57.of ((hf _ (getD_in L hi' _)).len)) ?_)));refine RL 1000003 U57 rfl rfl (size57.of (rfl)) ?_;refine RZ (aggV RecT.zero.v) (by rfl) ?_;refine RS (ok_neqT (n:=4) (decide (L.getD i RecT.zero).Z) flat57 (by decide) (by kernel_rfl) (by kernel_rfl) rfl rfl (hf _ (getD_in L hi' _)).kin RecT.zero_fit.kin (RecT.dz _)) ?_;refine RN ?_;refine A.cond rfl (fun hc14=>?_) (fun hc14=>?_)
  ·have hz:¬ (L.getD i RecT.zero).Z:=by simpa using hc14
   refine GV rfl (A.ret (End.ret_block (End.ret_then (End.ret_then (End.ret_block (End.ret_then ?_))))))
   first|exact End.ret1 rfl rfl (Le.v (congrArg Value.bool (decide_eq_false (fun h=>hz (h i hi))).symm))|exact End.ret1 rfl rfl (Le.v (congrArg Value.bool (decide_eq_true (fun j hj=>hG.2 j (by omega))).symm))
  ·have hz:(L.getD i RecT.zero).Z:=by simpa using hc14
   refine A.skip (End.normal_block (EN (GTE (RB rfl rfl rfl ?_))));refine Rw (i+1) ?_;refine RVN 1 rfl ?_;refine End.normal_then ?_;refine End.again (i+1) ?_ ?_ ?_
   ·exact⟨by omega,fun j hj=>(Nat.lt_or_ge j i).elim (hG.2 j) fun h=>by rw[show j=i from by omega]; exact hz⟩
   ·show _-_<_-_; omega
   ·exact(Sv [3,6,7,8,1000003,1900000] rfl)
 ·have hi2:i=k:=by have:=hG.1; simp at hc9; omega
  refine A.exit (End.exit_then (End.exit_then (End.exit_here (EN (GV rfl (A.ret ?_))))))
  first|exact End.ret1 rfl rfl (Le.v (congrArg Value.bool (decide_eq_false (fun h=>hz (h i hi))).symm))|exact End.ret1 rfl rfl (Le.v (congrArg Value.bool (decide_eq_true (fun j hj=>hG.2 j (by omega))).symm))
theorem allZeroE_fn(b T o m k:Nat)(cs:List Value)(L:List EntT)(hL:L.length=k)(hk:k<=4)(hf:∀ r∈L,r.Fit)(hc:(cs.drop o).take (L.length*33)=L.flatMap EntT.v)(hl:o+k*33<=cs.length): FnM Tryz.prog 109 (allM b T cs) [.v (.slice (some ⟨b,o,none⟩) k m)] (.v (.bool (decide (∀ i,i<k->(L.getD i EntT.zero).Z)))):=by
 refine FnM.of Tryz.func109 rfl (by kernel_rfl) Tryz.ntmps109 (by simp) (by decide) (fun w=>[(0,.v (.slice (some ⟨b,o,none⟩) k m)),(1900000,blk b T cs)]) (fun w=>(StartM.v rfl (StartM.m (by simp[allM]) (by decide) StartM.nil))) fun w₀ hM=>?_
 skip
 refine GV rfl (GS (TN 0 (RN ?_)));refine ZN 1000003 zero69 fun b3 ⟨hBb3,hb3⟩=>?_
 have hlt_b_b3:=hb3 1900000 b _ _ rfl
 refine TL (RN (QS (GT (RM rfl ?_))));refine RS (ok_lenV U205 rfl) ?_;refine RVN 1 rfl ?_;refine A.block ?_;refine A.loop (ι:=Nat) (fun i=>i<=k∧∀ j,j<i->(L.getD j EntT.zero).Z) (fun i=>[(3,.v (ptr b3)),(6,.v (.slice (some ⟨b,o,none⟩) k m)),(7,.v (nI (k))),(8,.v (nI (i))),(1000003,blk b3 69 (EntT.v EntT.zero)),(1900000,blk b T cs)]) (fun i=>k-i) 0 ?_ ?_ ?_
 ·exact⟨Nat.zero_le _,fun j h=>absurd h (Nat.not_lt_zero _)⟩
 ·exact(KC 3 rfl (KC 6 rfl (KC 7 rfl (KE 8 rfl (by rfl) (KE 1000003 rfl (by rfl) (KC 1900000 rfl KN))))))
 intro i hG
 refine GV rfl (QS ?_);refine A.cond rfl (fun hc9=>?_) (fun hc9=>?_)
 ·have hi:i<k:=by simp at hc9; omega
  have hi':i<L.length:=by omega
  refine QK (QSB (GS (TN 2 (RS (ok_indexS i U205 infoP69 rfl rfl rfl hi) ?_))));refine RS (ok_loadP (s:=1900000) (by decide) U69 rfl size69 rfl rfl (by have:=Nat.mul_le_mul_right 33 (Nat.succ_le_of_lt hi); rw[Nat.succ_mul] at this; omega) (rows_part (EntT.lens hf) hc hi' EntT.zero)) ?_;refine RN ?_;refine ZN 1000005 zero69 fun b5 ⟨hBb5,hb5⟩=>?_
  have hlt_b3_b5:=hb5 1000003 b3 _ _ rfl
  have hlt_b_b5:=hb5 1900000 b _ _ rfl
  refine TF 3 (RN ?_);refine⟨_,eff_storeA (n:=16) (s:=1000005) (size69.of ((hf _ (getD_in L hi' _)).len)) rfl rfl (by first|exact NodT.one _|exact RecT.one _|exact EntT.one _|exact RecT.all1 _|exact EntT.all1 _|exact all_byte _|exact all_bytes _) hBb5 rfl (by first|rfl|(rw[(hf _ (getD_in L hi' _)).len]; rfl)) (LB 1000003 rfl (LB 1900000 rfl (LW [3,5,6,7,8] rfl))),?_⟩
  refine TL (RN (GT (RL 1000005 U69 rfl rfl (size69.of ((hf _ (getD_in L hi' _)).len)) ?_)));refine RL 1000003 U69 rfl rfl (size69.of (rfl)) ?_;refine RZ (aggV EntT.zero.v) (by rfl) ?_;refine RS (ok_neqT (n:=4) (decide (L.getD i EntT.zero).Z) flat69 (by decide) (by kernel_rfl) (by kernel_rfl) rfl rfl (hf _ (getD_in L hi' _)).kin EntT.zero_fit.kin (EntT.dz _)) ?_;refine RN ?_;refine A.cond rfl (fun hc14=>?_) (fun hc14=>?_)
  ·have hz:¬ (L.getD i EntT.zero).Z:=by simpa using hc14
   refine GV rfl (A.ret (End.ret_block (End.ret_then (End.ret_then (End.ret_block (End.ret_then ?_))))))
   first|exact End.ret1 rfl rfl (Le.v (congrArg Value.bool (decide_eq_false (fun h=>hz (h i hi))).symm))|exact End.ret1 rfl rfl (Le.v (congrArg Value.bool (decide_eq_true (fun j hj=>hG.2 j (by omega))).symm))
  ·have hz:(L.getD i EntT.zero).Z:=by simpa using hc14
   refine A.skip (End.normal_block (EN (GTE (RB rfl rfl rfl ?_))));refine Rw (i+1) ?_;refine RVN 1 rfl ?_;refine End.normal_then ?_;refine End.again (i+1) ?_ ?_ ?_
   ·exact⟨by omega,fun j hj=>(Nat.lt_or_ge j i).elim (hG.2 j) fun h=>by rw[show j=i from by omega]; exact hz⟩
   ·show _-_<_-_; omega
   ·exact(Sv [3,6,7,8,1000003,1900000] rfl)
 ·have hi2:i=k:=by have:=hG.1; simp at hc9; omega
  refine A.exit (End.exit_then (End.exit_then (End.exit_here (EN (GV rfl (A.ret ?_))))))
  first|exact End.ret1 rfl rfl (Le.v (congrArg Value.bool (decide_eq_false (fun h=>hz (h i hi))).symm))|exact End.ret1 rfl rfl (Le.v (congrArg Value.bool (decide_eq_true (fun j hj=>hG.2 j (by omega))).symm))
theorem checkPartsR_z(L:List RecT)(O:List EntT)(hL:L.length=4)(hO:O.length=4)(hf:∀ r∈L,r.Fit)(hfo:∀ r∈O,r.Fit)(hz:¬ ∀ i,i<4->(O.getD i EntT.zero).Z): Fn Tryz.prog 141 [.v (aggV (recsV L)),.v (.func (.func 71) #[] #[]),.v (aggV (entsV O))] (.v (.int .i64 (1))):=by
 refine FV Tryz.func141 rfl Tryz.ntmps141 rfl fun w₀=>?_
 refine GS (TN 0 (RN ?_));refine ZB 1000003 rfl fun b3 ⟨hBb3,hb3⟩=>?_
 refine TN 1 (RN ?_);refine ZB 1000005 rfl fun b5 ⟨hBb5,hb5⟩=>?_
 refine TL (RVN 1 rfl ?_);refine QS (GT (RS (ok_sliceN 0 4 U70 size69 rfl (.inr ⟨rfl,rfl⟩) (.inr ⟨rfl,rfl,rfl⟩) (.inr ⟨rfl,rfl⟩) (by decide) (by decide) (by decide)) ?_));refine RZ (.slice (some ⟨b5,0,none⟩) 4 4) (by rfl) ?_;refine RS (ok_callK 1000005 (allZeroE_fn b5 70 0 4 4 (entsV O) O hO (by decide) hfo (by rw[List.drop_zero,List.take_of_length_le (Nat.le_of_eq (flat_length (EntT.lens hfo)))]) (by rw[flat_length (EntT.lens hfo),hO]; decide)) (by decide) rfl (A1 rfl)) ?_;refine RZ (.bool false) (congrArg Value.bool (decide_eq_false hz)) ?_;refine RVN 1 rfl ?_;refine A.yes rfl ?_;refine GV rfl (A.ret (End.ret_then ?_));exact ER rfl rfl
theorem checkPartsR_fn(L:List RecT)(O:List EntT)(hL:L.length=4)(hO:O.length=4)(hf:∀ r∈L,r.Fit)(hfo:∀ r∈O,r.Fit)(hz:∀ i,i<4->(O.getD i EntT.zero).Z): Fn Tryz.prog 141 [.v (aggV (recsV L)),.v (.func (.func 71) #[] #[]),.v (aggV (entsV O))] (.v (.int .i64 (fst4 fun i=>(L.getD i RecT.zero).ck))):=by
 refine FV Tryz.func141 rfl Tryz.ntmps141 rfl fun w₀=>?_
 refine GS (TN 0 (RN ?_));refine ZB 1000003 rfl fun b3 ⟨hBb3,hb3⟩=>?_
 refine TN 1 (RN ?_);refine ZB 1000005 rfl fun b5 ⟨hBb5,hb5⟩=>?_
 refine TL (RVN 1 rfl ?_);refine QS (GT (RS (ok_sliceN 0 4 U70 size69 rfl (.inr ⟨rfl,rfl⟩) (.inr ⟨rfl,rfl,rfl⟩) (.inr ⟨rfl,rfl⟩) (by decide) (by decide) (by decide)) ?_));refine RZ (.slice (some ⟨b5,0,none⟩) 4 4) (by rfl) ?_;refine RS (ok_callK 1000005 (allZeroE_fn b5 70 0 4 4 (entsV O) O hO (by decide) hfo (by rw[List.drop_zero,List.take_of_length_le (Nat.le_of_eq (flat_length (EntT.lens hfo)))]) (by rw[flat_length (EntT.lens hfo),hO]; decide)) (by decide) rfl (A1 rfl)) ?_;refine RZ (.bool true) (congrArg Value.bool (decide_eq_true hz)) ?_;refine RVN 1 rfl ?_;refine A.no rfl ?_;refine QK (QS (GT (RL 1000003 U67 rfl rfl (size67.of (by rw[flat_length (RecT.lens hf),hL])) ?_)));refine RVN 1 rfl ?_;refine A.block ?_;refine A.loop (ι:=Nat) (fun i=>i<=4∧∀ j,j<i->(L.getD j RecT.zero).ck=0) (fun i=>[(1,.v (.func (.func 71) #[] #[])),(13,.v (aggV (recsV L))),(14,.v (nI (i)))]) (fun i=>4-i) 0 ?_ ?_ ?_
 ·exact⟨Nat.zero_le _,fun j h=>absurd h (Nat.not_lt_zero _)⟩
 ·exact(KC 1 rfl (KC 13 rfl (KE 14 rfl (by rfl) KN)))
 intro i hG
 refine GV rfl (QS ?_);refine A.cond rfl (fun hc15=>?_) (fun hc15=>?_)
 ·have hi:i<4:=by simp at hc15; omega
  refine QK (QSB (GS (TN 1 (RS (ok_indexAgg i U67 U57 rfl size57 rfl rfl rfl hi (flat_getD (RecT.lens hf) (by omega) RecT.zero)) ?_))));refine RN ?_;refine ZN 1000008 zero57 fun b8 ⟨hBb8,hb8⟩=>?_
  refine TF 2 (RN ?_);refine⟨_,eff_storeA (n:=24) (s:=1000008) (size57.of ((hf (L.getD i RecT.zero) (getD_mem4 hL hi _)).len)) rfl rfl (by first|exact NodT.one _|exact RecT.one _|exact EntT.one _|exact RecT.all1 _|exact EntT.all1 _|exact all_byte _|exact all_bytes _) hBb8 rfl (by first|rfl|(rw[(hf (L.getD i RecT.zero) (getD_mem4 hL hi _)).len]; rfl)) (LW [1,8,13,14] rfl),?_⟩
  refine TL (RN (GT (RM rfl ?_)));refine RL 1000008 U57 rfl rfl (size57.of ((hf (L.getD i RecT.zero) (getD_mem4 hL hi _)).len)) ?_;refine RS (ok_callV0 (CheckR_fn (L.getD i RecT.zero).x (L.getD i RecT.zero).s (L.getD i RecT.zero).c (L.getD i RecT.zero).t (hf (L.getD i RecT.zero) (getD_mem4 hL hi _)).t) rfl (A1 rfl)) ?_;refine RZ (.int .i64 (L.getD i RecT.zero).ck) (rfl) ?_;refine RVN 1 rfl ?_;refine GV rfl ?_;refine A.cond rfl (fun hc21=>?_) (fun hc21=>?_)
  ·have hk:(L.getD i RecT.zero).ck≠0:=by simpa using hc21
   refine GV rfl (A.ret (End.ret_block (End.ret_then (End.ret_then (End.ret_block (End.ret_then ?_))))))
   first|exact End.ret1 rfl rfl (Le.v (congrArg (Value.int .i64) (fst4_at (f:=fun i=>(L.getD i RecT.zero).ck) hi hG.2 hk)))|exact End.ret1 rfl rfl (Le.v (congrArg (Value.int .i64) (fst4_no (f:=fun i=>(L.getD i RecT.zero).ck) (fun j hj=>hG.2 j (by omega))).symm))
  ·have hk:(L.getD i RecT.zero).ck=0:=by simpa using hc21
   refine A.skip (End.normal_block (EN (GTE (RB rfl rfl rfl ?_))));refine Rw (i+1) ?_;refine RVN 1 rfl ?_;refine End.normal_then ?_;refine End.again (i+1) ?_ ?_ ?_
   ·exact⟨by omega,fun j hj=>(Nat.lt_or_ge j i).elim (hG.2 j) fun h=>by rw[show j=i from by omega]; exact hk⟩
   ·show _-_<_-_; omega
   ·exact(Sv [1,13,14] rfl)
 ·have hi2:i=4:=by have:=hG.1; simp at hc15; omega
  refine A.exit (End.exit_then (End.exit_then (End.exit_here (EN (GV rfl (A.ret ?_))))))
  first|exact End.ret1 rfl rfl (Le.v (congrArg (Value.int .i64) (fst4_at (f:=fun i=>(L.getD i RecT.zero).ck) hi hG.2 hk)))|exact End.ret1 rfl rfl (Le.v (congrArg (Value.int .i64) (fst4_no (f:=fun i=>(L.getD i RecT.zero).ck) (fun j hj=>hG.2 j (by omega))).symm))
theorem checkPartsE_z(L:List EntT)(O:List RecT)(hL:L.length=4)(hO:O.length=4)(hf:∀ r∈L,r.Fit)(hfo:∀ r∈O,r.Fit)(hz:¬ ∀ i,i<4->(O.getD i RecT.zero).Z): Fn Tryz.prog 142 [.v (aggV (entsV L)),.v (.func (.func 143) #[] #[]),.v (aggV (recsV O))] (.v (.int .i64 (1))):=by
 refine FV Tryz.func142 rfl Tryz.ntmps142 rfl fun w₀=>?_
 refine GS (TN 0 (RN ?_));refine ZB 1000003 rfl fun b3 ⟨hBb3,hb3⟩=>?_
 refine TN 1 (RN ?_);refine ZB 1000005 rfl fun b5 ⟨hBb5,hb5⟩=>?_
 refine TL (RVN 1 rfl ?_);refine QS (GT (RS (ok_sliceN 0 4 U67 size57 rfl (.inr ⟨rfl,rfl⟩) (.inr ⟨rfl,rfl,rfl⟩) (.inr ⟨rfl,rfl⟩) (by decide) (by decide) (by decide)) ?_));refine RZ (.slice (some ⟨b5,0,none⟩) 4 4) (by rfl) ?_;refine RS (ok_callK 1000005 (allZeroR_fn b5 67 0 4 4 (recsV O) O hO (by decide) hfo (by rw[List.drop_zero,List.take_of_length_le (Nat.le_of_eq (flat_length (RecT.lens hfo)))]) (by rw[flat_length (RecT.lens hfo),hO]; decide)) (by decide) rfl (A1 rfl)) ?_;refine RZ (.bool false) (congrArg Value.bool (decide_eq_false hz)) ?_;refine RVN 1 rfl ?_;refine A.yes rfl ?_;refine GV rfl (A.ret (End.ret_then ?_));exact ER rfl rfl
theorem checkPartsE_fn(L:List EntT)(O:List RecT)(hL:L.length=4)(hO:O.length=4)(hf:∀ r∈L,r.Fit)(hfo:∀ r∈O,r.Fit)(hz:∀ i,i<4->(O.getD i RecT.zero).Z): Fn Tryz.prog 142 [.v (aggV (entsV L)),.v (.func (.func 143) #[] #[]),.v (aggV (recsV O))] (.v (.int .i64 (fst4 fun i=>(L.getD i EntT.zero).ck))):=by
 refine FV Tryz.func142 rfl Tryz.ntmps142 rfl fun w₀=>?_
 refine GS (TN 0 (RN ?_));refine ZB 1000003 rfl fun b3 ⟨hBb3,hb3⟩=>?_
 refine TN 1 (RN ?_);refine ZB 1000005 rfl fun b5 ⟨hBb5,hb5⟩=>?_
 refine TL (RVN 1 rfl ?_);refine QS (GT (RS (ok_sliceN 0 4 U67 size57 rfl (.inr ⟨rfl,rfl⟩) (.inr ⟨rfl,rfl,rfl⟩) (.inr ⟨rfl,rfl⟩) (by decide) (by decide) (by decide)) ?_));refine RZ (.slice (some ⟨b5,0,none⟩) 4 4) (by rfl) ?_;refine RS (ok_callK 1000005 (allZeroR_fn b5 67 0 4 4 (recsV O) O hO (by decide) hfo (by rw[List.drop_zero,List.take_of_length_le (Nat.le_of_eq (flat_length (RecT.lens hfo)))]) (by rw[flat_length (RecT.lens hfo),hO]; decide)) (by decide) rfl (A1 rfl)) ?_;refine RZ (.bool true) (congrArg Value.bool (decide_eq_true hz)) ?_;refine RVN 1 rfl ?_;refine A.no rfl ?_;refine QK (QS (GT (RL 1000003 U70 rfl rfl (size70.of (by rw[flat_length (EntT.lens hf),hL])) ?_)));refine RVN 1 rfl ?_;refine A.block ?_;refine A.loop (ι:=Nat) (fun i=>i<=4∧∀ j,j<i->(L.getD j EntT.zero).ck=0) (fun i=>[(1,.v (.func (.func 143) #[] #[])),(13,.v (aggV (entsV L))),(14,.v (nI (i)))]) (fun i=>4-i) 0 ?_ ?_ ?_
 ·exact⟨Nat.zero_le _,fun j h=>absurd h (Nat.not_lt_zero _)⟩
 ·exact(KC 1 rfl (KC 13 rfl (KE 14 rfl (by rfl) KN)))
 intro i hG
 refine GV rfl (QS ?_);refine A.cond rfl (fun hc15=>?_) (fun hc15=>?_)
 ·have hi:i<4:=by simp at hc15; omega
  refine QK (QSB (GS (TN 1 (RS (ok_indexAgg i U70 U69 rfl size69 rfl rfl rfl hi (flat_getD (EntT.lens hf) (by omega) EntT.zero)) ?_))));refine RN ?_;refine ZN 1000008 zero69 fun b8 ⟨hBb8,hb8⟩=>?_
  refine TF 2 (RN ?_);refine⟨_,eff_storeA (n:=24) (s:=1000008) (size69.of ((hf (L.getD i EntT.zero) (getD_mem4 hL hi _)).len)) rfl rfl (by first|exact NodT.one _|exact RecT.one _|exact EntT.one _|exact RecT.all1 _|exact EntT.all1 _|exact all_byte _|exact all_bytes _) hBb8 rfl (by first|rfl|(rw[(hf (L.getD i EntT.zero) (getD_mem4 hL hi _)).len]; rfl)) (LW [1,8,13,14] rfl),?_⟩
  refine TL (RN (GT (RM rfl ?_)));refine RL 1000008 U69 rfl rfl (size69.of ((hf (L.getD i EntT.zero) (getD_mem4 hL hi _)).len)) ?_;refine RS (ok_callV0 (CheckE_fn (L.getD i EntT.zero).x (L.getD i EntT.zero).t (hf (L.getD i EntT.zero) (getD_mem4 hL hi _)).t) rfl (A1 rfl)) ?_;refine RZ (.int .i64 (L.getD i EntT.zero).ck) (rfl) ?_;refine RVN 1 rfl ?_;refine GV rfl ?_;refine A.cond rfl (fun hc21=>?_) (fun hc21=>?_)
  ·have hk:(L.getD i EntT.zero).ck≠0:=by simpa using hc21
   refine GV rfl (A.ret (End.ret_block (End.ret_then (End.ret_then (End.ret_block (End.ret_then ?_))))))
   first|exact End.ret1 rfl rfl (Le.v (congrArg (Value.int .i64) (fst4_at (f:=fun i=>(L.getD i EntT.zero).ck) hi hG.2 hk)))|exact End.ret1 rfl rfl (Le.v (congrArg (Value.int .i64) (fst4_no (f:=fun i=>(L.getD i EntT.zero).ck) (fun j hj=>hG.2 j (by omega))).symm))
  ·have hk:(L.getD i EntT.zero).ck=0:=by simpa using hc21
   refine A.skip (End.normal_block (EN (GTE (RB rfl rfl rfl ?_))));refine Rw (i+1) ?_;refine RVN 1 rfl ?_;refine End.normal_then ?_;refine End.again (i+1) ?_ ?_ ?_
   ·exact⟨by omega,fun j hj=>(Nat.lt_or_ge j i).elim (hG.2 j) fun h=>by rw[show j=i from by omega]; exact hk⟩
   ·show _-_<_-_; omega
   ·exact(Sv [1,13,14] rfl)
 ·have hi2:i=4:=by have:=hG.1; simp at hc15; omega
  refine A.exit (End.exit_then (End.exit_then (End.exit_here (EN (GV rfl (A.ret ?_))))))
  first|exact End.ret1 rfl rfl (Le.v (congrArg (Value.int .i64) (fst4_at (f:=fun i=>(L.getD i EntT.zero).ck) hi hG.2 hk)))|exact End.ret1 rfl rfl (Le.v (congrArg (Value.int .i64) (fst4_no (f:=fun i=>(L.getD i EntT.zero).ck) (fun j hj=>hG.2 j (by omega))).symm))
theorem nCheck_hi(x:NodT)(hx:x.Fit)(h:5<x.l.toNat): Fn Tryz.prog 106 [.v (aggV x.v)] (.v (.int .i64 (1))):=by
 refine FV Tryz.func106 rfl Tryz.ntmps106 rfl fun w₀=>?_
 refine GS (TN 0 (RN ?_));refine ZB 1000001 rfl fun b1 ⟨hBb1,hb1⟩=>?_
 refine TL (RVN 1 rfl ?_);refine QSB (GT (Rf field72_0 ?_));refine RLV 1000001 U5 rfl rfl rfl ?_;refine RB rfl rfl rfl ?_;refine RT ?_;refine RVN 1 rfl ?_;refine A.yes rfl ?_;refine GV rfl (A.ret (End.ret_block (End.ret_then ?_)));exact ER rfl rfl
theorem nCheck_Rz(x:NodT)(hx:x.Fit)(h:x.l.toNat=0)(hz:¬ ∀ i,i<4->(x.e i).Z): Fn Tryz.prog 106 [.v (aggV x.v)] (.v (.int .i64 (1))):=by
 refine FV Tryz.func106 rfl Tryz.ntmps106 rfl fun w₀=>?_
 refine GS (TN 0 (RN ?_));refine ZB 1000001 rfl fun b1 ⟨hBb1,hb1⟩=>?_
 refine TL (RVN 1 rfl ?_);refine QSB (GT (Rf field72_0 ?_));refine RLV 1000001 U5 rfl rfl rfl ?_;refine RB rfl rfl rfl ?_;refine RF ?_;refine RVN 1 rfl ?_;refine A.no rfl ?_;refine GT (RL 1000001 U72 rfl rfl (size72.of (hx.len)) ?_);refine RS (ok_call (isGroup_y x hx h) (A1 rfl)) ?_;refine RVN 1 rfl ?_;refine A.yes rfl ?_;refine GT (Rf field72_2 ?_);refine RS (ok_loadP (s:=1000001) (by decide) U67 rfl size67 rfl rfl (by rw[hx.len]; decide) (hx.getR)) ?_;refine Rf field72_3 ?_;refine RS (ok_loadP (s:=1000001) (by decide) U70 rfl size70 rfl rfl (by rw[hx.len]; decide) (hx.getE)) ?_;refine RS (ok_call (checkPartsR_z x.R x.E hx.lr hx.le hx.fr hx.fe hz) (A3 rfl rfl rfl)) ?_;refine RVN 1 rfl ?_;refine A.ret (End.ret_block (End.ret_then ?_));exact ER rfl rfl
theorem nCheck_R(x:NodT)(hx:x.Fit)(h:x.l.toNat=0)(hz:∀ i,i<4->(x.e i).Z): Fn Tryz.prog 106 [.v (aggV x.v)] (.v (.int .i64 (fst4 fun i=>(x.r i).ck))):=by
 refine FV Tryz.func106 rfl Tryz.ntmps106 rfl fun w₀=>?_
 refine GS (TN 0 (RN ?_));refine ZB 1000001 rfl fun b1 ⟨hBb1,hb1⟩=>?_
 refine TL (RVN 1 rfl ?_);refine QSB (GT (Rf field72_0 ?_));refine RLV 1000001 U5 rfl rfl rfl ?_;refine RB rfl rfl rfl ?_;refine RF ?_;refine RVN 1 rfl ?_;refine A.no rfl ?_;refine GT (RL 1000001 U72 rfl rfl (size72.of (hx.len)) ?_);refine RS (ok_call (isGroup_y x hx h) (A1 rfl)) ?_;refine RVN 1 rfl ?_;refine A.yes rfl ?_;refine GT (Rf field72_2 ?_);refine RS (ok_loadP (s:=1000001) (by decide) U67 rfl size67 rfl rfl (by rw[hx.len]; decide) (hx.getR)) ?_;refine Rf field72_3 ?_;refine RS (ok_loadP (s:=1000001) (by decide) U70 rfl size70 rfl rfl (by rw[hx.len]; decide) (hx.getE)) ?_;refine RS (ok_call (checkPartsR_fn x.R x.E hx.lr hx.le hx.fr hx.fe hz) (A3 rfl rfl rfl)) ?_;refine RVN 1 rfl ?_;refine A.ret (End.ret_block (End.ret_then ?_));exact ER rfl rfl
theorem nCheck_Ez(x:NodT)(hx:x.Fit)(h5:¬ 5<x.l.toNat)(h:¬ x.l.toNat=0)(hz:¬ ∀ i,i<4->(x.r i).Z): Fn Tryz.prog 106 [.v (aggV x.v)] (.v (.int .i64 (1))):=by
 refine FV Tryz.func106 rfl Tryz.ntmps106 rfl fun w₀=>?_
 refine GS (TN 0 (RN ?_));refine ZB 1000001 rfl fun b1 ⟨hBb1,hb1⟩=>?_
 refine TL (RVN 1 rfl ?_);refine QSB (GT (Rf field72_0 ?_));refine RLV 1000001 U5 rfl rfl rfl ?_;refine RB rfl rfl rfl ?_;refine RF ?_;refine RVN 1 rfl ?_;refine A.no rfl ?_;refine GT (RL 1000001 U72 rfl rfl (size72.of (hx.len)) ?_);refine RS (ok_call (isGroup_n x hx h) (A1 rfl)) ?_;refine RVN 1 rfl ?_;refine A.no rfl ?_;refine A.skip (End.normal_block (EN (GT (Rf field72_3 ?_))));refine RS (ok_loadP (s:=1000001) (by decide) U70 rfl size70 rfl rfl (by rw[hx.len]; decide) (hx.getE)) ?_;refine Rf field72_2 ?_;refine RS (ok_loadP (s:=1000001) (by decide) U67 rfl size67 rfl rfl (by rw[hx.len]; decide) (hx.getR)) ?_;refine RS (ok_call (checkPartsE_z x.E x.R hx.le hx.lr hx.fe hx.fr hz) (A3 rfl rfl rfl)) ?_;refine RVN 1 rfl ?_;refine A.ret ?_;exact ER rfl rfl
theorem nCheck_E(x:NodT)(hx:x.Fit)(h5:¬ 5<x.l.toNat)(h:¬ x.l.toNat=0)(hz:∀ i,i<4->(x.r i).Z): Fn Tryz.prog 106 [.v (aggV x.v)] (.v (.int .i64 (fst4 fun i=>(x.e i).ck))):=by
 refine FV Tryz.func106 rfl Tryz.ntmps106 rfl fun w₀=>?_
 refine GS (TN 0 (RN ?_));refine ZB 1000001 rfl fun b1 ⟨hBb1,hb1⟩=>?_
 refine TL (RVN 1 rfl ?_);refine QSB (GT (Rf field72_0 ?_));refine RLV 1000001 U5 rfl rfl rfl ?_;refine RB rfl rfl rfl ?_;refine RF ?_;refine RVN 1 rfl ?_;refine A.no rfl ?_;refine GT (RL 1000001 U72 rfl rfl (size72.of (hx.len)) ?_);refine RS (ok_call (isGroup_n x hx h) (A1 rfl)) ?_;refine RVN 1 rfl ?_;refine A.no rfl ?_;refine A.skip (End.normal_block (EN (GT (Rf field72_3 ?_))));refine RS (ok_loadP (s:=1000001) (by decide) U70 rfl size70 rfl rfl (by rw[hx.len]; decide) (hx.getE)) ?_;refine Rf field72_2 ?_;refine RS (ok_loadP (s:=1000001) (by decide) U67 rfl size67 rfl rfl (by rw[hx.len]; decide) (hx.getR)) ?_;refine RS (ok_call (checkPartsE_fn x.E x.R hx.le hx.lr hx.fe hx.fr hz) (A3 rfl rfl rfl)) ?_;refine RVN 1 rfl ?_;refine A.ret ?_;exact ER rfl rfl
theorem nCheck_fn(x:NodT)(hx:x.Fit): Fn Tryz.prog 106 [.v (aggV x.v)] (.v (.int .i64 (x.ck))):=by
 by_cases h5:5<x.l.toNat
 ·rw[NodT.ck_hi h5]; exact nCheck_hi x hx h5
 by_cases h:x.l.toNat=0
 ·by_cases hz:∀ i,i<4->(x.e i).Z
  ·rw[NodT.ck_R h hz]; exact nCheck_R x hx h hz
  ·rw[NodT.ck_Rz h hz]; exact nCheck_Rz x hx h hz
 ·by_cases hz:∀ i,i<4->(x.r i).Z
  ·rw[NodT.ck_E h5 h hz]; exact nCheck_E x hx h5 h hz
  ·rw[NodT.ck_Ez h5 h hz]; exact nCheck_Ez x hx h5 h hz
theorem put_fnB(V K:Nat)(hv:V<18446744073709551616)(hk:K<=8): FnB Tryz.prog 172 [.v (.int .u64 (V:Int)),.v (.int .i64 (K:Int))] (fun B=>fresh B 5 ((be K V).map byteV) K):=by
 refine FnB.of Tryz.func172 rfl (by kernel_rfl) Tryz.ntmps172 (by simp) (fun w=>[(0,.v (.int .u64 (V:Int))),(1,.v (.int .i64 (K:Int)))]) (fun w=>(Start.v rfl (Start.v rfl Start.nil))) fun w₀=>?_
 refine GV rfl (GT (RM rfl ?_));refine RS (ok_make K U23 info5 (by decide) rfl rfl rfl rfl rfl (by omega)) ?_;refine RVN 1 rfl ?_;refine A.open (t:=5) (k:=1000000) rfl fun b hb=>?_
 refine QS (GV rfl (A.block ?_));refine A.loop (ι:=Nat) (fun i=>i<=K) (fun i=>[(0,.v (.int .u64 (V:Int))),(1,.v (.int .i64 (K:Int))),(5,.v (.slice (some ⟨b,0,none⟩) K K)),(9,.v (.int .i64 (K:Int))),(10,.v (.int .i64 (i:Int))),(1000000,blk b 5 (((be K V).take i).map byteV++List.replicate ((be K V).length-i) (.int .u8 0)))]) (fun i=>K-i) 0 ?_ ?_ ?_
 ·exact Nat.zero_le _
 ·exact(KC 0 rfl (KC 1 rfl (KE 5 rfl (by simp) (KC 9 rfl (KC 10 rfl (KE 1000000 rfl (by simp[be_length]) KN))))))
 intro i hi
 refine GV rfl (QS ?_);refine A.cond rfl (fun hc11=>?_) (fun hc11=>?_)
 ·have hlt:i<K:=by simpa using hc11
  refine QK (QSB (GV rfl (GE (TF 11 (RV 5 rfl ?_)))));refine RZ (nI (K-1)) (by rw[wrap_i64 (by omega) (by omega)]; congr 1; omega) ?_;refine RV 2 rfl ?_;refine RZ (nI (K-1-i)) (by rw[wrap_i64 (by omega) (by omega)]; congr 1; omega) ?_;refine RB rfl rfl rfl ?_;refine RZ (nI (8*(K-1-i))) (by rw[wrap_i64 (by omega) (by omega)]; congr 1) ?_;refine RS (ok_shr rfl rfl (by omega)) ?_;refine RZ (nQ (V / 256^(K-1-i))) (by rw[Int.toNat_natCast,show min (8*(K-1-i)) IntKind.u64.bits=8*(K-1-i) from by simp only[IntKind.bits]; omega,shr_nat,pow256]) ?_;refine RS (ok_conv U33 U5 rfl) ?_;refine RZ (byteV (UInt8.ofNat (V / 256^(K-1-i)))) (by rw[wrap_u8_nat]; rfl) ?_;refine RS (ok_indexV i U23 info5 rfl rfl rfl hlt) ?_;refine RN ?_;refine⟨_,eff_store (n:=26) (s:=1000000) info5 rfl rfl rfl hb rfl (by simp[be_length]; omega) (Left.cons (t:=0) rfl (Stays.v _ _) (Left.cons (t:=1) rfl (Stays.v _ _) (Left.cons (t:=5) rfl (Stays.v _ _) (Left.cons (t:=9) rfl (Stays.v _ _) (Left.cons (t:=10) rfl (Stays.v _ _) Left.nil))))),?_⟩
  refine TL (RN (End.normal_block (EN (GTE (RB rfl rfl rfl ?_)))));refine RZ (nI (i+1)) (by rw[wrap_i64 (by omega) (by omega)]; congr 1) ?_;refine RVN 1 rfl ?_;refine End.normal_then ?_;refine End.again (i+1) ?_ ?_ ?_
  ·show _<=_; omega
  ·show _-_<_-_; omega
  ·exact(KC 0 rfl (KC 1 rfl (KC 5 rfl (KC 9 rfl (KC 10 rfl (KE 1000000 rfl (by rw[Nat.zero_add]; exact congrArg _ (fill_step (be_get hlt))) KN))))))
 ·refine A.exit (End.exit_then (End.exit_then (End.exit_here (EN (GV rfl (A.ret ?_))))))
  have hK:i=K:=by simp at hc11; omega
  subst hK
  exact End.fresh rfl hb rfl (by rw[List.length_map,be_length]) (k:=1000000) rfl (by rw[be_length,Nat.sub_self,List.replicate_zero,List.append_nil,List.take_of_length_le (by rw[be_length]; omega)])
theorem Put32_fnB(v:Nat)(hv:v<4294967296): FnB Tryz.prog 156 [.v (.int .u32 (v:Int))] (fun B=>fresh B 5 ((be 4 v).map byteV) 4):=by
 refine FnB.of Tryz.func156 rfl (by kernel_rfl) Tryz.ntmps156 (by simp) (fun w=>[(0,.v (.int .u32 (v:Int)))]) (fun w=>(Start.v rfl Start.nil)) fun w₀=>?_
 refine GV rfl (GT (RM rfl ?_));refine RS (ok_conv U53 U33 rfl) ?_;refine RZ (.int .u64 (v:Int)) (by rw[wrap_u64 (by omega) (by omega)]) ?_;refine RS (ok_callB (put_fnB v 4 (by omega) (by decide)) (fun _ _=>fresh_mono _ _) (A2 rfl rfl)) ?_;refine RVN 1 rfl ?_;refine A.ret ?_;exact ER rfl rfl
set_option maxHeartbeats 1000000 in
theorem writeRaw_fnL(B:Nat)(pa pb bs q N:Nat)(p l:List UInt8)(h0:0<l.length)(hN:p.length+l.length<=N)(hN':N<=4096)(hBa:B<=pa)(hBs:B<=bs)(hq:bs<q): FnL Tryz.prog 155 B [(3,pa),(5,bs)] [.slice (some ⟨q,0,none⟩) l.length l.length,ptr pa,ptr pb] [(1000001,blk pa 3 [nI p.length]),(1000002,blk pb 23 [.slice (some ⟨bs,0,none⟩) N N]),(1000003,blk bs 5 (wrt N p)),(1000004,blk q 5 (l.map byteV))] (fun _ _=>True) (fun _=>.tuple #[]) (fun b=>[(1000001,blk pa 3 [nI (p.length+l.length)]),(1000003,blk bs 5 ((wrt N p).take (0+p.length)++(l.take (N-p.length)).map byteV++(wrt N p).drop (0+p.length+min l.length (N-p.length))))]):=by
 refine FnL.of (n:=11) (kw:=1000099) (ks:=1000098) Tryz.func155 rfl (by kernel_rfl) Tryz.ntmps155 (by simp) (by decide) (vbL_cons (vL rfl) (vbL_cons (vL rfl) (vbL_cons (vL rfl) (vbL_cons (vL rfl) vbL_nil)))) (vL rfl) (vL rfl) [(0,.v (.slice (some ⟨q,0,none⟩) l.length l.length)),(1,.v (ptr pa)),(2,.v (ptr pb))]
  (fun p hp=>by simp only[List.mem_cons,List.not_mem_nil,or_false] at hp; rcases hp with rfl|rfl|rfl<;>exact⟨_,rfl,rfl⟩) fun w₀ w₁ hw hw₁=>?_
 have hBpa:w₀.heap.size<=pa:=by omega
 have hBbs:w₀.heap.size<=bs:=by omega
 refine A.regL0 5 [0] (by kernel_rfl) (by kernel_rfl) (by kernel_rfl) (by kernel_rfl) [(1000001,blk pa 3 [nI (p.length+l.length)]),(1000003,blk bs 5 ((wrt N p).take (0+p.length)++(l.take (N-p.length)).map byteV++(wrt N p).drop (0+p.length+min l.length (N-p.length)))),(1000099,wroteL [(3,pa),(5,bs)] w₁)] ?_ ?_
 ·refine RLV 1000001 U3 rfl rfl rfl ?_;refine RLV 1000002 U23 rfl rfl rfl ?_;refine RLV 1000001 U3 rfl rfl rfl ?_;refine RS (ok_sliceS (l:=p.length) (h:=N) (m:=N) U23 info5 rfl (.inl ⟨_,_,rfl,rfl⟩) (.inr ⟨rfl,rfl,rfl⟩) (.inr ⟨rfl,rfl⟩) (by omega) (Nat.le_refl _) (Nat.le_refl _) (.inl (by omega))) ?_;refine RS (OpOk.fact (ok_move rfl) (d:=bytes l l.length) (s:=1000004) (by decide) rfl (slice_bytes l rfl (Nat.le_refl _) (by simp only[maxLen]; omega) (by rw[List.drop_zero,List.take_of_length_le (by simp)]))) ?_;refine RN ?_
  intro S hS
  simp only[subs,List.map_cons,List.map_nil,List.cons_append,List.nil_append,List.mem_cons,List.not_mem_nil,or_false] at hS
  rcases hS with rfl|rfl
  ·refine⟨2,Nat.le_of_ble_eq_true (by kernel_rfl),_,(Sv [0,1,2,4,5,6,7,8,1000001,1000002,1000003,1000004,1000099] rfl),by kernel_rfl,_,rfl,_,eff_copyS (n:=11) (s:=1000003) U23 info5 rfl rfl (le_byt _ _) hBbs rfl (by rw[wrt_len (by omega)]; omega) (by decide) (LV 0 rfl (LV 1 rfl (LV 2 rfl (LV 4 rfl (LV 5 rfl (LV 6 rfl (LV 7 rfl (LT 1000001 rfl (LT 1000002 rfl (LB 1000004 rfl (LeftS.cons (t:=1000099) rfl (Surv.wroteL (by simp)) LN))))))))))),?_⟩
   refine AnyT.step 6 [] (by kernel_rfl) ?_;refine NextT.pure (by kernel_rfl) rfl rfl rfl (OpOk.asV (nI (p.length+l.length)) (by rw[show min l.length (N-p.length)=l.length from by omega]; exact wrap_eq (by omega) (by omega)) (ok_bin rfl rfl rfl)) ?_ ?_
   ·refine AnyT.step 7 [] (by kernel_rfl) ?_;refine NextT.eff rfl (eff_storeS (n:=11) (s:=1000001) info3 rfl rfl rfl hBpa rfl (by simp) (LV 0 rfl (LV 1 rfl (LV 2 rfl (LV 4 rfl (LV 5 rfl (LV 6 rfl (LV 7 rfl (LV 9 rfl (LV 10 rfl (LT 1000002 rfl (LT 1000003 rfl (LT 1000004 rfl (LeftS.cons (t:=1000099) rfl (Surv.wroteL (by simp)) LN)))))))))))))) ?_ ?_
    ·refine AnyT.last (by kernel_rfl) ?_;exact(QC 1000001 rfl (QC 1000003 rfl (QC 1000099 rfl SubL.nil)))
    exact trivial
   exact trivial
  ·refine⟨3,Nat.le_of_ble_eq_true (by kernel_rfl),_,(Sv [0,1,2,5,6,7,8,1000001,1000002,1000003,1000004,1000099] rfl),by kernel_rfl,_,rfl,_,eff_copyS (n:=11) (s:=1000003) U23 info5 rfl rfl (le_byt _ _) hBbs rfl (by rw[wrt_len (by omega)]; omega) (by decide) (LV 0 rfl (LV 1 rfl (LV 2 rfl (LV 5 rfl (LV 6 rfl (LV 7 rfl (LT 1000001 rfl (LT 1000002 rfl (LB 1000004 rfl (LeftS.cons (t:=1000099) rfl (Surv.wroteL (by simp)) LN)))))))))),?_⟩
   refine AnyT.step 0 [] (by kernel_rfl) ?_;refine NextT.pure (by kernel_rfl) rfl rfl rfl (ok_loadV (s:=1000001) (by decide) U3 rfl rfl rfl (rfl)) ?_ ?_
   ·refine AnyT.step 6 [] (by kernel_rfl) ?_;refine NextT.pure (by kernel_rfl) rfl rfl rfl (OpOk.asV (nI (p.length+l.length)) (by rw[show min l.length (N-p.length)=l.length from by omega]; exact wrap_eq (by omega) (by omega)) (ok_bin rfl rfl rfl)) ?_ ?_
    ·refine AnyT.step 7 [] (by kernel_rfl) ?_;refine NextT.eff rfl (eff_storeS (n:=11) (s:=1000001) info3 rfl rfl rfl hBpa rfl (by simp) (LV 0 rfl (LV 1 rfl (LV 2 rfl (LV 4 rfl (LV 5 rfl (LV 6 rfl (LV 7 rfl (LV 9 rfl (LV 10 rfl (LT 1000002 rfl (LT 1000003 rfl (LT 1000004 rfl (LeftS.cons (t:=1000099) rfl (Surv.wroteL (by simp)) LN)))))))))))))) ?_ ?_
     ·refine AnyT.last (by kernel_rfl) ?_;exact(QC 1000001 rfl (QC 1000003 rfl (QC 1000099 rfl SubL.nil)))
     exact trivial
    exact trivial
   exact trivial
 ·exact End.wroteL0 (.inr rfl) rfl (kw:=1000099) rfl 0 trivial (by decide) (lookL_cons (k:=1000001) (vL rfl) rfl (lookL_cons (k:=1000003) (vL rfl) rfl lookL_nil))
theorem write_fnL(k₁ k₂ k₃ k₄ B:Nat)(pa pb bs q N:Nat)(p l:List UInt8)(h0:0<l.length)(hN:p.length+l.length<=N)(hN':N<=4096)(hBa:B<=pa)(hBs:B<=bs)(hq:bs<q):
  FnL Tryz.prog 155 B [(3,pa),(5,bs)] [.slice (some ⟨q,0,none⟩) l.length l.length,ptr pa,ptr pb] [(k₁,blk pa 3 [nI p.length]),(k₂,blk pb 23 [.slice (some ⟨bs,0,none⟩) N N]),(k₃,blk bs 5 (wrt N p)),(k₄,blk q 5 (l.map byteV))] (fun _ _=>True) (fun _=>.tuple #[]) (fun _=>[(k₁,blk pa 3 [nI (p++l).length]),(k₃,blk bs 5 (wrt N (p++l)))]):=by
 have h:=writeRaw_fnL B pa pb bs q N p l h0 hN hN' hBa hBs hq
 rw[wrt_step hN,<- List.length_append] at h
 exact h.rekey rfl fun _=>rfl
set_option maxHeartbeats 1000000 in
theorem putRRaw_fnL(B:Nat)(pa pb bs N:Nat)(p:List UInt8)(L:List RecT)(hL:L.length=4)(hf:∀ r∈L,r.Fit)(hb:∀ i,i<4->¬ (L.getD i RecT.zero).Bad)(hN:p.length+180<=N)(hN':N<=4096)(hBa:B<=pa)(hBs:B<=bs): FnL Tryz.prog 157 B [(3,pa),(5,bs)] [aggV (recsV L),.func (.func 158) #[] #[],.func (.func 155) #[] #[ptr pa,ptr pb]] [(1000101,blk pa 3 [nI p.length]),(1000102,blk pb 23 [.slice (some ⟨bs,0,none⟩) N N]),(1000103,blk bs 5 (wrt N p))] (fun _ _=>True) (fun _=>.tuple #[]) (fun b=>[(1000101,blk pa 3 [nI (p++(L.take 4).flatMap RecT.l).length]),(1000103,blk bs 5 (wrt N (p++(L.take 4).flatMap RecT.l)))]):=by
 refine FnL.of (n:=24) (kw:=1000099) (ks:=1000098) Tryz.func157 rfl (by kernel_rfl) Tryz.ntmps157 (by simp) (by decide) (vbL_cons (vL rfl) (vbL_cons (vL rfl) (vbL_cons (vL rfl) vbL_nil))) (vL rfl) (vL rfl) [(0,.v (aggV (recsV L))),(1,.v (.func (.func 158) #[] #[])),(2,.v (.func (.func 155) #[] #[ptr pa,ptr pb]))]
  (fun p hp=>by simp only[List.mem_cons,List.not_mem_nil,or_false] at hp; rcases hp with rfl|rfl|rfl<;>exact⟨_,rfl,rfl⟩) fun w₀ w₁ hw hw₁=>?_
 have hBpa:w₀.heap.size<=pa:=by omega
 have hBbs:w₀.heap.size<=bs:=by omega
 refine GS (TN 0 (RN ?_));refine⟨_,_,eff_boxL (n:=24) (d:=3) (k:=1000003) rfl (by decide),fun b3 hb3=>?_⟩
 have hBb3:=hb3.1
 have hw_b3:=hb3.2.2 1000099 _ _ rfl
 refine TL (RN (GT (RL 1000003 U67 rfl rfl (size67.of (by rw[flat_length (RecT.lens hf),hL])) ?_)));refine RVN 1 rfl ?_;refine A.block ?_;refine A.loop (ι:=Nat) (fun i=>i<=4) (fun i=>[(1,.v (.func (.func 158) #[] #[])),(2,.v (.func (.func 155) #[] #[ptr pa,ptr pb])),(10,.v (aggV (recsV L))),(11,.v (nI (i))),(1000101,blk pa 3 [nI (p++(L.take i).flatMap RecT.l).length]),(1000102,blk pb 23 [.slice (some ⟨bs,0,none⟩) N N]),(1000103,blk bs 5 (wrt N (p++(L.take i).flatMap RecT.l))),(1000099,wroteL [(3,pa),(5,bs)] w₁)]) (fun i=>4-i) 0 ?_ ?_ ?_
 ·exact Nat.zero_le _
 ·exact(KC 1 rfl (KC 2 rfl (KC 10 rfl (KE 11 rfl (by rfl) (KE 1000101 rfl (by rw[List.take_zero,List.flatMap_nil,List.append_nil]) (KC 1000102 rfl (KE 1000103 rfl (by rw[List.take_zero,List.flatMap_nil,List.append_nil]) (KC 1000099 rfl KN))))))))
 intro i hG
 refine GV rfl (QS ?_);refine A.cond rfl (fun hc12=>?_) (fun hc12=>?_)
 ·have hi:i<4:=by simp at hc12; omega
  refine QK (QSB (GS (TN 1 (RS (ok_indexAgg i U67 U57 rfl size57 rfl rfl rfl hi (flat_getD (RecT.lens hf) (by omega) RecT.zero)) ?_))));refine RN ?_;refine⟨_,_,eff_allocL (n:=24) (d:=7) (k:=1000007) zero57 (by decide),fun b7 hb7=>?_⟩
  have hBb7:=hb7.1
  have hw_b7:=hb7.2.2 1000099 _ _ rfl
  refine TF 2 (RN ?_);refine⟨_,eff_storeA (n:=24) (s:=1000007) (size57.of ((hf (L.getD i RecT.zero) (getD_mem4 hL hi _)).len)) rfl rfl (by first|exact NodT.one _|exact RecT.one _|exact EntT.one _|exact RecT.all1 _|exact EntT.all1 _|exact all_byte _|exact all_bytes _) hBb7 rfl (by first|rfl|(rw[(hf (L.getD i RecT.zero) (getD_mem4 hL hi _)).len]; rfl)) (LeftS.cons (t:=1000099) rfl (Surv.wroteLN hw_b7) (LT 1000101 rfl (LT 1000102 rfl (LT 1000103 rfl (LW [1,2,7,10,11] rfl))))),?_⟩
  refine TL (RN (GS (TN 2 (RM rfl ?_))));refine RL 1000007 U57 rfl rfl (size57.of ((hf (L.getD i RecT.zero) (getD_mem4 hL hi _)).len)) ?_;refine RN ?_;refine⟨_,_,eff_nameL (n:=24) (d:=17) (k:=1000017) rfl rfl (fun B'=>ok_callVB (PutRecord_okB (L.getD i RecT.zero).x (L.getD i RecT.zero).s (L.getD i RecT.zero).c (L.getD i RecT.zero).t (hf (L.getD i RecT.zero) (getD_mem4 hL hi _)).t (hf (L.getD i RecT.zero) (getD_mem4 hL hi _)).s (hf (L.getD i RecT.zero) (getD_mem4 hL hi _)).c (hb i hi)) newD_mono rfl (A1 rfl)) (by decide) (by decide),fun b17 hb17=>?_⟩
  have hBb17:=hb17.1
  have hlt_b7_b17:b7<b17:=hb17.2.1 1000007 _ _ _ rfl
  have hw_b17:=hb17.2.2 1000099 _ _ rfl
  have hlt_pa_b17:pa<b17:=hb17.2.1 1000101 _ _ _ rfl
  have hlt_pb_b17:pb<b17:=hb17.2.1 1000102 _ _ _ rfl
  have hlt_bs_b17:bs<b17:=hb17.2.1 1000103 _ _ _ rfl
  refine TL (RV 2 rfl ?_);refine RZ (.slice (some ⟨b17,0,none⟩) (L.getD i RecT.zero).l.length (L.getD i RecT.zero).l.length) (by rw[(hf (L.getD i RecT.zero) (getD_mem4 hL hi _)).lenL]) ?_;refine RVN 3 rfl ?_;refine GE (TF 2 (RVN 2 rfl ?_));refine⟨_,eff_callL1 (n:=24) (vs:=[.slice (some ⟨b17,0,none⟩) (L.getD i RecT.zero).l.length (L.getD i RecT.zero).l.length]) (us:=[ptr pa,ptr pb]) (write_fnL 1000101 1000102 1000103 1000017 w₀.heap.size pa pb bs b17 N (p++(L.take i).flatMap RecT.l) (L.getD i RecT.zero).l (by rw[(hf (L.getD i RecT.zero) (getD_mem4 hL hi _)).lenL]; decide) (by have h1:=(hf (L.getD i RecT.zero) (getD_mem4 hL hi _)).lenL; have h2:=flat_length (RecT.lensL (take_all hf i)); rw[List.length_take,hL] at h2; rw[List.length_append]; omega) hN' hBpa hBbs hlt_bs_b17) rfl (A1 rfl) (subL_M (Sv [1000101,1000102,1000103,1000017] rfl) (vbL_cons (vL rfl) (vbL_cons (vL rfl) (vbL_cons (vL rfl) (vbL_cons (vL rfl) vbL_nil))))) (vbL_cons (vL rfl) (vbL_cons (vL rfl) vbL_nil)) (gsL_cons (k:=1000101) hBpa rfl (gsL_cons (k:=1000103) hBbs rfl gsL_nil)) (by decide) (by decide) (LeftL.cons (LT 1000007 rfl (LT 1000017 rfl (LeftS.cons (t:=1000099) rfl (Surv.wroteL (by simp)) (LT 1000102 rfl (LW [1,2,10,11] rfl))))) (LeftL.one (LT 1000007 rfl (LB 1000017 rfl (LeftS.cons (t:=1000099) rfl (Surv.wroteL (by simp)) (LT 1000102 rfl (LW [1,2,10,11] rfl))))))),?_⟩
  refine TL (RN (End.normal_block (EN (GTE (RB rfl rfl rfl ?_)))));refine Rw (i+1) ?_;refine RVN 1 rfl ?_;refine End.normal_then ?_;refine End.again (i+1) ?_ ?_ ?_
  ·show _<=_; omega
  ·show _-_<_-_; omega
  ·exact(KC 1 rfl (KC 2 rfl (KC 10 rfl (KC 11 rfl (KE 1000101 rfl (by rw[take_flat hL hi,List.append_assoc]) (KC 1000102 rfl (KE 1000103 rfl (by rw[take_flat hL hi,List.append_assoc]) (KC 1000099 rfl KN))))))))
 ·have hi2:i=4:=by simp at hc12; omega
  refine A.exit (End.exit_then (End.exit_then (End.exit_here ?_)))
  subst hi2
  exact End.wroteL0 (.inr rfl) rfl (kw:=1000099) rfl 0 trivial (by decide) (lookL_cons (k:=1000101) (vL rfl) rfl (lookL_cons (k:=1000103) (vL rfl) rfl lookL_nil))
theorem putR_fnL(k₁ k₂ k₃ B:Nat)(pa pb bs N:Nat)(p:List UInt8)(L:List RecT)(hL:L.length=4)(hf:∀ r∈L,r.Fit)(hb:∀ i,i<4->¬ (L.getD i RecT.zero).Bad)(hN:p.length+180<=N)(hN':N<=4096)(hBa:B<=pa)(hBs:B<=bs):
  FnL Tryz.prog 157 B [(3,pa),(5,bs)] [aggV (recsV L),.func (.func 158) #[] #[],.func (.func 155) #[] #[ptr pa,ptr pb]] [(k₁,blk pa 3 [nI p.length]),(k₂,blk pb 23 [.slice (some ⟨bs,0,none⟩) N N]),(k₃,blk bs 5 (wrt N p))] (fun _ _=>True) (fun _=>.tuple #[]) (fun _=>[(k₁,blk pa 3 [nI (p++L.flatMap RecT.l).length]),(k₃,blk bs 5 (wrt N (p++L.flatMap RecT.l)))]):=by
 have h:=putRRaw_fnL B pa pb bs N p L hL hf hb hN hN' hBa hBs
 rw[List.take_of_length_le (Nat.le_of_eq hL)] at h
 exact h.rekey rfl fun _=>rfl
set_option maxHeartbeats 1000000 in
theorem putERaw_fnL(B:Nat)(pa pb bs N:Nat)(p:List UInt8)(L:List EntT)(hL:L.length=4)(hf:∀ r∈L,r.Fit)(hb:∀ i,i<4->¬ (L.getD i EntT.zero).Bad)(hN:p.length+132<=N)(hN':N<=4096)(hBa:B<=pa)(hBs:B<=bs): FnL Tryz.prog 159 B [(3,pa),(5,bs)] [aggV (entsV L),.func (.func 160) #[] #[],.func (.func 155) #[] #[ptr pa,ptr pb]] [(1000101,blk pa 3 [nI p.length]),(1000102,blk pb 23 [.slice (some ⟨bs,0,none⟩) N N]),(1000103,blk bs 5 (wrt N p))] (fun _ _=>True) (fun _=>.tuple #[]) (fun b=>[(1000101,blk pa 3 [nI (p++(L.take 4).flatMap EntT.l).length]),(1000103,blk bs 5 (wrt N (p++(L.take 4).flatMap EntT.l)))]):=by
 refine FnL.of (n:=24) (kw:=1000099) (ks:=1000098) Tryz.func159 rfl (by kernel_rfl) Tryz.ntmps159 (by simp) (by decide) (vbL_cons (vL rfl) (vbL_cons (vL rfl) (vbL_cons (vL rfl) vbL_nil))) (vL rfl) (vL rfl) [(0,.v (aggV (entsV L))),(1,.v (.func (.func 160) #[] #[])),(2,.v (.func (.func 155) #[] #[ptr pa,ptr pb]))]
  (fun p hp=>by simp only[List.mem_cons,List.not_mem_nil,or_false] at hp; rcases hp with rfl|rfl|rfl<;>exact⟨_,rfl,rfl⟩) fun w₀ w₁ hw hw₁=>?_
 have hBpa:w₀.heap.size<=pa:=by omega
 have hBbs:w₀.heap.size<=bs:=by omega
 refine GS (TN 0 (RN ?_));refine⟨_,_,eff_boxL (n:=24) (d:=3) (k:=1000003) rfl (by decide),fun b3 hb3=>?_⟩
 have hBb3:=hb3.1
 have hw_b3:=hb3.2.2 1000099 _ _ rfl
 refine TL (RN (GT (RL 1000003 U70 rfl rfl (size70.of (by rw[flat_length (EntT.lens hf),hL])) ?_)));refine RVN 1 rfl ?_;refine A.block ?_;refine A.loop (ι:=Nat) (fun i=>i<=4) (fun i=>[(1,.v (.func (.func 160) #[] #[])),(2,.v (.func (.func 155) #[] #[ptr pa,ptr pb])),(10,.v (aggV (entsV L))),(11,.v (nI (i))),(1000101,blk pa 3 [nI (p++(L.take i).flatMap EntT.l).length]),(1000102,blk pb 23 [.slice (some ⟨bs,0,none⟩) N N]),(1000103,blk bs 5 (wrt N (p++(L.take i).flatMap EntT.l))),(1000099,wroteL [(3,pa),(5,bs)] w₁)]) (fun i=>4-i) 0 ?_ ?_ ?_
 ·exact Nat.zero_le _
 ·exact(KC 1 rfl (KC 2 rfl (KC 10 rfl (KE 11 rfl (by rfl) (KE 1000101 rfl (by rw[List.take_zero,List.flatMap_nil,List.append_nil]) (KC 1000102 rfl (KE 1000103 rfl (by rw[List.take_zero,List.flatMap_nil,List.append_nil]) (KC 1000099 rfl KN))))))))
 intro i hG
 refine GV rfl (QS ?_);refine A.cond rfl (fun hc12=>?_) (fun hc12=>?_)
 ·have hi:i<4:=by simp at hc12; omega
  refine QK (QSB (GS (TN 1 (RS (ok_indexAgg i U70 U69 rfl size69 rfl rfl rfl hi (flat_getD (EntT.lens hf) (by omega) EntT.zero)) ?_))));refine RN ?_;refine⟨_,_,eff_allocL (n:=24) (d:=7) (k:=1000007) zero69 (by decide),fun b7 hb7=>?_⟩
  have hBb7:=hb7.1
  have hw_b7:=hb7.2.2 1000099 _ _ rfl
  refine TF 2 (RN ?_);refine⟨_,eff_storeA (n:=24) (s:=1000007) (size69.of ((hf (L.getD i EntT.zero) (getD_mem4 hL hi _)).len)) rfl rfl (by first|exact NodT.one _|exact RecT.one _|exact EntT.one _|exact RecT.all1 _|exact EntT.all1 _|exact all_byte _|exact all_bytes _) hBb7 rfl (by first|rfl|(rw[(hf (L.getD i EntT.zero) (getD_mem4 hL hi _)).len]; rfl)) (LeftS.cons (t:=1000099) rfl (Surv.wroteLN hw_b7) (LT 1000101 rfl (LT 1000102 rfl (LT 1000103 rfl (LW [1,2,7,10,11] rfl))))),?_⟩
  refine TL (RN (GS (TN 2 (RM rfl ?_))));refine RL 1000007 U69 rfl rfl (size69.of ((hf (L.getD i EntT.zero) (getD_mem4 hL hi _)).len)) ?_;refine RN ?_;refine⟨_,_,eff_nameL (n:=24) (d:=17) (k:=1000017) rfl rfl (fun B'=>ok_callVB (PutEntry_okB (L.getD i EntT.zero).x (L.getD i EntT.zero).t (hf (L.getD i EntT.zero) (getD_mem4 hL hi _)).t (hb i hi)) newD_mono rfl (A1 rfl)) (by decide) (by decide),fun b17 hb17=>?_⟩
  have hBb17:=hb17.1
  have hlt_b7_b17:b7<b17:=hb17.2.1 1000007 _ _ _ rfl
  have hw_b17:=hb17.2.2 1000099 _ _ rfl
  have hlt_pa_b17:pa<b17:=hb17.2.1 1000101 _ _ _ rfl
  have hlt_pb_b17:pb<b17:=hb17.2.1 1000102 _ _ _ rfl
  have hlt_bs_b17:bs<b17:=hb17.2.1 1000103 _ _ _ rfl
  refine TL (RV 2 rfl ?_);refine RZ (.slice (some ⟨b17,0,none⟩) (L.getD i EntT.zero).l.length (L.getD i EntT.zero).l.length) (by rw[(hf (L.getD i EntT.zero) (getD_mem4 hL hi _)).lenL]) ?_;refine RVN 3 rfl ?_;refine GE (TF 2 (RVN 2 rfl ?_));refine⟨_,eff_callL1 (n:=24) (vs:=[.slice (some ⟨b17,0,none⟩) (L.getD i EntT.zero).l.length (L.getD i EntT.zero).l.length]) (us:=[ptr pa,ptr pb]) (write_fnL 1000101 1000102 1000103 1000017 w₀.heap.size pa pb bs b17 N (p++(L.take i).flatMap EntT.l) (L.getD i EntT.zero).l (by rw[(hf (L.getD i EntT.zero) (getD_mem4 hL hi _)).lenL]; decide) (by have h1:=(hf (L.getD i EntT.zero) (getD_mem4 hL hi _)).lenL; have h2:=flat_length (EntT.lensL (take_all hf i)); rw[List.length_take,hL] at h2; rw[List.length_append]; omega) hN' hBpa hBbs hlt_bs_b17) rfl (A1 rfl) (subL_M (Sv [1000101,1000102,1000103,1000017] rfl) (vbL_cons (vL rfl) (vbL_cons (vL rfl) (vbL_cons (vL rfl) (vbL_cons (vL rfl) vbL_nil))))) (vbL_cons (vL rfl) (vbL_cons (vL rfl) vbL_nil)) (gsL_cons (k:=1000101) hBpa rfl (gsL_cons (k:=1000103) hBbs rfl gsL_nil)) (by decide) (by decide) (LeftL.cons (LT 1000007 rfl (LT 1000017 rfl (LeftS.cons (t:=1000099) rfl (Surv.wroteL (by simp)) (LT 1000102 rfl (LW [1,2,10,11] rfl))))) (LeftL.one (LT 1000007 rfl (LB 1000017 rfl (LeftS.cons (t:=1000099) rfl (Surv.wroteL (by simp)) (LT 1000102 rfl (LW [1,2,10,11] rfl))))))),?_⟩
  refine TL (RN (End.normal_block (EN (GTE (RB rfl rfl rfl ?_)))));refine Rw (i+1) ?_;refine RVN 1 rfl ?_;refine End.normal_then ?_;refine End.again (i+1) ?_ ?_ ?_
  ·show _<=_; omega
  ·show _-_<_-_; omega
  ·exact(KC 1 rfl (KC 2 rfl (KC 10 rfl (KC 11 rfl (KE 1000101 rfl (by rw[take_flat hL hi,List.append_assoc]) (KC 1000102 rfl (KE 1000103 rfl (by rw[take_flat hL hi,List.append_assoc]) (KC 1000099 rfl KN))))))))
 ·have hi2:i=4:=by simp at hc12; omega
  refine A.exit (End.exit_then (End.exit_then (End.exit_here ?_)))
  subst hi2
  exact End.wroteL0 (.inr rfl) rfl (kw:=1000099) rfl 0 trivial (by decide) (lookL_cons (k:=1000101) (vL rfl) rfl (lookL_cons (k:=1000103) (vL rfl) rfl lookL_nil))
theorem putE_fnL(k₁ k₂ k₃ B:Nat)(pa pb bs N:Nat)(p:List UInt8)(L:List EntT)(hL:L.length=4)(hf:∀ r∈L,r.Fit)(hb:∀ i,i<4->¬ (L.getD i EntT.zero).Bad)(hN:p.length+132<=N)(hN':N<=4096)(hBa:B<=pa)(hBs:B<=bs):
  FnL Tryz.prog 159 B [(3,pa),(5,bs)] [aggV (entsV L),.func (.func 160) #[] #[],.func (.func 155) #[] #[ptr pa,ptr pb]] [(k₁,blk pa 3 [nI p.length]),(k₂,blk pb 23 [.slice (some ⟨bs,0,none⟩) N N]),(k₃,blk bs 5 (wrt N p))] (fun _ _=>True) (fun _=>.tuple #[]) (fun _=>[(k₁,blk pa 3 [nI (p++L.flatMap EntT.l).length]),(k₃,blk bs 5 (wrt N (p++L.flatMap EntT.l)))]):=by
 have h:=putERaw_fnL B pa pb bs N p L hL hf hb hN hN' hBa hBs
 rw[List.take_of_length_le (Nat.le_of_eq hL)] at h
 exact h.rekey rfl fun _=>rfl
set_option maxHeartbeats 2000000 in
theorem nPut_RB(x:NodT)(hx:x.Fit)(hk:x.ck=0)(h0:x.l.toNat=0): FnMB Tryz.prog 136 tabS [.v (aggV x.v)] (fun B=>newD B 5 (fun b=>.tuple #[.slice (some ⟨b,0,none⟩) (NodT.sz x.l.toNat) (NodT.sz x.l.toNat),.int .i64 0]) (x.bl.map byteV)):=by
 have hk5:=NodT.ck_ok hk
 have hl5:=hk5.1
 refine FnMB.of Tryz.func136 rfl (by kernel_rfl) Tryz.ntmps136 (by simp) (by decide) (fun w=>[(0,.v (aggV x.v)),(1900000,tab 0 (sizV))]) (fun w=>(StartM.v rfl (StartM.m (by simp[tabS]) (by decide) StartM.nil))) fun w₀ hM=>?_
 have htab:=tabS_hi hM
 refine GS (TN 0 (RN ?_));refine ZB 1000001 rfl fun b1 ⟨hBb1,hb1⟩=>?_
 refine TL (RVN 2 rfl ?_);refine QS (GT (RL 1000001 U72 rfl rfl (size72.of (hx.len)) ?_));refine RS (ok_call (nCheck_fn x hx) (A1 rfl)) ?_;refine RZ (.int .i64 0) (by rw[hk]) ?_;refine RVN 1 rfl ?_;refine GT (RV 2 rfl ?_);refine RF ?_;refine RN (A.no rfl ?_);refine QK (GS (TN 4 (Rf field72_0 ?_)));refine RLV 1000001 U5 rfl rfl rfl ?_;refine RS (ok_index0 x.l.toNat U243 info3 rfl rfl rfl (by omega)) ?_;refine RS (ok_loadVT (s:=1900000) (by decide) U3 rfl rfl rfl (siz_get (by omega))) ?_;refine RN ?_;refine⟨_,_,eff_nameF (c:=(NodT.sz x.l.toNat)) (by simp) (n:=40) (d:=17) (k:=1000017) rfl rfl (fun B'=>ok_make (NodT.sz x.l.toNat) U23 info5 (by decide) rfl rfl rfl rfl rfl (by have:=sz_le x.l.toNat; omega)) (by decide) (by decide),fun b17 hb17=>?_⟩
 have hBb17:=hb17.1
 have hlt_b1_b17:b1<b17:=hb17.2 1000001 _ _ _ rfl
 refine TN 5 (RN ?_);refine ZN 1000005 zero23 fun b5 ⟨hBb5,hb5⟩=>?_
 refine TN 6 (RN ?_);refine ZN 1000006 zero3 fun b6 ⟨hBb6,hb6⟩=>?_
 refine TF 7 (RN ?_);refine⟨_,eff_storeS (n:=40) (s:=1000005) info23 rfl rfl rfl hBb5 rfl (by simp) (LT 1000001 rfl (LT 1000006 rfl (LT 1000017 rfl (LQ 1900000 rfl (LW [1,5,6] rfl))))),?_⟩
 refine TF 8 (RN ?_);refine⟨_,eff_storeS (n:=40) (s:=1000006) info3 rfl rfl rfl hBb6 rfl (by simp) (LT 1000001 rfl (LT 1000005 rfl (LT 1000017 rfl (LQ 1900000 rfl (LW [1,5,6] rfl))))),?_⟩
 refine TL (RN (A.sub (KC 1 rfl (KC 5 rfl (KC 6 rfl (KC 1000001 rfl (KC 1000005 rfl (KE 1000006 rfl (show _=blk b6 3 [nI ([]:List UInt8).length] from rfl) (KE 1000017 rfl (show _=blk b17 5 (wrt (NodT.sz x.l.toNat) []) from congrArg _ (wrt_zero _).symm) (KC 1900000 rfl KN)))))))) ?_));refine GT (RS (ok_makeFuncN [ptr b6,ptr b5] ⟨rfl,rfl,trivial⟩) ?_);refine RVN 1 rfl ?_;refine GS (TN 3 (RM rfl ?_));refine Rf field72_0 ?_;refine RLV 1000001 U5 rfl rfl rfl ?_;refine RN ?_;refine ZM 1000022 (fun B'=>ok_build1B U23 info5 rfl rfl) rfl fun b22 ⟨hBb22,hb22⟩=>?_
 have hlt_b1_b22:=hb22 1000001 b1 _ _ rfl
 have hlt_b5_b22:=hb22 1000005 b5 _ _ rfl
 have hlt_b6_b22:=hb22 1000006 b6 _ _ rfl
 have hlt_b17_b22:=hb22 1000017 b17 _ _ rfl
 refine TF 4 (RN ?_);refine⟨_,eff_callL1 (n:=40) (vs:=[.slice (some ⟨b22,0,none⟩) ([x.l]:List UInt8).length ([x.l]:List UInt8).length]) (us:=[ptr b6,ptr b5]) (write_fnL 1000006 1000005 1000017 1000022 w₀.heap.size b6 b5 b17 b22 (NodT.sz x.l.toNat) (([]:List UInt8)) ([x.l]) (by rw[show[x.l].length=1 from rfl]; decide) (by have:=sz_le x.l.toNat; simp[be_length]; omega) (by have:=sz_le x.l.toNat; omega) hBb6 hBb17 hlt_b17_b22) rfl (A1 rfl) (subL_M (Sv [1000006,1000005,1000017,1000022] rfl) (vbL_cons (vL rfl) (vbL_cons (vL rfl) (vbL_cons (vL rfl) (vbL_cons (vL rfl) vbL_nil))))) (vbL_cons (vL rfl) (vbL_cons (vL rfl) vbL_nil)) (gsL_cons (k:=1000006) hBb6 rfl (gsL_cons (k:=1000017) hBb17 rfl gsL_nil)) (by decide) (by decide) (LeftL.cons (LT 1000001 rfl (LT 1000005 rfl (LT 1000022 rfl (LQ 1900000 rfl (LW [1,5,7] rfl))))) (LeftL.one (LT 1000001 rfl (LT 1000005 rfl (LB 1000022 rfl (LQ 1900000 rfl (LW [1,5,7] rfl))))))),?_⟩
 refine TL (RN (A.sub (KC 1 rfl (KC 5 rfl (KC 7 rfl (KC 1000001 rfl (KC 1000005 rfl (KC 1000006 rfl (KE 1000017 rfl (rfl) (KC 1000022 rfl (KC 1900000 rfl KN))))))))) ?_));refine GS (TN 3 (RM rfl ?_));refine Rf field72_1 ?_;refine RLV 1000001 U53 rfl rfl rfl ?_;refine RN ?_;refine⟨_,_,eff_nameF (c:=4) (by rw[List.length_map,be_length]) (n:=40) (d:=27) (k:=1000027) rfl rfl (fun B'=>ok_callB (Put32_fnB x.j hx.j) (fun _ _=>fresh_mono _ _) (A1 rfl)) (by decide) (by decide),fun b27 hb27=>?_⟩
 have hBb27:=hb27.1
 have hlt_b1_b27:b1<b27:=hb27.2 1000001 _ _ _ rfl
 have hlt_b5_b27:b5<b27:=hb27.2 1000005 _ _ _ rfl
 have hlt_b6_b27:b6<b27:=hb27.2 1000006 _ _ _ rfl
 have hlt_b17_b27:b17<b27:=hb27.2 1000017 _ _ _ rfl
 have hlt_b22_b27:b22<b27:=hb27.2 1000022 _ _ _ rfl
 refine TF 4 (RN ?_);refine⟨_,eff_callL1 (n:=40) (vs:=[.slice (some ⟨b27,0,none⟩) (be 4 x.j:List UInt8).length (be 4 x.j:List UInt8).length]) (us:=[ptr b6,ptr b5]) (write_fnL 1000006 1000005 1000017 1000027 w₀.heap.size b6 b5 b17 b27 (NodT.sz x.l.toNat) ([]++[x.l]) (be 4 x.j) (by rw[be_length]; decide) (by have:=sz_le x.l.toNat; simp[be_length]; omega) (by have:=sz_le x.l.toNat; omega) hBb6 hBb17 hlt_b17_b27) rfl (A1 rfl) (subL_M (Sv [1000006,1000005,1000017,1000027] rfl) (vbL_cons (vL rfl) (vbL_cons (vL rfl) (vbL_cons (vL rfl) (vbL_cons (vL rfl) vbL_nil))))) (vbL_cons (vL rfl) (vbL_cons (vL rfl) vbL_nil)) (gsL_cons (k:=1000006) hBb6 rfl (gsL_cons (k:=1000017) hBb17 rfl gsL_nil)) (by decide) (by decide) (LeftL.cons (LT 1000001 rfl (LT 1000005 rfl (LT 1000022 rfl (LT 1000027 rfl (LQ 1900000 rfl (LW [1,5,7] rfl)))))) (LeftL.one (LT 1000001 rfl (LT 1000005 rfl (LB 1000022 rfl (LB 1000027 rfl (LQ 1900000 rfl (LW [1,5,7] rfl)))))))),?_⟩
 refine TL (RN (QS (GT (RL 1000001 U72 rfl rfl (size72.of (hx.len)) ?_))));refine RS (ok_call (isGroup_y x hx h0) (A1 rfl)) ?_;refine RN (A.yes rfl ?_);refine GE (TF 3 (Rf field72_2 ?_));refine RS (ok_loadP (s:=1000001) (by decide) U67 rfl size67 rfl rfl (by rw[hx.len]; decide) (hx.getR)) ?_;refine RVN 1 rfl ?_;refine⟨_,eff_callL1 (n:=40) (vs:=[aggV (recsV x.R),.func (.func 158) #[] #[],.func (.func 155) #[] #[ptr b6,ptr b5]]) (us:=[]) (putR_fnL 1000006 1000005 1000017 w₀.heap.size b6 b5 b17 (NodT.sz x.l.toNat) ([]++[x.l]++be 4 x.j) x.R hx.lr hx.fr (hk5.2.1 h0).2 (by unfold NodT.sz; simp[be_length,h0]) (by have:=sz_le x.l.toNat; omega) hBb6 hBb17) rfl (A3 rfl rfl rfl) (subL_M (Sv [1000006,1000005,1000017] rfl) (vbL_cons (vL rfl) (vbL_cons (vL rfl) (vbL_cons (vL rfl) vbL_nil)))) (vbL_cons (vL rfl) (vbL_cons (vL rfl) vbL_nil)) (gsL_cons (k:=1000006) hBb6 rfl (gsL_cons (k:=1000017) hBb17 rfl gsL_nil)) (by decide) (by decide) (LeftL.cons (LV 5 rfl (LT 1000001 rfl (LT 1000005 rfl (LT 1000022 rfl (LT 1000027 rfl (LQ 1900000 rfl LN)))))) (LeftL.one (LV 5 rfl (LT 1000001 rfl (LT 1000005 rfl (LB 1000022 rfl (LB 1000027 rfl (LQ 1900000 rfl LN)))))))),?_⟩
 refine TL (RN (EN (GT (RLV 1000005 U23 rfl rfl rfl ?_))));refine RVN 2 rfl ?_;refine A.ret ?_;exact End.newTT (kg:=1000017) rfl rfl rfl rfl hBb17 rfl (by rw[wrt_full (by rw[bl_R h0,hx.bl_length]),bl_R h0])
set_option maxHeartbeats 2000000 in
theorem nPut_EB(x:NodT)(hx:x.Fit)(hk:x.ck=0)(h0:¬ x.l.toNat=0): FnMB Tryz.prog 136 tabS [.v (aggV x.v)] (fun B=>newD B 5 (fun b=>.tuple #[.slice (some ⟨b,0,none⟩) (NodT.sz x.l.toNat) (NodT.sz x.l.toNat),.int .i64 0]) (x.bl.map byteV)):=by
 have hk5:=NodT.ck_ok hk
 have hl5:=hk5.1
 refine FnMB.of Tryz.func136 rfl (by kernel_rfl) Tryz.ntmps136 (by simp) (by decide) (fun w=>[(0,.v (aggV x.v)),(1900000,tab 0 (sizV))]) (fun w=>(StartM.v rfl (StartM.m (by simp[tabS]) (by decide) StartM.nil))) fun w₀ hM=>?_
 have htab:=tabS_hi hM
 refine GS (TN 0 (RN ?_));refine ZB 1000001 rfl fun b1 ⟨hBb1,hb1⟩=>?_
 refine TL (RVN 2 rfl ?_);refine QS (GT (RL 1000001 U72 rfl rfl (size72.of (hx.len)) ?_));refine RS (ok_call (nCheck_fn x hx) (A1 rfl)) ?_;refine RZ (.int .i64 0) (by rw[hk]) ?_;refine RVN 1 rfl ?_;refine GT (RV 2 rfl ?_);refine RF ?_;refine RN (A.no rfl ?_);refine QK (GS (TN 4 (Rf field72_0 ?_)));refine RLV 1000001 U5 rfl rfl rfl ?_;refine RS (ok_index0 x.l.toNat U243 info3 rfl rfl rfl (by omega)) ?_;refine RS (ok_loadVT (s:=1900000) (by decide) U3 rfl rfl rfl (siz_get (by omega))) ?_;refine RN ?_;refine⟨_,_,eff_nameF (c:=(NodT.sz x.l.toNat)) (by simp) (n:=40) (d:=17) (k:=1000017) rfl rfl (fun B'=>ok_make (NodT.sz x.l.toNat) U23 info5 (by decide) rfl rfl rfl rfl rfl (by have:=sz_le x.l.toNat; omega)) (by decide) (by decide),fun b17 hb17=>?_⟩
 have hBb17:=hb17.1
 have hlt_b1_b17:b1<b17:=hb17.2 1000001 _ _ _ rfl
 refine TN 5 (RN ?_);refine ZN 1000005 zero23 fun b5 ⟨hBb5,hb5⟩=>?_
 refine TN 6 (RN ?_);refine ZN 1000006 zero3 fun b6 ⟨hBb6,hb6⟩=>?_
 refine TF 7 (RN ?_);refine⟨_,eff_storeS (n:=40) (s:=1000005) info23 rfl rfl rfl hBb5 rfl (by simp) (LT 1000001 rfl (LT 1000006 rfl (LT 1000017 rfl (LQ 1900000 rfl (LW [1,5,6] rfl))))),?_⟩
 refine TF 8 (RN ?_);refine⟨_,eff_storeS (n:=40) (s:=1000006) info3 rfl rfl rfl hBb6 rfl (by simp) (LT 1000001 rfl (LT 1000005 rfl (LT 1000017 rfl (LQ 1900000 rfl (LW [1,5,6] rfl))))),?_⟩
 refine TL (RN (A.sub (KC 1 rfl (KC 5 rfl (KC 6 rfl (KC 1000001 rfl (KC 1000005 rfl (KE 1000006 rfl (show _=blk b6 3 [nI ([]:List UInt8).length] from rfl) (KE 1000017 rfl (show _=blk b17 5 (wrt (NodT.sz x.l.toNat) []) from congrArg _ (wrt_zero _).symm) (KC 1900000 rfl KN)))))))) ?_));refine GT (RS (ok_makeFuncN [ptr b6,ptr b5] ⟨rfl,rfl,trivial⟩) ?_);refine RVN 1 rfl ?_;refine GS (TN 3 (RM rfl ?_));refine Rf field72_0 ?_;refine RLV 1000001 U5 rfl rfl rfl ?_;refine RN ?_;refine ZM 1000022 (fun B'=>ok_build1B U23 info5 rfl rfl) rfl fun b22 ⟨hBb22,hb22⟩=>?_
 have hlt_b1_b22:=hb22 1000001 b1 _ _ rfl
 have hlt_b5_b22:=hb22 1000005 b5 _ _ rfl
 have hlt_b6_b22:=hb22 1000006 b6 _ _ rfl
 have hlt_b17_b22:=hb22 1000017 b17 _ _ rfl
 refine TF 4 (RN ?_);refine⟨_,eff_callL1 (n:=40) (vs:=[.slice (some ⟨b22,0,none⟩) ([x.l]:List UInt8).length ([x.l]:List UInt8).length]) (us:=[ptr b6,ptr b5]) (write_fnL 1000006 1000005 1000017 1000022 w₀.heap.size b6 b5 b17 b22 (NodT.sz x.l.toNat) (([]:List UInt8)) ([x.l]) (by rw[show[x.l].length=1 from rfl]; decide) (by have:=sz_le x.l.toNat; simp[be_length]; omega) (by have:=sz_le x.l.toNat; omega) hBb6 hBb17 hlt_b17_b22) rfl (A1 rfl) (subL_M (Sv [1000006,1000005,1000017,1000022] rfl) (vbL_cons (vL rfl) (vbL_cons (vL rfl) (vbL_cons (vL rfl) (vbL_cons (vL rfl) vbL_nil))))) (vbL_cons (vL rfl) (vbL_cons (vL rfl) vbL_nil)) (gsL_cons (k:=1000006) hBb6 rfl (gsL_cons (k:=1000017) hBb17 rfl gsL_nil)) (by decide) (by decide) (LeftL.cons (LT 1000001 rfl (LT 1000005 rfl (LT 1000022 rfl (LQ 1900000 rfl (LW [1,5,7] rfl))))) (LeftL.one (LT 1000001 rfl (LT 1000005 rfl (LB 1000022 rfl (LQ 1900000 rfl (LW [1,5,7] rfl))))))),?_⟩
 refine TL (RN (A.sub (KC 1 rfl (KC 5 rfl (KC 7 rfl (KC 1000001 rfl (KC 1000005 rfl (KC 1000006 rfl (KE 1000017 rfl (rfl) (KC 1000022 rfl (KC 1900000 rfl KN))))))))) ?_));refine GS (TN 3 (RM rfl ?_));refine Rf field72_1 ?_;refine RLV 1000001 U53 rfl rfl rfl ?_;refine RN ?_;refine⟨_,_,eff_nameF (c:=4) (by rw[List.length_map,be_length]) (n:=40) (d:=27) (k:=1000027) rfl rfl (fun B'=>ok_callB (Put32_fnB x.j hx.j) (fun _ _=>fresh_mono _ _) (A1 rfl)) (by decide) (by decide),fun b27 hb27=>?_⟩
 have hBb27:=hb27.1
 have hlt_b1_b27:b1<b27:=hb27.2 1000001 _ _ _ rfl
 have hlt_b5_b27:b5<b27:=hb27.2 1000005 _ _ _ rfl
 have hlt_b6_b27:b6<b27:=hb27.2 1000006 _ _ _ rfl
 have hlt_b17_b27:b17<b27:=hb27.2 1000017 _ _ _ rfl
 have hlt_b22_b27:b22<b27:=hb27.2 1000022 _ _ _ rfl
 refine TF 4 (RN ?_);refine⟨_,eff_callL1 (n:=40) (vs:=[.slice (some ⟨b27,0,none⟩) (be 4 x.j:List UInt8).length (be 4 x.j:List UInt8).length]) (us:=[ptr b6,ptr b5]) (write_fnL 1000006 1000005 1000017 1000027 w₀.heap.size b6 b5 b17 b27 (NodT.sz x.l.toNat) ([]++[x.l]) (be 4 x.j) (by rw[be_length]; decide) (by have:=sz_le x.l.toNat; simp[be_length]; omega) (by have:=sz_le x.l.toNat; omega) hBb6 hBb17 hlt_b17_b27) rfl (A1 rfl) (subL_M (Sv [1000006,1000005,1000017,1000027] rfl) (vbL_cons (vL rfl) (vbL_cons (vL rfl) (vbL_cons (vL rfl) (vbL_cons (vL rfl) vbL_nil))))) (vbL_cons (vL rfl) (vbL_cons (vL rfl) vbL_nil)) (gsL_cons (k:=1000006) hBb6 rfl (gsL_cons (k:=1000017) hBb17 rfl gsL_nil)) (by decide) (by decide) (LeftL.cons (LT 1000001 rfl (LT 1000005 rfl (LT 1000022 rfl (LT 1000027 rfl (LQ 1900000 rfl (LW [1,5,7] rfl)))))) (LeftL.one (LT 1000001 rfl (LT 1000005 rfl (LB 1000022 rfl (LB 1000027 rfl (LQ 1900000 rfl (LW [1,5,7] rfl)))))))),?_⟩
 refine TL (RN (QS (GT (RL 1000001 U72 rfl rfl (size72.of (hx.len)) ?_))));refine RS (ok_call (isGroup_n x hx h0) (A1 rfl)) ?_;refine RN (A.no rfl ?_);refine GE (TF 3 (Rf field72_3 ?_));refine RS (ok_loadP (s:=1000001) (by decide) U70 rfl size70 rfl rfl (by rw[hx.len]; decide) (hx.getE)) ?_;refine RVN 1 rfl ?_;refine⟨_,eff_callL1 (n:=40) (vs:=[aggV (entsV x.E),.func (.func 160) #[] #[],.func (.func 155) #[] #[ptr b6,ptr b5]]) (us:=[]) (putE_fnL 1000006 1000005 1000017 w₀.heap.size b6 b5 b17 (NodT.sz x.l.toNat) ([]++[x.l]++be 4 x.j) x.E hx.le hx.fe (hk5.2.2 h0).2 (by unfold NodT.sz; simp[be_length,h0]) (by have:=sz_le x.l.toNat; omega) hBb6 hBb17) rfl (A3 rfl rfl rfl) (subL_M (Sv [1000006,1000005,1000017] rfl) (vbL_cons (vL rfl) (vbL_cons (vL rfl) (vbL_cons (vL rfl) vbL_nil)))) (vbL_cons (vL rfl) (vbL_cons (vL rfl) vbL_nil)) (gsL_cons (k:=1000006) hBb6 rfl (gsL_cons (k:=1000017) hBb17 rfl gsL_nil)) (by decide) (by decide) (LeftL.cons (LV 5 rfl (LT 1000001 rfl (LT 1000005 rfl (LT 1000022 rfl (LT 1000027 rfl (LQ 1900000 rfl LN)))))) (LeftL.one (LV 5 rfl (LT 1000001 rfl (LT 1000005 rfl (LB 1000022 rfl (LB 1000027 rfl (LQ 1900000 rfl LN)))))))),?_⟩
 refine TL (RN (EN (GT (RLV 1000005 U23 rfl rfl rfl ?_))));refine RVN 2 rfl ?_;refine A.ret ?_;exact End.newTT (kg:=1000017) rfl rfl rfl rfl hBb17 rfl (by rw[wrt_full (by rw[bl_E h0,hx.bl_length]),bl_E h0])
theorem nPut_okB(x:NodT)(hx:x.Fit)(hk:x.ck=0): FnMB Tryz.prog 136 tabS [.v (aggV x.v)] (fun B=>newD B 5 (fun b=>.tuple #[.slice (some ⟨b,0,none⟩) (NodT.sz x.l.toNat) (NodT.sz x.l.toNat),.int .i64 0]) (x.bl.map byteV)):=by
 by_cases h0:x.l.toNat=0
 ·exact nPut_RB x hx hk h0
 ·exact nPut_EB x hx hk h0
theorem nPut_ok(x:NodT)(hx:x.Fit)(hk:x.ck=0): FnM Tryz.prog 136 tabS [.v (aggV x.v)] (tup [bytes x.bl (NodT.sz x.l.toNat),.v (.int .i64 0)]) :=
 (nPut_okB x hx hk).fn fun B=>newD_tup hx.bl_length (by have:=sz_le x.l.toNat; simp only[maxLen]; omega)
section
inductive FromN (ops:Array Oper) (vals:List Value) (E0:Env) (o:Oper):Env->Prop
 | nil:FromN ops vals E0 o []
 | all:FromN ops vals E0 o E0
 | base {t:Nat} {d:D} {E:Env} (h:E0.look t=some d) (hr:FromN ops vals E0 o E):FromN ops vals E0 o ((t,d)::E)
 | op {t:Nat} {v:Value} {E:Env} (j:Nat) (he:(o.after.any fun e=>Region.binds .any e&&e.on==j)=true) (hd:(ops[j]?).bind (·.dst)=some t) (hv:vals[j]?=some v) (hr:FromN ops vals E0 o E):FromN ops vals E0 o ((t,.v v)::E)
inductive FromE (ops:Array Oper) (vals:List Value) (E0:Env):Env->Prop
 | nil:FromE ops vals E0 []
 | all:FromE ops vals E0 E0
 | base {t:Nat} {d:D} {E:Env} (h:E0.look t=some d) (hr:FromE ops vals E0 E):FromE ops vals E0 ((t,d)::E)
 | op {t:Nat} {v:Value} {E:Env} (j:Nat) (hd:(ops[j]?).bind (·.dst)=some t) (hv:vals[j]?=some v) (hr:FromE ops vals E0 E):FromE ops vals E0 ((t,.v v)::E)
def downsN (ops:Array Oper):Bool:=(List.range ops.size).all fun i=>match ops[i]? with
 | none=>false
 | some o=>o.guard.isNone&&o.after.all (fun e=>!Region.binds .any e||decide (e.on<i))&&(List.range ops.size).all fun j=>match ops[j]? with
  | none=>false
  | some q=>j==i||o.dst==none||o.dst != q.dst
section
variable {P:Program} {n B:Nat} {ops:Array Oper} {κ:Cx} {Q:Exit->Act->World->Prop} {vals:List Value} {E0:Env}
theorem downs_get(h:downsN ops=true){o:Oper}(hi:ops[i]?=some o): o.guard=none∧(∀ e∈o.after,Region.binds .any e=true->e.on<i)∧∀ j q,ops[j]?=some q->j≠i->o.dst≠none->o.dst≠q.dst:=by
 have hlt:i<ops.size:=(Array.getElem?_eq_some_iff.1 hi).1
 have h1:=List.all_eq_true.1 h i (List.mem_range.2 hlt)
 simp only[hi,Bool.and_eq_true] at h1
 refine⟨by simpa using h1.1.1,fun e he hb=>?_,fun j q hj hne hnn=>?_⟩
 ·have h2:=Array.all_eq_true_iff_forall_mem.1 h1.1.2 e he
  simpa [hb] using h2
 ·have h3:=List.all_eq_true.1 h1.2 j (List.mem_range.2 (Array.getElem?_eq_some_iff.1 hj).1)
  simp only[hj,Bool.or_eq_true,beq_iff_eq,bne_iff_ne,ne_eq] at h3
  rcases h3 with (h3|h3)|h3
  ·exact absurd h3 hne
  ·exact absurd h3 hnn
  ·exact h3
end
end
section
inductive Onces (P:Program) (B:Nat) (ops:Array Oper) (vals:List Value) (Eb:Env) (p b:Nat) (T:TypeId) (ys:List Value):Nat->List Oper->Prop
 | nil {i:Nat}:Onces P B ops vals Eb p b T ys i []
 | cons {i:Nat} {o:Oper} {rest:List Oper} {t:Nat} {v:Value} (E:Env) (hp:i≠p) (hv:vals[i]?=some v) (ht:o.dst=some t) (hd:Eb.look t=none∨Eb.look t=some (.v v)) (hf:FromN ops vals Eb o E) (hok:OpOk P B o E (.v v)) (hr:Onces P B ops vals Eb p b T ys (i+1) rest):Onces P B ops vals Eb p b T ys i (o::rest)
 | store {o:Oper} {rest:List Oper} {x y:Operand} {ty:TypeId} {pos:String} {after:Array Edge} (E:Env) (ho:o=⟨none,.store T x y,ty,pos,after,none⟩) (hf:FromN ops vals Eb o E) (hx:E.at x=some (.v (.pointer (some ⟨b,0,none⟩)))) (hy:E.at y=some (.v (aggV ys))) (hr:Onces P B ops vals Eb p b T ys (p+1) rest):Onces P B ops vals Eb p b T ys p (o::rest)
section
variable {P:Program} {n B:Nat} {ops:Array Oper} {κ:Cx} {Q:Exit->Act->World->Prop} {vals:List Value} {Eb:Env} {p b k:Nat} {T:TypeId} {zs ys:List Value}
theorem Onces.nth{l:List Oper}(h:Onces P B ops vals Eb p b T ys m l): ∀ {i:Nat} {o:Oper},l[i]?=some o ->
  (m+i≠p∧∃ E v t,vals[m+i]?=some v∧o.dst=some t∧(Eb.look t=none∨Eb.look t=some (.v v))∧FromN ops vals Eb o E∧OpOk P B o E (.v v)) ∨
  (m+i=p∧∃ E x y ty pos after,o=⟨none,.store T x y,ty,pos,after,none⟩∧FromN ops vals Eb o E∧E.at x=some (.v (.pointer (some ⟨b,0,none⟩)))∧E.at y=some (.v (aggV ys))):=by
 induction h with
 | nil=>intro i o hi; simp at hi
 | @cons m o0 rest t v E hp hv ht hd hf hok _ ih =>
  intro i o hi
  cases i with
  | zero=>simp at hi; subst hi; exact .inl ⟨hp,E,v,t,hv,ht,hd,hf,hok⟩
  | succ i =>
   have:=ih (i:=i) (by simpa using hi)
   rwa [show m+1+i=m+(i+1) from by omega] at this
 | @store o0 rest x y ty pos after E ho hf hx hy _ ih =>
  intro i o hi
  cases i with
  | zero=>simp at hi; subst hi; exact .inr ⟨rfl,E,x,y,ty,pos,after,ho,hf,hx,hy⟩
  | succ i =>
   have:=ih (i:=i) (by simpa using hi)
   rwa [show p+1+i=p+(i+1) from by omega] at this
structure InvO (κ:Cx) (n B:Nat) (ops:Array Oper) (vals:List Value) (Eb:Env) (p b:Nat) (T:TypeId) (zs ys:List Value) (listed:Array Bool) (a:Act) (w:World):Prop where
 st:St κ n B Eb a w
 lsize:listed.size=ops.size
 blk:b<w.heap.size∧w.heap[b]?=some (.cells (if listed.getD p false then ys else zs).toArray T (0,0))
 got:∀ (i:Nat) (o:Oper) (t:Nat) (v:Value),ops[i]?=some o->listed.getD i false=true->o.dst=some t->vals[i]?=some v->a.tmps.getD t undef=v
theorem wp_onces(hfit:fits n ops=true)(hd:downsN ops=true)(hn:Onces P B ops vals Eb p b T ys 0 ops.toList)(hb:B<=b)(hsz:SizeIs P T ys.length)(hlen:zs.length=ys.length)(h1:ys.all (·.oneCell')=true)(hl:LeftS B T b Eb Eb):
  ∀ (fuel:Nat) (listed:Array Bool) (a:Act) (w:World),unlisted ops listed<=fuel->Below B w₀ w->InvO κ n B ops vals Eb p b T zs ys listed a w->(∀ l a' w',Below B w₀ w'->InvO κ n B ops vals Eb p b T zs ys l a' w'->(∀ i,i<ops.size->l.getD i false=true)->Q .normal a' w')->wpAnyIn (FR κ.rd) 0 P .any ops Q fuel listed a w:=by
 have hn0:n<=vbase:=fits_base hfit
 have hmin:∀ (listed:Array Bool),listed.size=ops.size->Region.ready .any ops listed=[]->∀ i,i<ops.size->listed.getD i false=true:=by
  intro listed hl hr i
  induction i using Nat.strongRecOn with
  | _ i ih =>
   intro hi
   rcases hb:listed.getD i false with _|_
   ·exfalso
    have hdi:=(downs_get hd (Array.getElem?_eq_getElem hi)).2.1
    have:i∈Region.ready .any ops listed:=by
     rw[mem_ready]
     refine⟨?_,ops[i],Array.getElem?_eq_getElem hi,fun e he hbd=>ih e.on (hdi e he hbd) (Nat.lt_trans (hdi e he hbd) hi)⟩
     have:i<listed.size:=by rw[hl]; exact hi
     simp[this] at hb ⊢
     exact hb
    rw[hr] at this
    cases this
   ·rfl
 intro fuel
 induction fuel with
 | zero =>
  intro listed a w hc hbel I hQ'
  have hr:Region.ready .any ops listed=[]:=by
   rcases hr:Region.ready .any ops listed with _|⟨i,l⟩
   ·rfl
   ·exfalso
    have hi:i∈Region.ready .any ops listed:=by rw[hr]; exact List.mem_cons_self
    obtain⟨hu,o,ho,_⟩:=mem_ready.1 hi
    have hpos:0<unlisted ops listed:=List.countP_pos_iff.2 ⟨i,List.mem_range.2 (Array.getElem?_eq_some_iff.1 ho).1,by simp only[hu]; rfl⟩
    omega
  exact⟨hr,hQ' listed a w hbel I (hmin listed I.lsize hr)⟩
 | succ fuel ih =>
  intro listed a w hc hbel I hQ'
  refine⟨fun hr=>hQ' listed a w hbel I (hmin listed I.lsize hr),fun i hi=>?_⟩
  obtain⟨hu,o,ho,hall⟩:=mem_ready.1 hi
  have hlt:i<ops.size:=(Array.getElem?_eq_some_iff.1 ho).1
  obtain⟨hg,_,hdis⟩:=downs_get hd ho
  have huf:listed.getD i false=false:=by
   have:i<listed.size:=by rw[I.lsize]; exact hlt
   simp[this] at hu ⊢
   exact hu
  have hst:∀ {E:Env},FromN ops vals Eb o E->∀ t d,E.look t=some d->d.Of w (a.tmps.getD t undef):=fun {E} h=>by
   induction h with
   | nil=>intro t d hl; cases hl
   | all=>exact I.st.of
   | @base s e E h _ ih =>
    intro t d hl
    by_cases hts:s=t
    ·subst hts; rw[look_here] at hl; injection hl with hl; subst hl; exact I.st.of _ _ h
    ·rw[look_past _ _ hts] at hl; exact ih t d hl
   | @op s v E j he hdj hvj _ ih =>
    intro t d hl
    by_cases hts:s=t
    ·subst hts; rw[look_here] at hl; injection hl with hl; subst hl
     obtain⟨e,he1,he2⟩:=Array.any_eq_true'.1 he
     simp only[Bool.and_eq_true,beq_iff_eq] at he2
     have hl:=hall e he1 he2.1
     rw[he2.2] at hl
     cases hq:ops[j]? with
     | none=>rw[hq] at hdj; cases hdj
     | some q =>
      rw[hq] at hdj
      exact I.got j q _ _ hq hl hdj hvj
    ·rw[look_past _ _ hts] at hl; exact ih t d hl
  have hcl:unlisted ops (listed.setIfInBounds i true)<=fuel:=by
   have:unlisted ops (listed.setIfInBounds i true)<unlisted ops listed:=by
    refine countP_lt (x:=i) (fun y hy=>?_) (List.mem_range.2 hlt) (by simp only[hu]; rfl) ?_
    ·by_cases hyi:i=y
     ·subst hyi
      have:i<listed.size:=by rw[I.lsize]; exact hlt
      simp[this] at hy
     ·rw[getD_set_ne true hyi] at hy; exact hy
    ·have:i<listed.size:=by rw[I.lsize]; exact hlt
     simp[this]
   omega
  have hset:∀ j,(listed.setIfInBounds i true).getD j false=true->j=i∨listed.getD j false=true:=fun j hj=>by
   by_cases hji:i=j
   ·exact .inl hji.symm
   ·rw[getD_set_ne false hji] at hj; exact .inr hj
  have hfi:=fits_mem hfit (o:=o) (by simpa using Array.mem_of_getElem? ho)
  rcases hn.nth (i:=i) (o:=o) (by simpa using ho) with ⟨hip,E,v,t,hv,ht,hdo,hfr,hok⟩|⟨hip,E,x,y,ty,pos,after,hoe,hfr,hx,hy⟩
  ·rw[Nat.zero_add] at hv hip
   have hE:St κ n B E a w:=⟨I.st.base,I.st.defers,I.st.size,hst hfr⟩
   have htn:t<n:=hfi.2 t ht
   refine wpOpR_step ho fun K hK=>good_wp (E:=E) (d:=.v v) hE.base (hE.virt hn0) ht (.inl ⟨by simp[GuardIs,hg],hok⟩) (fun s e _ he=>hE.of s e he) (fun s hs=>by rw[I.st.size]; exact hfi.1 s hs) fun u w' gr hu'=>?_
   have hu':u=v:=hu'
   subst hu'
   refine hK _ _ (ih _ _ _ hcl (hbel.trans (Below.mono gr I.st.base)) ⟨⟨Nat.le_trans I.st.base gr.size,I.st.defers,by simp[Act.put,I.st.size],fun s d hs=>?_⟩,by simp[I.lsize],⟨Nat.lt_of_lt_of_le I.blk.1 gr.size,?_⟩,fun j q s z hj hl' hds hvs=>?_⟩ hQ')
   ·by_cases hts:t=s
    ·subst hts
     rw[getD_put_here _ _ (by rw[I.st.size]; exact htn)]
     rcases hdo with h|h
     ·rw[h] at hs; cases hs
     ·rw[h] at hs; injection hs with hs; subst hs; rfl
    ·rw[getD_put_past _ _ hts]; exact(I.st.of s d hs).grow gr
   ·rw[getD_set_ne false hip,gr.block b I.blk.1]; exact I.blk.2
   ·rcases hset j hl' with rfl|hl2
    ·rw[ho] at hj; injection hj with hj; subst hj
     rw[ht] at hds; injection hds with hds; subst hds
     rw[hv] at hvs; injection hvs with hvs; subst hvs
     rw[getD_put_here _ _ (by rw[I.st.size]; exact htn)]
    ·by_cases hji:j=i
     ·subst hji; rw[huf] at hl2; cases hl2
     ·have hne:t≠s:=fun he=>hdis j q hj hji (by rw[ht]; simp) (by rw[ht,hds,he])
      rw[getD_put_past _ _ hne]
      exact I.got j q s z hj hl2 hds hvs
  ·rw[Nat.zero_add] at hip
   subst hip
   have hE:St κ n B E a w:=⟨I.st.base,I.st.defers,I.st.size,hst hfr⟩
   have hxe:a.eval x = .pointer (some ⟨b,0,none⟩):=hE.at_ x _ hx
   have hye:a.eval y=aggV ys:=hE.at_ y _ hy
   have hh:w.heap[b]?=some (.cells zs.toArray T (0,0)):=by have:=I.blk.2; rw[huf] at this; simpa using this
   have hrun:(execOp a.eval ⟨none,.store T x y,ty,pos,after,none⟩).run P w = .ok .skip (w.setRow b ys.toArray):=by
    have:=run_storeVar_row (P:=P) w b T T zs.toArray ys.toArray hh (by simpa [SizeIs] using hsz) (by simpa using hlen) (by simpa using h1)
    simp[execOp,hxe,hye,Instr.storeAt,Instr.sureAddr,aggV,this]
   refine wpOpR_step ho fun K hK=>?_
   subst hoe
   rw[if_pos (by simp[Region.wanted])]
   refine opR (by nofun) ?_
   unfold Oper.wp
   rw[hrun,Oper.upon_skip]
   have hwr:=Wrote.setRow (B:=B) hb hh ys.toArray
   refine hK _ _ (ih _ _ _ hcl (hbel.trans (hwr.below I.st.base)) ⟨hl.st I.st hwr,by simp[I.lsize],⟨by simpa using I.blk.1,?_⟩,fun j q s z hj hl' hds hvs=>?_⟩ hQ')
   ·have:(listed.setIfInBounds i true).getD i false=true:=by simp[show i<listed.size by rw[I.lsize]; exact hlt]
    rw[this]; exact setRow_heap w b _ _ T _ hh
   ·rcases hset j hl' with rfl|hl2
    ·rw[ho] at hj; injection hj with hj; subst hj; cases hds
    ·exact I.got j q s z hj hl2 hds hvs
theorem A.regsO{y:Code}{E1:Env}{id:Nat}(vals:List Value)(p:Nat)(hm:P.follows .mixedOrders=true)(hfit:fits n ops=true)(hd:downsN ops=true)(hn:Onces P w₀.heap.size ops vals Eb p b T ys 0 ops.toList)(hpl:p<ops.size)(hEb:Sub Eb E)(hk:E.look k=some (blk b T zs))(hb:w₀.heap.size<=b)(hsz:SizeIs P T ys.length)(hlen:zs.length=ys.length)(h1:ys.all (·.oneCell')=true)
  (hl:LeftS w₀.heap.size T b Eb Eb)(hf:FromE ops vals Eb E1)(h:A κ P w₀ n y ((k,blk b T ys)::E1) Q): A κ P w₀ n (.seq (.region id ops true) y) E Q:=A.seq fun a w hg hst=>by
 have hdr:Below w₀.heap.size w w.drew:=(Below.refl _ w).drew
 obtain⟨hk1,hk2⟩:=hst.of k _ hk
 have hfin:∀ l a' w',Below w₀.heap.size w w'->InvO κ n w₀.heap.size ops vals Eb p b T zs ys l a' w'->(∀ i,i<ops.size->l.getD i false=true)->Exit.then (y.wpIn (FR κ.rd) 0 P Q) Q .normal a' w':=fun l a' w' hbel I hall=>by
  have hI:=I.blk
  rw[hall p hpl] at hI
  refine h a' w' (hg.trans hbel) (St.push ⟨I.st.base,I.st.defers,I.st.size,fun t d hl'=>?_⟩ (d:=blk b T ys) hI)
  have key:∀ t d,E1.look t=some d->d.Of w' (a'.tmps.getD t undef):=by
   clear hl' h
   induction hf with
   | nil=>intro t d hl; cases hl
   | all=>exact I.st.of
   | @base s e E h _ ih =>
    intro t d hl
    by_cases hts:s=t
    ·subst hts; rw[look_here] at hl; injection hl with hl; subst hl; exact I.st.of _ _ h
    ·rw[look_past _ _ hts] at hl; exact ih t d hl
   | @op s v E j hdj hvj _ ih =>
    intro t d hl
    by_cases hts:s=t
    ·subst hts; rw[look_here] at hl; injection hl with hl; subst hl
     cases hq:ops[j]? with
     | none=>rw[hq] at hdj; cases hdj
     | some q =>
      rw[hq] at hdj
      exact I.got j q _ _ hq (hall j (Array.getElem?_eq_some_iff.1 hq).1) hdj hvj
    ·rw[look_past _ _ hts] at hl; exact ih t d hl
  exact key t d hl'
 refine wpIn_region_any hm (wp_onces (Q:=Exit.then (y.wpIn (FR κ.rd) 0 P Q) Q) (w₀:=w) (B:=w₀.heap.size) hfit hd hn hb hsz hlen h1 hl _ _ _ _ ?_ hdr ⟨(hst.sub hEb).grow (Grow.refl w).drew,by simp,⟨hk1,?_⟩,fun i o t v hi hl=>?_⟩ hfin)
 ·refine Nat.le_trans List.countP_le_length ?_
  simp
 ·have:(Array.replicate ops.size false).getD p false=false:=by simp[hpl]
  rw[this]; exact hk2
 ·simp[(Array.getElem?_eq_some_iff.1 hi).1] at hl
theorem FromN.more{o:Oper}{pre r:List Value}(h:FromN ops pre Eb o E): FromN ops (pre++r) Eb o E:=by
 induction h with
 | nil=>exact .nil
 | all=>exact .all
 | base h _ ih=>exact .base h ih
 | op j he hd hv _ ih=>exact .op j he hd (by rw[List.getElem?_append_left (List.getElem?_eq_some_iff.1 hv).1]; exact hv) ih
def OncesK (P:Program) (B:Nat) (ops:Array Oper) (Eb:Env) (p b:Nat) (T:TypeId) (ys:List Value) (pre:List Value) (l:List Oper) (C:List Value->Prop):Prop:=∃ r,Onces P B ops (pre++r) Eb p b T ys pre.length l∧C (pre++r)
theorem OncesK.nil{pre:List Value}{C:List Value->Prop}(h:C pre): OncesK P B ops Eb p b T ys pre [] C:=⟨[],.nil,by simpa using h⟩
theorem OncesK.cons{pre:List Value}{C:List Value->Prop}{o:Oper}{rest:List Oper}{t:Nat}{v:Value}(E:Env)(hp:Nat.beq pre.length p=false)(ht:o.dst=some t)(hd:Eb.look t=none∨Eb.look t=some (.v v))(hf:FromN ops pre Eb o E)(hok:OpOk P B o E (.v v))(hr:OncesK P B ops Eb p b T ys (pre++[v]) rest C):
  OncesK P B ops Eb p b T ys pre (o::rest) C:=by
 obtain⟨r,h1,h2⟩:=hr
 rw[List.append_assoc] at h1 h2
 rw[List.length_append] at h1
 refine⟨[v]++r,.cons E (fun h=>?_) (by simp) ht hd hf.more hok h1,h2⟩
 rw[h] at hp; simp at hp
theorem OncesK.store{pre:List Value}{C:List Value->Prop}{rest:List Oper}{x y:Operand}(E:Env)(hp:pre.length=p)(hf:FromN ops pre Eb ⟨none,.store T x y,ty,pos,after,none⟩ E)(hx:E.at x=some (.v (.pointer (some ⟨b,0,none⟩))))(hy:E.at y=some (.v (aggV ys)))
  (hr:OncesK P B ops Eb p b T ys (pre++[undef]) rest C): OncesK P B ops Eb p b T ys pre (⟨none,.store T x y,ty,pos,after,none⟩::rest) C:=by
 obtain⟨r,h1,h2⟩:=hr
 rw[List.append_assoc] at h1 h2
 rw[List.length_append] at h1
 subst hp
 exact⟨[undef]++r,.store E rfl hf.more hx hy h1,h2⟩
theorem A.regsOK{y:Code}{id:Nat}(p:Nat)(hm:P.follows .mixedOrders=true)(hfit:fits n ops=true)(hd:downsN ops=true)(hpl:Nat.blt p ops.size=true)(hEb:Sub Eb E)(hk:E.look k=some (blk b T zs))(hb:w₀.heap.size<=b)(hsz:SizeIs P T ys.length)(hlen:zs.length=ys.length)(h1:ys.all (·.oneCell')=true)
  (hl:LeftS w₀.heap.size T b Eb Eb)(h:OncesK P w₀.heap.size ops Eb p b T ys [] ops.toList (fun vals=>∃ E1,FromE ops vals Eb E1∧A κ P w₀ n y ((k,blk b T ys)::E1) Q)): A κ P w₀ n (.seq (.region id ops true) y) E Q:=by
 obtain⟨r,h2,E1,h3,h4⟩:=h
 exact A.regsO _ p hm hfit hd h2 (Nat.le_of_ble_eq_true hpl) hEb hk hb hsz hlen h1 hl h3 h4
end
end
theorem Height_ok(n:Nat)(h1:1<=n)(h2:n<=4096): Fn Tryz.prog 60 [.v (nI (n))] (.v (.tuple #[nI (hg n),.int .i64 0])):=by
 refine FV Tryz.func60 rfl Tryz.ntmps60 rfl fun w₀=>?_
 refine GV rfl (QS (GT (RM rfl ?_)));refine RS (ok_call (Check_ok n h1 h2) (A1 rfl)) ?_;refine RVN 1 rfl ?_;refine GT (RV 2 rfl ?_);refine RF ?_;refine RN (A.no rfl ?_);refine QK (GS (TN 1 (RVN 1 rfl ?_)));refine ZM 1000011 (fun B'=>OCB (shapeOf_fnB n h1 h2) (A1 rfl)) rfl fun b11 ⟨hBb11,hb11⟩=>?_
 refine TL (RS (ok_call (height_fn n b11) (A1 rfl)) ?_);refine RVN 2 rfl ?_;refine A.ret ?_;exact End.ret2V rfl rfl rfl
theorem Sectors_ok(n:Nat)(h1:1<=n)(h2:n<=4096): Fn Tryz.prog 94 [.v (nI (n))] (.v (.tuple #[nI (bs n (hg n+1)),.int .i64 0])):=by
 refine FV Tryz.func94 rfl Tryz.ntmps94 rfl fun w₀=>?_
 refine GV rfl (QS (GT (RM rfl ?_)));refine RS (ok_call (Check_ok n h1 h2) (A1 rfl)) ?_;refine RVN 1 rfl ?_;refine GT (RV 2 rfl ?_);refine RF ?_;refine RN (A.no rfl ?_);refine QK (GS (TN 1 (RVN 1 rfl ?_)));refine ZM 1000011 (fun B'=>OCB (shapeOf_fnB n h1 h2) (A1 rfl)) rfl fun b11 ⟨hBb11,hb11⟩=>?_
 refine TL (RS (ok_callK 1000011 (sectors_fn n b11 h1 h2) (by decide) rfl (A1 rfl)) ?_);refine RVN 2 rfl ?_;refine A.ret ?_;exact End.ret2V rfl rfl rfl
theorem Sectors_bad(m:Int)(hm:¬ (1<=m∧m<=4096)): Fn Tryz.prog 94 [.v (.int .i64 (m))] (.v (.tuple #[.int .i64 0,.int .i64 1])):=by
 refine FV Tryz.func94 rfl Tryz.ntmps94 rfl fun w₀=>?_
 refine GV rfl (QS (GT (RM rfl ?_)));refine RS (ok_call (Check_bad m hm) (A1 rfl)) ?_;refine RVN 1 rfl ?_;refine GT (RV 2 rfl ?_);refine RT ?_;refine RN (A.yes rfl ?_);refine GV rfl (A.ret (End.ret_then ?_));exact End.ret2V rfl rfl rfl
theorem Parts_ok(n:Nat)(h1:1<=n)(h2:n<=4096)(l j:Nat)(hl:l<=hg n)(hj:j<un n (l+1)): Fn Tryz.prog 107 [.v (nI (n)),.v (nI (l)),.v (nI (j))] (.v (.tuple #[nI (pts n l j),.int .i64 0])):=by
 refine FV Tryz.func107 rfl Tryz.ntmps107 rfl fun w₀=>?_
 refine GV rfl (GS (TN 1 (RVN 1 rfl ?_)));refine ZM 1000011 (fun B'=>OCB (shapeOf_fnB n h1 h2) (A1 rfl)) rfl fun b11 ⟨hBb11,hb11⟩=>?_
 refine TN 5 (RV 2 rfl ?_);refine RS (ok_litS [(0,nI l),(1,nI j)] (plV l j) ⟨rfl,rfl,rfl,rfl,trivial⟩ (buildP _ _)) ?_;refine RN ?_;refine ZN 1000008 zero183 fun b8 ⟨hBb8,hb8⟩=>?_
 refine TN 6 (RN ?_);refine ZN 1000009 zero131 fun b9 ⟨hBb9,hb9⟩=>?_
 refine TF 7 (RN ?_);refine ZA 1000008 (size183.of rfl) hBb8 rfl rfl rfl (LT 1000009 rfl (LT 1000011 rfl (LW [8,9,14] rfl))) ?_;refine TF 8 (RN ?_);refine ZA 1000009 (size131.of rfl) hBb9 rfl rfl rfl (LT 1000008 rfl (LT 1000011 rfl (LW [8,9] rfl))) ?_;refine TL (RN (QS (GT (RL 1000008 U183 rfl rfl (size183.of rfl) ?_))));refine RL 1000009 U131 rfl rfl (size131.of rfl) ?_;refine RS (ok_callK 1000011 (has_y n b11 l j hl hj) (by decide) rfl (A2 rfl rfl)) ?_;refine RVN 1 rfl ?_;refine A.no rfl ?_;refine QK (GT (RL 1000008 U183 rfl rfl (size183.of rfl) ?_));refine RL 1000009 U131 rfl rfl (size131.of rfl) ?_;refine RS (ok_callK 1000011 (parts_fn n b11 h1 h2 l j hl hj) (by decide) rfl (A2 rfl rfl)) ?_;refine RVN 2 rfl ?_;refine A.ret ?_;exact End.ret2V rfl rfl rfl
theorem Parts_no(n:Nat)(h1:1<=n)(h2:n<=4096)(l j:Int)(hp:¬ IsP n l j): Fn Tryz.prog 107 [.v (nI (n)),.v (.int .i64 (l)),.v (.int .i64 (j))] (.v (.tuple #[.int .i64 0,.int .i64 1])):=by
 refine FV Tryz.func107 rfl Tryz.ntmps107 rfl fun w₀=>?_
 refine GV rfl (GS (TN 1 (RVN 1 rfl ?_)));refine ZM 1000011 (fun B'=>OCB (shapeOf_fnB n h1 h2) (A1 rfl)) rfl fun b11 ⟨hBb11,hb11⟩=>?_
 refine TN 5 (RV 2 rfl ?_);refine RS (ok_litS [(0,.int .i64 (l)),(1,.int .i64 (j))] ([.int .i64 (l),.int .i64 (j)]) ⟨rfl,rfl,rfl,rfl,trivial⟩ (buildP _ _)) ?_;refine RN ?_;refine ZN 1000008 zero183 fun b8 ⟨hBb8,hb8⟩=>?_
 refine TN 6 (RN ?_);refine ZN 1000009 zero131 fun b9 ⟨hBb9,hb9⟩=>?_
 refine TF 7 (RN ?_);refine ZA 1000008 (size183.of rfl) hBb8 rfl rfl rfl (LT 1000009 rfl (LT 1000011 rfl (LW [8,9,14] rfl))) ?_;refine TF 8 (RN ?_);refine ZA 1000009 (size131.of rfl) hBb9 rfl rfl rfl (LT 1000008 rfl (LT 1000011 rfl (LW [8,9] rfl))) ?_;refine TL (RN (QS (GT (RL 1000008 U183 rfl rfl (size183.of rfl) ?_))));refine RL 1000009 U131 rfl rfl (size131.of rfl) ?_;refine RS (ok_callK 1000011 (has_n n b11 l j hp) (by decide) rfl (A2 rfl rfl)) ?_;refine RVN 1 rfl ?_;refine A.yes rfl ?_;refine GV rfl (A.ret (End.ret_then ?_));exact End.ret2V rfl rfl rfl
theorem Parent_up(n:Nat)(h1:1<=n)(h2:n<=4096)(l j:Nat)(hl:l<=hg n)(hj:j<un n (l+1))(hu:l<hg n): Fn Tryz.prog 52 [.v (nI (n)),.v (aggV (plV l j))] (.v (.tuple #[aggV (plV (l+1) (j / 4)),nI (j%4),.int .i64 0])):=by
 have hu0:=un_le h1 (l+1)
 have hv0:=un_pos h1 (l+1)
 have hh:=hg_le n
 refine FV Tryz.func52 rfl Tryz.ntmps52 rfl fun w₀=>?_
 refine GS (TN 0 (RN ?_));refine ZB 1000003 rfl fun b3 ⟨hBb3,hb3⟩=>?_
 refine TN 1 (RN ?_);refine ZN 1000004 zero131 fun b4 ⟨hBb4,hb4⟩=>?_
 have hlt_b3_b4:=hb4 1000003 b3 _ _ rfl
 refine TL (RVN 2 rfl ?_);refine GS (TN 1 (RVN 1 rfl ?_));refine ZM 1000009 (fun B'=>OCB (shapeOf_fnB n h1 h2) (A1 rfl)) rfl fun b9 ⟨hBb9,hb9⟩=>?_
 have hlt_b3_b9:=hb9 1000003 b3 _ _ rfl
 have hlt_b4_b9:=hb9 1000004 b4 _ _ rfl
 refine TN 2 (RN ?_);refine ZN 1000007 zero183 fun b7 ⟨hBb7,hb7⟩=>?_
 refine TF 3 (RN ?_);refine ZA 1000007 (size183.of rfl) hBb7 rfl rfl rfl (LT 1000003 rfl (LT 1000004 rfl (LT 1000009 rfl (LW [3,4,7] rfl)))) ?_;refine TL (RN (QSB (GT (RL 1000007 U183 rfl rfl (size183.of rfl) ?_))));refine RL 1000003 U131 rfl rfl (size131.of rfl) ?_;refine RS (ok_callK 1000009 (has_y n b9 l j hl hj) (by decide) rfl (A2 rfl rfl)) ?_;refine RVN 2 rfl ?_;refine A.no rfl ?_;refine GTD (Rf field131_0 ?_);refine RLV 1000003 U3 rfl rfl rfl ?_;refine RL 1000007 U183 rfl rfl (size183.of rfl) ?_;refine RS (ok_call (height_fn n b9) (A1 rfl)) ?_;refine RB rfl rfl rfl ?_;refine RF ?_;refine RVN 1 rfl ?_;refine A.no rfl ?_;refine A.skip (End.normal_block (EN (A.regsOK (k:=1000004) (ys:=plV (l+1) (j / 4)) 10 (by kernel_rfl) (by kernel_rfl) (by kernel_rfl) rfl (Sv [3,4,16,1000003,1000007,1000009] rfl) rfl hBb4 (size131.of (rfl)) (rfl) (rfl) (LV 3 rfl (LV 4 rfl (LV 16 rfl (LB 1000003 rfl (LT 1000007 rfl (LT 1000009 rfl LN)))))) ?_)));refine OncesK.cons (_) rfl rfl (.inl rfl) FromN.all (ok_field field131_0 (by decide) rfl) ?_;refine OncesK.cons ((23,.v _)::_) rfl rfl (.inl rfl) (FromN.op 0 (by kernel_rfl) rfl rfl FromN.all) (ok_loadV (s:=1000003) (by decide) U3 rfl rfl rfl (rfl)) ?_;refine OncesK.cons ((24,.v _)::_) rfl rfl (.inl rfl) (FromN.op 1 (by kernel_rfl) rfl rfl FromN.all) (OpOk.asV (nI (l+1)) (wrap_eq (by omega) (by omega)) (ok_bin rfl rfl rfl)) ?_;refine OncesK.cons (_) rfl rfl (.inl rfl) FromN.all (ok_field field131_1 (by decide) rfl) ?_;refine OncesK.cons ((26,.v _)::_) rfl rfl (.inl rfl) (FromN.op 3 (by kernel_rfl) rfl rfl FromN.all) (ok_loadV (s:=1000003) (by decide) U3 rfl rfl rfl (rfl)) ?_;refine OncesK.cons ((27,.v _)::_) rfl rfl (.inl rfl) (FromN.op 4 (by kernel_rfl) rfl rfl FromN.all) (OpOk.asV (nI ((j) / 4)) (by rw[tdiv_lit _ (by decide)]; exact wrap_eq rfl (by first|omega|(simp only[Int.toNat]; omega))) (ok_div rfl rfl (by decide))) ?_;refine OncesK.cons ((25,.v _)::(28,.v _)::_) rfl rfl (.inl rfl) (FromN.op 2 (by kernel_rfl) rfl rfl (FromN.op 5 (by kernel_rfl) rfl rfl FromN.all)) (ok_litS [(0,nI (l+1)),(1,nI (j / 4))] (plV (l+1) (j / 4)) ⟨rfl,rfl,rfl,rfl,trivial⟩ (buildP _ _)) ?_;refine OncesK.cons (_) rfl rfl (.inl rfl) FromN.all (ok_field field131_1 (by decide) rfl) ?_;refine OncesK.cons ((30,.v _)::_) rfl rfl (.inl rfl) (FromN.op 7 (by kernel_rfl) rfl rfl FromN.all) (ok_loadV (s:=1000003) (by decide) U3 rfl rfl rfl (rfl)) ?_;refine OncesK.cons ((31,.v _)::_) rfl rfl (.inl rfl) (FromN.op 8 (by kernel_rfl) rfl rfl FromN.all) (OpOk.asV (nI ((j)%4)) (by rw[tmod_lit _ (by decide)]; rfl) (ok_rem rfl rfl (by decide))) ?_;refine OncesK.store ((29,.v _)::_) rfl (FromN.op 6 (by kernel_rfl) rfl rfl FromN.all) rfl rfl ?_;refine OncesK.cons ((32,.v _)::_) rfl rfl (.inl rfl) (FromN.op 9 (by kernel_rfl) rfl rfl FromN.all) (ok_assign rfl) ?_;refine OncesK.cons (_) rfl rfl (.inl rfl) FromN.all (ok_assign rfl) ?_
 refine OncesK.nil ⟨_,(FromE.op (t:=5) 11 rfl rfl (FromE.op (t:=6) 12 rfl rfl FromE.all)),?_⟩
 refine A.sub (Sv [4,5,6,1000003,1000004,1000007,1000009] rfl) ?_;refine A.ret ?_;exact End.cellVV rfl U131 rfl (size131.of rfl) rfl (s:=1000004) rfl rfl rfl
theorem Child_ok(n:Nat)(h1:1<=n)(h2:n<=4096)(l j:Nat)(hl:l<=hg n)(hj:j<un n (l+1))(h0:0<l)(x:Nat)(hx:x<pts n l j): Fn Tryz.prog 67 [.v (nI (n)),.v (aggV (plV l j)),.v (nI (x))] (.v (.tuple #[aggV (plV (l-1) (4*j+x)),.int .i64 0])):=by
 have hu0:=un_le h1 (l)
 have hv0:=un_pos h1 (l)
 have hu1:=un_le h1 (l+1)
 have hv1:=un_pos h1 (l+1)
 have hh:=hg_le n
 have hp:=pts_pos hj
 refine FV Tryz.func67 rfl Tryz.ntmps67 rfl fun w₀=>?_
 refine GS (TN 0 (RN ?_));refine ZB 1000004 rfl fun b4 ⟨hBb4,hb4⟩=>?_
 refine TN 1 (RN ?_);refine ZN 1000006 zero131 fun b6 ⟨hBb6,hb6⟩=>?_
 have hlt_b4_b6:=hb6 1000004 b4 _ _ rfl
 refine TL (RVN 1 rfl ?_);refine GS (TN 1 (RVN 1 rfl ?_));refine ZM 1000010 (fun B'=>OCB (shapeOf_fnB n h1 h2) (A1 rfl)) rfl fun b10 ⟨hBb10,hb10⟩=>?_
 have hlt_b4_b10:=hb10 1000004 b4 _ _ rfl
 have hlt_b6_b10:=hb10 1000006 b6 _ _ rfl
 refine TN 2 (RN ?_);refine ZN 1000008 zero183 fun b8 ⟨hBb8,hb8⟩=>?_
 refine TF 3 (RN ?_);refine ZA 1000008 (size183.of rfl) hBb8 rfl rfl rfl (LT 1000004 rfl (LT 1000006 rfl (LT 1000010 rfl (LW [2,4,6,8] rfl)))) ?_;refine TL (RN (QSB (GT (RL 1000008 U183 rfl rfl (size183.of rfl) ?_))));refine RL 1000004 U131 rfl rfl (size131.of rfl) ?_;refine RS (ok_callK 1000010 (has_y n b10 l j hl hj) (by decide) rfl (A2 rfl rfl)) ?_;refine RV 3 rfl ?_;refine RQ (ok_call (within_y _ _ (by omega) (by omega)) (A2 rfl rfl)) ?_;refine RVN 3 rfl ?_;refine A.no rfl ?_;refine GT (Rf field131_0 ?_);refine RLV 1000004 U3 rfl rfl rfl ?_;refine RB rfl rfl rfl ?_;refine RF ?_;refine RV 2 rfl ?_;refine RQ (ok_loadA (s:=1000008) (by decide) U183 rfl (size183.of (rfl)) rfl rfl) ?_;refine RQ (ok_loadA (s:=1000004) (by decide) U131 rfl (size131.of (rfl)) rfl rfl) ?_;refine RQ (ok_callK 1000010 (parts_fn n b10 h1 h2 l j hl hj) (by decide) rfl (A2 rfl rfl)) ?_;refine RQ (ok_bin rfl rfl rfl) ?_;refine RF ?_;refine RVN 2 rfl ?_;refine A.sub (Sv [2,4,6,22,1000004,1000006,1000008,1000010] rfl) ?_;refine A.no rfl ?_;refine A.skip (End.normal_block (EN (GS (TF 9 (Rf field131_0 ?_)))));refine RLV 1000004 U3 rfl rfl rfl ?_;refine RB rfl rfl rfl ?_;refine Rw (l-1) ?_;refine Rf field131_1 ?_;refine RLV 1000004 U3 rfl rfl rfl ?_;refine RB rfl rfl rfl ?_;refine Rw (4*j) ?_;refine RV 2 rfl ?_;refine Rw (4*j+x) ?_;refine RS (ok_litS [(0,nI (l-1)),(1,nI (4*j+x))] (plV (l-1) (4*j+x)) ⟨rfl,rfl,rfl,rfl,trivial⟩ (buildP _ _)) ?_;refine RN ?_;refine ZA 1000006 (size131.of rfl) hBb6 rfl rfl rfl (LV 6 rfl (LB 1000004 rfl (LT 1000008 rfl (LT 1000010 rfl LN)))) ?_;refine TL (RVN 1 rfl ?_);refine A.ret ?_;exact End.cellV rfl U131 rfl (size131.of rfl) rfl (s:=1000006) rfl rfl
theorem Child_leaf(n:Nat)(h1:1<=n)(h2:n<=4096)(l j:Nat)(hl:l<=hg n)(hj:j<un n (l+1))(h0:l=0)(x:Nat)(hx:x<4): Fn Tryz.prog 67 [.v (nI (n)),.v (aggV (plV l j)),.v (nI (x))] (.v (.tuple #[aggV [.int .i64 0,.int .i64 0],.int .i64 11])):=by
 refine FV Tryz.func67 rfl Tryz.ntmps67 rfl fun w₀=>?_
 refine GS (TN 0 (RN ?_));refine ZB 1000004 rfl fun b4 ⟨hBb4,hb4⟩=>?_
 refine TN 1 (RN ?_);refine ZN 1000006 zero131 fun b6 ⟨hBb6,hb6⟩=>?_
 have hlt_b4_b6:=hb6 1000004 b4 _ _ rfl
 refine TL (RVN 1 rfl ?_);refine GS (TN 1 (RVN 1 rfl ?_));refine ZM 1000010 (fun B'=>OCB (shapeOf_fnB n h1 h2) (A1 rfl)) rfl fun b10 ⟨hBb10,hb10⟩=>?_
 have hlt_b4_b10:=hb10 1000004 b4 _ _ rfl
 have hlt_b6_b10:=hb10 1000006 b6 _ _ rfl
 refine TN 2 (RN ?_);refine ZN 1000008 zero183 fun b8 ⟨hBb8,hb8⟩=>?_
 refine TF 3 (RN ?_);refine ZA 1000008 (size183.of rfl) hBb8 rfl rfl rfl (LT 1000004 rfl (LT 1000006 rfl (LT 1000010 rfl (LW [2,4,6,8] rfl)))) ?_;refine TL (RN (QSB (GT (RL 1000008 U183 rfl rfl (size183.of rfl) ?_))));refine RL 1000004 U131 rfl rfl (size131.of rfl) ?_;refine RS (ok_callK 1000010 (has_y n b10 l j hl hj) (by decide) rfl (A2 rfl rfl)) ?_;refine RV 3 rfl ?_;refine RQ (ok_call (within_y _ _ (by omega) (by omega)) (A2 rfl rfl)) ?_;refine RVN 3 rfl ?_;refine A.no rfl ?_;refine GT (Rf field131_0 ?_);refine RLV 1000004 U3 rfl rfl rfl ?_;refine RB rfl rfl rfl ?_;refine RT ?_;refine RVN 8 rfl ?_;refine A.sub (Sv [2,4,6,22,1000004,1000006,1000008,1000010] rfl) ?_;refine A.yes rfl ?_;refine GS (TF 1 (RS (ok_lit [] ([.int .i64 0]++[.int .i64 0]) (fun _ _=>rfl) (by kernel_rfl)) ?_));refine RN ?_;refine ZA 1000006 (size131.of rfl) hBb6 rfl rfl rfl (LV 6 rfl (LB 1000004 rfl (LT 1000008 rfl (LT 1000010 rfl LN)))) ?_;refine TL (RVN 1 rfl ?_);refine A.ret (End.ret_block (End.ret_then ?_));exact End.cellV rfl U131 rfl (size131.of rfl) rfl (s:=1000006) rfl rfl
theorem Child_none(n:Nat)(h1:1<=n)(h2:n<=4096)(l j:Nat)(hl:l<=hg n)(hj:j<un n (l+1))(h0:0<l)(x:Nat)(hx:x<4)(hx':pts n l j<=x): Fn Tryz.prog 67 [.v (nI (n)),.v (aggV (plV l j)),.v (nI (x))] (.v (.tuple #[aggV [.int .i64 0,.int .i64 0],.int .i64 11])):=by
 refine FV Tryz.func67 rfl Tryz.ntmps67 rfl fun w₀=>?_
 refine GS (TN 0 (RN ?_));refine ZB 1000004 rfl fun b4 ⟨hBb4,hb4⟩=>?_
 refine TN 1 (RN ?_);refine ZN 1000006 zero131 fun b6 ⟨hBb6,hb6⟩=>?_
 have hlt_b4_b6:=hb6 1000004 b4 _ _ rfl
 refine TL (RVN 1 rfl ?_);refine GS (TN 1 (RVN 1 rfl ?_));refine ZM 1000010 (fun B'=>OCB (shapeOf_fnB n h1 h2) (A1 rfl)) rfl fun b10 ⟨hBb10,hb10⟩=>?_
 have hlt_b4_b10:=hb10 1000004 b4 _ _ rfl
 have hlt_b6_b10:=hb10 1000006 b6 _ _ rfl
 refine TN 2 (RN ?_);refine ZN 1000008 zero183 fun b8 ⟨hBb8,hb8⟩=>?_
 refine TF 3 (RN ?_);refine ZA 1000008 (size183.of rfl) hBb8 rfl rfl rfl (LT 1000004 rfl (LT 1000006 rfl (LT 1000010 rfl (LW [2,4,6,8] rfl)))) ?_;refine TL (RN (QSB (GT (RL 1000008 U183 rfl rfl (size183.of rfl) ?_))));refine RL 1000004 U131 rfl rfl (size131.of rfl) ?_;refine RS (ok_callK 1000010 (has_y n b10 l j hl hj) (by decide) rfl (A2 rfl rfl)) ?_;refine RV 3 rfl ?_;refine RQ (ok_call (within_y _ _ (by omega) (by omega)) (A2 rfl rfl)) ?_;refine RVN 3 rfl ?_;refine A.no rfl ?_;refine GT (Rf field131_0 ?_);refine RLV 1000004 U3 rfl rfl rfl ?_;refine RB rfl rfl rfl ?_;refine RF ?_;refine RV 2 rfl ?_;refine RQ (ok_loadA (s:=1000008) (by decide) U183 rfl (size183.of (rfl)) rfl rfl) ?_;refine RQ (ok_loadA (s:=1000004) (by decide) U131 rfl (size131.of (rfl)) rfl rfl) ?_;refine RQ (ok_callK 1000010 (parts_fn n b10 h1 h2 l j hl hj) (by decide) rfl (A2 rfl rfl)) ?_;refine RQ (ok_bin rfl rfl rfl) ?_;refine RT ?_;refine RVN 2 rfl ?_;refine A.sub (Sv [2,4,6,22,1000004,1000006,1000008,1000010] rfl) ?_;refine A.yes rfl ?_;refine GS (TF 1 (RS (ok_lit [] ([.int .i64 0]++[.int .i64 0]) (fun _ _=>rfl) (by kernel_rfl)) ?_));refine RN ?_;refine ZA 1000006 (size131.of rfl) hBb6 rfl rfl rfl (LV 6 rfl (LB 1000004 rfl (LT 1000008 rfl (LT 1000010 rfl LN)))) ?_;refine TL (RVN 1 rfl ?_);refine A.ret (End.ret_block (End.ret_then ?_));exact End.cellV rfl U131 rfl (size131.of rfl) rfl (s:=1000006) rfl rfl
theorem Group_ok(n:Nat)(h1:1<=n)(h2:n<=4096)(x:Nat)(hx:x<n): Fn Tryz.prog 54 [.v (nI (n)),.v (nI (x))] (.v (.tuple #[aggV (plV 0 (x / 4)),nI (x%4),.int .i64 0])):=by
 refine FV Tryz.func54 rfl Tryz.ntmps54 rfl fun w₀=>?_
 refine GS (TN 0 (RN ?_));refine ZN 1000004 zero131 fun b4 ⟨hBb4,hb4⟩=>?_
 refine TL (RVN 2 rfl ?_);refine QS (GT (RV 2 rfl ?_));refine RS (ok_call (hasBlock_y n h1 h2 x hx) (A2 rfl rfl)) ?_;refine RVN 1 rfl ?_;refine A.no rfl ?_;refine QK (GS (TF 5 (RM rfl ?_)));refine RS (ok_div rfl rfl (by decide)) ?_;refine RZ (nI ((x) / 4)) (by rw[tdiv_lit _ (by decide)]; exact wrap_eq rfl (by first|omega|(simp only[Int.toNat]; omega))) ?_;refine RS (ok_litS [(0,nI 0),(1,nI (x / 4))] (plV 0 (x / 4)) ⟨rfl,rfl,rfl,rfl,trivial⟩ (buildP _ _)) ?_;refine RM rfl ?_;refine RS (ok_rem rfl rfl (by decide)) ?_;refine RZ (nI ((x)%4)) (by rw[tmod_lit _ (by decide)]; rfl) ?_;refine RN ?_;refine ZA 1000004 (size131.of rfl) hBb4 rfl rfl rfl (LW [4,16] rfl) ?_;refine TL (RVN 2 rfl ?_);refine A.ret ?_;exact End.cellVV rfl U131 rfl (size131.of rfl) rfl (s:=1000004) rfl rfl rfl
theorem Group_no(n:Nat)(h1:1<=n)(h2:n<=4096)(x:Int)(hx:¬ (0<=x∧x<n)): Fn Tryz.prog 54 [.v (nI (n)),.v (.int .i64 (x))] (.v (.tuple #[aggV [.int .i64 0,.int .i64 0],.int .i64 0,.int .i64 1])):=by
 refine FV Tryz.func54 rfl Tryz.ntmps54 rfl fun w₀=>?_
 refine GS (TN 0 (RN ?_));refine ZN 1000004 zero131 fun b4 ⟨hBb4,hb4⟩=>?_
 refine TL (RVN 2 rfl ?_);refine QS (GT (RV 2 rfl ?_));refine RS (ok_call (hasBlock_n n h1 h2 x hx) (A2 rfl rfl)) ?_;refine RVN 1 rfl ?_;refine A.yes rfl ?_;refine GS (TF 1 (RS (ok_lit [] ([.int .i64 0]++[.int .i64 0]) (fun _ _=>rfl) (by kernel_rfl)) ?_));refine RN ?_;refine ZA 1000004 (size131.of rfl) hBb4 rfl rfl rfl (LV 4 rfl LN) ?_;refine TL (RVN 2 rfl ?_);refine A.ret (End.ret_then ?_);exact End.cellVV rfl U131 rfl (size131.of rfl) rfl (s:=1000004) rfl rfl rfl
theorem Data_ok(n:Nat)(h1:1<=n)(h2:n<=4096)(x:Nat)(hx:x<n)(s:Nat)(hs:s<2): Fn Tryz.prog 72 [.v (nI (n)),.v (nI (x)),.v (nI (s))] (.v (.tuple #[nI (2*x+s),.int .i64 0])):=by
 refine FV Tryz.func72 rfl Tryz.ntmps72 rfl fun w₀=>?_
 refine GV rfl (QS (GT (RV 2 rfl ?_)));refine RS (ok_call (hasBlock_y n h1 h2 x hx) (A2 rfl rfl)) ?_;refine RV 3 rfl ?_;refine RQ (ok_call (within_y _ _ (by omega) (by omega)) (A2 rfl rfl)) ?_;refine RVN 2 rfl ?_;refine A.no rfl ?_;refine QK (GT (RV 2 rfl ?_));refine Rw (2*x) ?_;refine RV 2 rfl ?_;refine Rw (2*x+s) ?_;refine RVN 2 rfl ?_;refine A.ret ?_;exact End.ret2V rfl rfl rfl
theorem Node_ok(n:Nat)(h1:1<=n)(h2:n<=4096)(l j:Nat)(hl:l<=hg n)(hj:j<un n (l+1))(s:Nat)(hs:s<2): Fn Tryz.prog 96 [.v (nI (n)),.v (nI (l)),.v (nI (j)),.v (nI (s))] (.v (.tuple #[nI (bs n l+2*j+s),.int .i64 0])):=by
 have hu0:=un_le h1 (l+1)
 have hv0:=un_pos h1 (l+1)
 have hh:=hg_le n
 have hb:=bs_small h1 h2 (l:=l) (by omega)
 refine FV Tryz.func96 rfl Tryz.ntmps96 rfl fun w₀=>?_
 refine GV rfl (GS (TN 1 (RVN 1 rfl ?_)));refine ZM 1000012 (fun B'=>OCB (shapeOf_fnB n h1 h2) (A1 rfl)) rfl fun b12 ⟨hBb12,hb12⟩=>?_
 refine TN 2 (RN ?_);refine ZN 1000010 zero183 fun b10 ⟨hBb10,hb10⟩=>?_
 refine TF 3 (RN ?_);refine ZA 1000010 (size183.of rfl) hBb10 rfl rfl rfl (LT 1000012 rfl (LW [1,2,3,10] rfl)) ?_;refine TL (RN (QS (GT (RL 1000010 U183 rfl rfl (size183.of rfl) ?_))));refine RV 2 rfl ?_;refine RS (ok_litS [(0,nI l),(1,nI j)] (plV l j) ⟨rfl,rfl,rfl,rfl,trivial⟩ (buildP _ _)) ?_;refine RS (ok_callK 1000012 (has_y n b12 l j hl hj) (by decide) rfl (A2 rfl rfl)) ?_;refine RV 3 rfl ?_;refine RQ (ok_call (within_y _ _ (by omega) (by omega)) (A2 rfl rfl)) ?_;refine RVN 2 rfl ?_;refine A.no rfl ?_;refine QK (GT (RL 1000010 U183 rfl rfl (size183.of rfl) ?_));refine RM rfl ?_;refine RS (ok_callK 1000012 (base_fn n b12 h1 h2 l (by omega)) (by decide) rfl (A2 rfl rfl)) ?_;refine RV 2 rfl ?_;refine Rw (2*j) ?_;refine RB rfl rfl rfl ?_;refine Rw (bs n l+2*j) ?_;refine RV 2 rfl ?_;refine Rw (bs n l+2*j+s) ?_;refine RVN 2 rfl ?_;refine A.sub (Sv [8,9,1000010,1000012] rfl) ?_;refine A.ret ?_;exact End.ret2V rfl rfl rfl
theorem zero197: ZeroIs Tryz.prog 197 (List.replicate 64 (.int .u32 0)):=by unfold ZeroIs; kernel_rfl
theorem size197: SizeIs Tryz.prog 197 64:=by unfold SizeIs; kernel_rfl
theorem zero198: ZeroIs Tryz.prog 198 (List.replicate 8 (.int .u32 0)):=by unfold ZeroIs; kernel_rfl
theorem size198: SizeIs Tryz.prog 198 8:=by unfold SizeIs; kernel_rfl
theorem K64_lit: K64.length=64:=by decide
theorem refrotr_fn(x:UInt32)(n:Nat)(hn0:0<n)(hn:n<32): Fn Tryz.prog 140 [.v (u32V x),.v (.int .i64 (n:Int))] (.v (u32V (rotr32 x n))):=by
 have hx:=u32_lt x
 refine FV Tryz.func140 rfl Tryz.ntmps140 rfl fun w₀=>?_
 refine GV rfl (GTD (RV 2 rfl ?_));refine RS (ok_shr rfl rfl (Int.natCast_nonneg n)) ?_;refine RZ (.int .u32 ((x.toNat / 2^n:Nat):Int)) (by rw[Int.toNat_natCast,show min n IntKind.u32.bits=n from Nat.min_eq_left (by show n<=32; omega),shr_nat]) ?_;refine RV 3 rfl ?_;refine RZ (.int .i64 ((32-n:Nat):Int)) (by rw[wrap_i64 (by omega) (by omega)]; congr 1; omega) ?_;refine RS (ok_shl rfl rfl (Int.natCast_nonneg _)) ?_;refine RZ (.int .u32 ((x.toNat*2^(32-n)%4294967296:Nat):Int)) (by rw[Int.toNat_natCast,show min (32-n) IntKind.u32.bits=32-n from Nat.min_eq_left (by show 32-n<=32; omega),<- wrap_u32_nat]; simp) ?_;refine RB rfl rfl rfl ?_;refine RZ (u32V (rotr32 x n)) (by
  show Value.int .u32 (IntKind.u32.wrap ((BitVec.ofInt 32 _ ||| BitVec.ofInt 32 _).toNat:Int))=_
  rw[or_u32_nat (Nat.lt_of_le_of_lt (Nat.div_le_self _ _) hx) (Nat.mod_lt _ (by decide)),rotr32_val,<- rotB_go hx (by omega),Nat.or_comm,show 32-(32-n)=n from by omega]) ?_
 refine RVN 1 rfl ?_;refine A.ret ?_;exact ER rfl rfl
set_option maxHeartbeats 1000000 in
theorem refConstants_fn: Fn Tryz.prog 103 [] (tup [.v (aggV (K64.map u32V)),.v (aggV (H8.list.map u32V))]):=by
 refine FV Tryz.func103 rfl Tryz.ntmps103 rfl fun w₀=>?_
 refine GS (TN 0 (RN ?_));refine ZN 1000000 zero197 fun b0 ⟨hBb0,hb0⟩=>?_
 refine TN 1 (RN ?_);refine ZN 1000001 zero198 fun b1 ⟨hBb1,hb1⟩=>?_
 refine TL (RN (GS (TF 2 (RS (ok_litA [_,_,_,_,_,_,_,_,_,_,_,_,_,_,_,_,_,_,_,_,_,_,_,_,_,_,_,_,_,_,_,_,_,_,_,_,_,_,_,_,_,_,_,_,_,_,_,_,_,_,_,_,_,_,_,_,_,_,_,_,_,_,_,_] U197 info53 zero197 rfl ⟨rfl,rfl,rfl,rfl,rfl,rfl,rfl,rfl,rfl,rfl,rfl,rfl,rfl,rfl,rfl,rfl,rfl,rfl,rfl,rfl,rfl,rfl,rfl,rfl,rfl,rfl,rfl,rfl,rfl,rfl,rfl,rfl,rfl,rfl,rfl,rfl,rfl,rfl,rfl,rfl,rfl,rfl,rfl,rfl,rfl,rfl,rfl,rfl,rfl,rfl,rfl,rfl,rfl,rfl,rfl,rfl,rfl,rfl,rfl,rfl,rfl,rfl,rfl,rfl,rfl,rfl,rfl,rfl,rfl,rfl,rfl,rfl,rfl,rfl,rfl,rfl,rfl,rfl,rfl,rfl,rfl,rfl,rfl,rfl,rfl,rfl,rfl,rfl,rfl,rfl,rfl,rfl,rfl,rfl,rfl,rfl,rfl,rfl,rfl,rfl,rfl,rfl,rfl,rfl,rfl,rfl,rfl,rfl,rfl,rfl,rfl,rfl,rfl,rfl,rfl,rfl,rfl,rfl,rfl,rfl,rfl,rfl,rfl,rfl,rfl,rfl,rfl,rfl,trivial⟩ rfl) ?_))));refine RZ (aggV (K64.map u32V)) (by kernel_rfl) ?_;refine RS (ok_litA [_,_,_,_,_,_,_,_] U198 info53 zero198 rfl ⟨rfl,rfl,rfl,rfl,rfl,rfl,rfl,rfl,rfl,rfl,rfl,rfl,rfl,rfl,rfl,rfl,trivial⟩ rfl) ?_;refine RZ (aggV (H8.list.map u32V)) (by kernel_rfl) ?_;refine RN ?_;refine ZA 1000000 (size197.of rfl) hBb0 rfl rfl rfl (LT 1000001 rfl (LW [0,1,3] rfl)) ?_;refine TF 3 (RN ?_);refine ZA 1000001 (size198.of rfl) hBb1 rfl rfl rfl (LT 1000000 rfl (LW [0,1] rfl)) ?_;refine TL (RN (A.ret ?_));exact End.cell2 (s:=1000000) (s':=1000001) rfl U197 rfl (size197.of (rfl)) rfl rfl (Le.refl _) U198 rfl (size198.of (rfl)) rfl rfl (Le.refl _)
set_option maxHeartbeats 400000 in
theorem refCompress_fn(h:R8)(l:List UInt8)(hl:l.length=64): Fn Tryz.prog 104 [.v (aggV (h.list.map u32V)),byt l] (.v (aggV ((compress h l).list.map u32V))):=by
 refine Fn.of Tryz.func104 rfl (by kernel_rfl) Tryz.ntmps104 (by simp) (fun w=>[(0,.v (aggV (h.list.map u32V))),(1,old w.heap.size (byt l))]) (fun w=>(Start.v rfl (Start.old rfl Start.nil))) fun w₀=>?_
 refine GS (TN 0 (RN ?_));refine ZB 1000002 rfl fun b2 ⟨hBb2,hb2⟩=>?_
 refine TN 1 (RN ?_);refine ZN 1000004 zero198 fun b4 ⟨hBb4,hb4⟩=>?_
 have hlt_b2_b4:=hb4 1000002 b2 _ _ rfl
 refine TL (RN (GS (TN 4 (RS (ok_call refConstants_fn Args.nil) ?_))));refine RM rfl ?_;refine RS (ok_extract rfl rfl) ?_;refine RS (ok_extract rfl rfl) ?_;refine RN ?_;refine ZN 1000005 zero197 fun b5 ⟨hBb5,hb5⟩=>?_
 refine TN 5 (RN ?_);refine ZN 1000006 zero198 fun b6 ⟨hBb6,hb6⟩=>?_
 have hlt_b2_b6:=hb6 1000002 b2 _ _ rfl
 have hlt_b4_b6:=hb6 1000004 b4 _ _ rfl
 refine TF 6 (RN ?_);refine ZA 1000005 (size197.of rfl) hBb5 rfl rfl rfl (LO 1 rfl (LT 1000002 rfl (LT 1000004 rfl (LT 1000006 rfl (LW [2,4,5,6,29] rfl))))) ?_;refine TF 7 (RN ?_);refine ZA 1000006 (size198.of rfl) hBb6 rfl rfl rfl (LO 1 rfl (LB 1000002 rfl (LB 1000004 rfl (LT 1000005 rfl (LW [2,4,5] rfl))))) ?_;refine TL (RN (GS (TN 0 (RN ?_))));refine ZN 1000007 zero197 fun b7 ⟨hBb7,hb7⟩=>?_
 have hlt_b5_b7:=hb7 1000005 b5 _ _ rfl
 refine TL (RN (QS (GV rfl (A.block ?_))));refine A.loop (ι:=Nat) (fun j=>j<=64) (fun j=>[(1,old w₀.heap.size (byt l)),(2,.v (.pointer (some ⟨b2,0,none⟩))),(4,.v (.pointer (some ⟨b4,0,none⟩))),(5,.v (.pointer (some ⟨b5,0,none⟩))),(7,.v (.pointer (some ⟨b7,0,none⟩))),(8,.v (.int .i64 ((j:Nat):Int))),(1000002,blk b2 198 (h.list.map u32V)),(1000004,blk b4 198 (List.replicate 8 (.int .u32 0))),(1000005,blk b5 197 (K64.map u32V)),(1000007,blk b7 197 (table (sched l j) 64))]) (fun j=>64-j) 0 ?_ ?_ ?_
 ·exact Nat.zero_le _
 ·exact(KC 1 rfl (KC 2 rfl (KC 4 rfl (KC 5 rfl (KC 7 rfl (KC 8 rfl (KC 1000002 rfl (KC 1000004 rfl (KC 1000005 rfl (KE 1000007 rfl (rfl) KN))))))))))
 intro j hj
 refine QS (GV rfl ?_);refine A.cond rfl (fun hc31=>?_) (fun hc31=>?_)
 ·have hlt:j<64:=by simp at hc31; omega
  refine QK (QSB (QS (GV rfl ?_)));refine A.cond rfl (fun hc35=>?_) (fun hc35=>?_)
  ·have hj16:j<16:=by simp at hc35; omega
   refine GT (RV 3 rfl ?_);refine RZ (.int .i64 ((4*j:Nat):Int)) (by rw[wrap_i64 (by omega) (by omega)]; first|rfl|(congr 1; omega)) ?_;refine RV 2 rfl ?_;refine RZ (.int .i64 ((4*j:Nat):Int)) (by rw[wrap_i64 (by omega) (by omega)]; first|rfl|(congr 1; omega)) ?_;refine RB rfl rfl rfl ?_;refine RZ (.int .i64 ((4*j+4:Nat):Int)) (by rw[wrap_i64 (by omega) (by omega)]; first|rfl|(congr 1; omega)) ?_;refine RS (ok_slice (4*j) (4*j+4) U23 info5 rfl (Le.old _ _) (.inl ⟨_,_,rfl,rfl⟩) (.inl ⟨_,_,rfl,rfl⟩) (by omega) (by simp; omega)) ?_;refine RS (ok_call (refGet_fn ((l.drop (4*j)).take 4) 4 (by decide) (by decide)) (Args.cons rfl ((Le.eq (by simp only[byt,List.map_take,List.map_drop,List.drop_take]; congr 2; omega))) (A1 rfl))) ?_;refine RM rfl ?_;refine RS (ok_extract rfl rfl) ?_;refine RS (ok_extract rfl rfl) ?_;refine RVN 2 rfl ?_;refine GS (TF 4 (RV 2 rfl ?_));refine RS (ok_conv U33 U53 rfl) ?_;refine RZ (u32V (nextW l (sched l j) j)) (by rw[nextW,if_pos hj16,word,u32V_ofNat,getV,if_pos (by simp; omega),wrap_u32_nat]) ?_;refine RS (ok_index0 _ U197 info53 rfl rfl (rfl) (by omega)) ?_;refine RN ?_;refine⟨_,eff_storeS (n:=202) (s:=1000007) info53 rfl rfl rfl hBb7 rfl (by rw[table_length (by rw[sched_length]; omega)]; omega) (LO 1 rfl (LT 1000002 rfl (LT 1000004 rfl (LB 1000005 rfl (LW [2,4,5,7,8] rfl))))),?_⟩
   refine TL (RN (A.exit (End.exit_then (End.exit_here (EN (GTE (RV 2 rfl ?_)))))));refine RZ (.int .i64 ((j+1:Nat):Int)) (by rw[wrap_i64 (by omega) (by omega)]; first|rfl|(congr 1; omega)) ?_;refine RVN 1 rfl ?_;refine End.sub (Sv [1,2,4,5,7,8,1000002,1000004,1000005,1000007] rfl) ?_;refine End.normal_then ?_;refine End.again (j+1) ?_ ?_ ?_
   ·show _<=_; omega
   ·show _-_<_-_; omega
   ·exact(KC 1 rfl (KC 2 rfl (KC 4 rfl (KC 5 rfl (KC 7 rfl (KC 8 rfl (KC 1000002 rfl (KC 1000004 rfl (KC 1000005 rfl (KE 1000007 rfl (by rw[table_set (sched_length l j) hlt]; rfl) KN))))))))))
  ·have hj16:¬ j<16:=by simp at hc35; omega
   refine QK (GTD (RV 2 rfl ?_));refine RZ (.int .i64 ((j-15:Nat):Int)) (by rw[wrap_i64 (by omega) (by omega)]; first|rfl|(congr 1; omega)) ?_;refine RS (ok_index0 _ U197 info53 rfl rfl (rfl) (by omega)) ?_;refine RS (ok_loadV (s:=1000007) (by decide) U53 rfl rfl rfl (table_get (by rw[sched_length]; omega))) ?_;refine RV 2 rfl ?_;refine RZ (.int .i64 ((j-2:Nat):Int)) (by rw[wrap_i64 (by omega) (by omega)]; first|rfl|(congr 1; omega)) ?_;refine RS (ok_index0 _ U197 info53 rfl rfl (rfl) (by omega)) ?_;refine RS (ok_loadV (s:=1000007) (by decide) U53 rfl rfl rfl (table_get (by rw[sched_length]; omega))) ?_;refine RVN 2 rfl ?_;refine A.reg (by kernel_rfl) (by kernel_rfl) (.inr (by kernel_rfl)) ?_;refine TD 29 ?_;refine RV 3 rfl ?_;refine RZ (.int .i64 ((j-16:Nat):Int)) (by rw[wrap_i64 (by omega) (by omega)]; first|rfl|(congr 1; omega)) ?_;refine RS (ok_index0 _ U197 info53 rfl rfl (rfl) (by omega)) ?_;refine RS (ok_loadV (s:=1000007) (by decide) U53 rfl rfl rfl (table_get (by rw[sched_length]; omega))) ?_;refine RV 2 rfl ?_;refine RZ (.int .i64 ((j-7:Nat):Int)) (by rw[wrap_i64 (by omega) (by omega)]; first|rfl|(congr 1; omega)) ?_;refine RS (ok_index0 _ U197 info53 rfl rfl (rfl) (by omega)) ?_;refine RS (ok_loadV (s:=1000007) (by decide) U53 rfl rfl rfl (table_get (by rw[sched_length]; omega))) ?_;refine RS (ok_add32 rfl rfl) ?_;refine RM rfl ?_;refine RS (ok_call (refrotr_fn _ 7 (by decide) (by decide)) (A2 rfl rfl)) ?_;refine RM rfl ?_;refine RS (ok_call (refrotr_fn _ 18 (by decide) (by decide)) (A2 rfl rfl)) ?_;refine RS (ok_xor32 rfl rfl) ?_;refine RM rfl ?_;refine RS (ok_shr32 3 rfl rfl rfl (by decide)) ?_;refine RS (ok_xor32 rfl rfl) ?_;refine RS (ok_add32 rfl rfl) ?_;refine RM rfl ?_;refine RS (ok_call (refrotr_fn _ 17 (by decide) (by decide)) (A2 rfl rfl)) ?_;refine RM rfl ?_;refine RS (ok_call (refrotr_fn _ 19 (by decide) (by decide)) (A2 rfl rfl)) ?_;refine RS (ok_xor32 rfl rfl) ?_;refine RM rfl ?_;refine RS (ok_shr32 10 rfl rfl rfl (by decide)) ?_;refine RS (ok_xor32 rfl rfl) ?_;refine RS (ok_add32 rfl rfl) ?_;refine RZ (u32V (nextW l (sched l j) j)) (by rw[nextW,if_neg hj16]; rfl) ?_;refine RS (ok_index0 _ U197 info53 rfl rfl (rfl) (by omega)) ?_;refine RN ?_;refine⟨_,eff_storeS (n:=202) (s:=1000007) info53 rfl rfl rfl hBb7 rfl (by rw[table_length (by rw[sched_length]; omega)]; omega) (LO 1 rfl (LT 1000002 rfl (LT 1000004 rfl (LB 1000005 rfl (LW [2,4,5,7,8] rfl))))),?_⟩
   refine TL (RN (End.sub (Sv [1,2,4,5,7,8,1000002,1000004,1000005,1000007] rfl) ?_));refine End.normal_block (EN (GTE (RV 2 rfl ?_)));refine RZ (.int .i64 ((j+1:Nat):Int)) (by rw[wrap_i64 (by omega) (by omega)]; first|rfl|(congr 1; omega)) ?_;refine RVN 1 rfl ?_;refine End.normal_then ?_;refine End.again (j+1) ?_ ?_ ?_
   ·show _<=_; omega
   ·show _-_<_-_; omega
   ·exact(KC 1 rfl (KC 2 rfl (KC 4 rfl (KC 5 rfl (KC 7 rfl (KC 8 rfl (KC 1000002 rfl (KC 1000004 rfl (KC 1000005 rfl (KE 1000007 rfl (by rw[table_set (sched_length l j) hlt]; rfl) KN))))))))))
 ·obtain rfl:j=64:=by simp at hc31; omega
  refine A.exit (End.exit_then (End.exit_then (End.exit_here (EN (GTD (RS (ok_index0 (0) U198 info53 rfl rfl (rfl) (by decide)) ?_))))));refine RLV 1000002 U53 rfl rfl rfl ?_;refine RS (ok_index0 (1) U198 info53 rfl rfl (rfl) (by decide)) ?_;refine RLV 1000002 U53 rfl rfl rfl ?_;refine RS (ok_index0 (2) U198 info53 rfl rfl (rfl) (by decide)) ?_;refine RLV 1000002 U53 rfl rfl rfl ?_;refine RS (ok_index0 (3) U198 info53 rfl rfl (rfl) (by decide)) ?_;refine RLV 1000002 U53 rfl rfl rfl ?_;refine RS (ok_index0 (4) U198 info53 rfl rfl (rfl) (by decide)) ?_;refine RLV 1000002 U53 rfl rfl rfl ?_;refine RS (ok_index0 (5) U198 info53 rfl rfl (rfl) (by decide)) ?_;refine RLV 1000002 U53 rfl rfl rfl ?_;refine RS (ok_index0 (6) U198 info53 rfl rfl (rfl) (by decide)) ?_;refine RLV 1000002 U53 rfl rfl rfl ?_;refine RS (ok_index0 (7) U198 info53 rfl rfl (rfl) (by decide)) ?_;refine RLV 1000002 U53 rfl rfl rfl ?_;refine RVN 8 rfl ?_;refine A.sub (Sv [2,4,5,7,13,14,15,16,17,18,19,20,1000002,1000004,1000005,1000007] rfl) ?_;refine QS (GV rfl (A.block ?_));refine A.loop (ι:=Nat) (fun i=>i<=64) (fun i=>[(2,.v (.pointer (some ⟨b2,0,none⟩))),(4,.v (.pointer (some ⟨b4,0,none⟩))),(5,.v (.pointer (some ⟨b5,0,none⟩))),(7,.v (.pointer (some ⟨b7,0,none⟩))),(13,.v (u32V (rounds h K64 (sched l 64) i).a)),(14,.v (u32V (rounds h K64 (sched l 64) i).b)),(15,.v (u32V (rounds h K64 (sched l 64) i).c)),(16,.v (u32V (rounds h K64 (sched l 64) i).d)),(17,.v (u32V (rounds h K64 (sched l 64) i).e)),(18,.v (u32V (rounds h K64 (sched l 64) i).f)),(19,.v (u32V (rounds h K64 (sched l 64) i).g)),(20,.v (u32V (rounds h K64 (sched l 64) i).h)),(21,.v (.int .i64 ((i:Nat):Int))),(1000002,blk b2 198 (h.list.map u32V)),(1000004,blk b4 198 (List.replicate 8 (.int .u32 0))),(1000005,blk b5 197 (K64.map u32V)),(1000007,blk b7 197 (table (sched l 64) 64))]) (fun i=>64-i) 0 ?_ ?_ ?_
  ·exact Nat.zero_le _
  ·exact(Sv [2,4,5,7,13,14,15,16,17,18,19,20,21,1000002,1000004,1000005,1000007] rfl)
  intro i hi
  refine QS (GV rfl ?_);refine A.cond rfl (fun hc105=>?_) (fun hc105=>?_)
  ·have hlt:i<64:=by simp at hc105; omega
   refine QK (QSB (GT (RV 2 rfl ?_)));refine RS (ok_and32 rfl rfl) ?_;refine RM rfl ?_;refine RS (ok_not32 rfl) ?_;refine RM rfl ?_;refine RS (ok_and32 rfl rfl) ?_;refine RS (ok_or32 rfl rfl) ?_;refine RZ (u32V (choice (rounds h K64 (sched l 64) i).e (rounds h K64 (sched l 64) i).f (rounds h K64 (sched l 64) i).g)) (by rw[choice_or]) ?_;refine RVN 1 rfl ?_;refine GT (RV 2 rfl ?_);refine RS (ok_and32 rfl rfl) ?_;refine RV 2 rfl ?_;refine RS (ok_and32 rfl rfl) ?_;refine RS (ok_or32 rfl rfl) ?_;refine RV 2 rfl ?_;refine RS (ok_and32 rfl rfl) ?_;refine RS (ok_or32 rfl rfl) ?_;refine RZ (u32V (most (rounds h K64 (sched l 64) i).a (rounds h K64 (sched l 64) i).b (rounds h K64 (sched l 64) i).c)) (by rw[most_or]) ?_;refine RVN 1 rfl ?_;refine GTD (RV 2 rfl ?_);refine RS (ok_call (refrotr_fn _ 6 (by decide) (by decide)) (A2 rfl rfl)) ?_;refine RM rfl ?_;refine RS (ok_call (refrotr_fn _ 11 (by decide) (by decide)) (A2 rfl rfl)) ?_;refine RS (ok_xor32 rfl rfl) ?_;refine RM rfl ?_;refine RS (ok_call (refrotr_fn _ 25 (by decide) (by decide)) (A2 rfl rfl)) ?_;refine RS (ok_xor32 rfl rfl) ?_;refine RS (ok_add32 rfl rfl) ?_;refine RM rfl ?_;refine RS (ok_add32 rfl rfl) ?_;refine RM rfl ?_;refine RS (ok_index0 _ U197 info53 rfl rfl (rfl) (by omega)) ?_;refine RS (ok_loadV (s:=1000005) (by decide) U53 rfl rfl rfl (map_get32 (by rw[K64_lit]; omega))) ?_;refine RS (ok_add32 rfl rfl) ?_;refine RM rfl ?_;refine RS (ok_index0 _ U197 info53 rfl rfl (rfl) (by omega)) ?_;refine RS (ok_loadV (s:=1000007) (by decide) U53 rfl rfl rfl (table_get (by rw[sched_length]; omega))) ?_;refine RS (ok_add32 rfl rfl) ?_;refine RVN 1 rfl ?_;refine A.sub (Sv [2,4,5,7,13,14,15,16,17,18,19,21,23,24,1000002,1000004,1000005,1000007] rfl) ?_;refine GT (RM rfl ?_);refine RS (ok_call (refrotr_fn _ 2 (by decide) (by decide)) (A2 rfl rfl)) ?_;refine RM rfl ?_;refine RS (ok_call (refrotr_fn _ 13 (by decide) (by decide)) (A2 rfl rfl)) ?_;refine RS (ok_xor32 rfl rfl) ?_;refine RM rfl ?_;refine RS (ok_call (refrotr_fn _ 22 (by decide) (by decide)) (A2 rfl rfl)) ?_;refine RS (ok_xor32 rfl rfl) ?_;refine RM rfl ?_;refine RS (ok_add32 rfl rfl) ?_;refine RVN 1 rfl ?_;refine GTE (RV 5 rfl ?_);refine RS (ok_add32 rfl rfl) ?_;refine RV 5 rfl ?_;refine RS (ok_add32 rfl rfl) ?_;refine RVN 8 rfl ?_;refine End.sub (Sv [2,4,5,7,13,14,15,16,17,18,19,20,21,1000002,1000004,1000005,1000007] rfl) ?_;refine End.normal_block (EN (GTE (RV 2 rfl ?_)));refine RZ (.int .i64 ((i+1:Nat):Int)) (by rw[wrap_i64 (by omega) (by omega)]; first|rfl|(congr 1; omega)) ?_;refine RVN 1 rfl ?_;refine End.normal_then ?_;refine End.again (i+1) ?_ ?_ ?_
   ·show _<=_; omega
   ·show _-_<_-_; omega
   ·exact(Sv [2,4,5,7,13,14,15,16,17,18,19,20,21,1000002,1000004,1000005,1000007] rfl)
  ·obtain rfl:i=64:=by simp at hc105; omega
   refine A.exit (End.exit_then (End.exit_then (End.exit_here (EN (GS (TF 33 (RS (ok_index0 (0) U198 info53 rfl rfl (rfl) (by decide)) ?_)))))));refine RLV 1000002 U53 rfl rfl rfl ?_;refine RM rfl ?_;refine RS (ok_add32 rfl rfl) ?_;refine RS (ok_index0 (1) U198 info53 rfl rfl (rfl) (by decide)) ?_;refine RLV 1000002 U53 rfl rfl rfl ?_;refine RM rfl ?_;refine RS (ok_add32 rfl rfl) ?_;refine RS (ok_index0 (2) U198 info53 rfl rfl (rfl) (by decide)) ?_;refine RLV 1000002 U53 rfl rfl rfl ?_;refine RM rfl ?_;refine RS (ok_add32 rfl rfl) ?_;refine RS (ok_index0 (3) U198 info53 rfl rfl (rfl) (by decide)) ?_;refine RLV 1000002 U53 rfl rfl rfl ?_;refine RM rfl ?_;refine RS (ok_add32 rfl rfl) ?_;refine RS (ok_index0 (4) U198 info53 rfl rfl (rfl) (by decide)) ?_;refine RLV 1000002 U53 rfl rfl rfl ?_;refine RM rfl ?_;refine RS (ok_add32 rfl rfl) ?_;refine RS (ok_index0 (5) U198 info53 rfl rfl (rfl) (by decide)) ?_;refine RLV 1000002 U53 rfl rfl rfl ?_;refine RM rfl ?_;refine RS (ok_add32 rfl rfl) ?_;refine RS (ok_index0 (6) U198 info53 rfl rfl (rfl) (by decide)) ?_;refine RLV 1000002 U53 rfl rfl rfl ?_;refine RM rfl ?_;refine RS (ok_add32 rfl rfl) ?_;refine RS (ok_index0 (7) U198 info53 rfl rfl (rfl) (by decide)) ?_;refine RLV 1000002 U53 rfl rfl rfl ?_;refine RM rfl ?_;refine RS (ok_add32 rfl rfl) ?_;refine RS (ok_litA [_,_,_,_,_,_,_,_] U198 info53 zero198 rfl ⟨rfl,rfl,rfl,rfl,rfl,rfl,rfl,rfl,rfl,rfl,rfl,rfl,rfl,rfl,rfl,rfl,trivial⟩ rfl) ?_;refine RZ (aggV ((compress h l).list.map u32V)) (by rw[compress,R8.add_list]) ?_;refine RN ?_;refine⟨_,eff_storeA (n:=202) (s:=1000004) (size198.of (R8.size _)) rfl rfl (all_u32 _) hBb4 rfl ((R8.size _).symm) (LV 4 rfl (LB 1000002 rfl (LT 1000005 rfl (LT 1000007 rfl LN)))),?_⟩
   refine TL (RN (A.sub (Sv [4,1000002,1000004,1000005,1000007] rfl) ?_));refine A.ret ?_;exact End.cell1 (s:=1000004) rfl U198 rfl (size198.of (R8.size _)) rfl rfl (Le.refl _)
set_option maxHeartbeats 400000 in
theorem refSum_fn(l:List UInt8)(hl:l.length<=1000000): Fn Tryz.prog 64 [byt l] (.v (aggV ((sha l).map byteV))):=by
 have hpl:=padded_length l
 have hpm:=padded_mod l
 refine Fn.of Tryz.func64 rfl (by kernel_rfl) Tryz.ntmps64 (by simp) (fun w=>[(0,old w.heap.size (byt l))]) (fun w=>(Start.old rfl Start.nil)) fun w₀=>?_
 refine GS (TN 0 (RN ?_));refine ZN 1000002 zero32 fun b2 ⟨hBb2,hb2⟩=>?_
 refine TL (RN (GS (TF 2 (RS (ok_build0own U23 info5) ?_))));refine RVN 1 rfl ?_;refine⟨_,eff_appendS (vs:=l.map byteV) U23 info5 (by decide) rfl rfl rfl ((Le.old _ _).trans (Le.eq (byt_vals l))) (by simp[byteV,Value.oneCell']) (by simp; omega) (by decide) (fun g hg=>(LO 0 rfl (LV 2 rfl (LT 1000002 rfl LN)))),?_⟩
 refine TF 4 (RS (ok_build [byteD 128] U23 info5 rfl (by decide) (by decide) rfl ⟨rfl,rfl,trivial⟩ (fun d hd w x h=>by simp only[List.mem_cons,List.not_mem_nil,or_false] at hd; rcases hd with rfl; exact v_one rfl h)) ?_);refine RN ?_;refine⟨_,eff_appendS (vs:=[byteV 128]) U23 info5 (by decide) rfl rfl rfl (le_lst _ _) (by simp[byteV,Value.oneCell']) (by simp; omega) (by decide) (fun g hg=>(LO 0 rfl (LV 2 rfl (LT 1000002 rfl LN)))),?_⟩
 refine TL (RVN 1 rfl ?_);refine QSB ?_;refine A.loop (ι:=Nat) (fun z=>z<=((119-l.length%64)%64)) (fun z=>[(0,old w₀.heap.size (byt l)),(2,.v (.pointer (some ⟨b2,0,none⟩))),(3,own w₀.heap.size 5 (l.length+1+z) ((l++128::List.replicate z 0).map byteV)),(1000002,blk b2 32 (List.replicate 32 (.int .u8 0)))]) (fun z=>((119-l.length%64)%64)-z) 0 ?_ ?_ ?_
 ·exact Nat.zero_le _
 ·exact(KC 0 rfl (KC 2 rfl (KE 3 rfl (by simp) (KC 1000002 rfl KN))))
 intro z hz
 refine QS (GT (RM rfl ?_));refine RS (ok_lenB U23 rfl (own_byt (by simp; omega))) ?_;refine RZ (.int .i64 ((l.length+1+z:Nat):Int)) (by congr 2; simp; omega) ?_;refine RS (ok_rem rfl rfl (by decide)) ?_;refine RZ (.int .i64 (((l.length+1+z)%64:Nat):Int)) (by rw[tmod_lit _ (by decide)]; rfl) ?_;refine RVN 1 rfl ?_;refine A.cond rfl (fun hc19=>?_) (fun hc19=>?_)
 ·have hzl:z<((119-l.length%64)%64):=by simp at hc19; omega
  refine QK (A.block (GE (TF 2 (RM rfl ?_))));refine RS (ok_build [byteD 0] U23 info5 rfl (by decide) (by decide) rfl ⟨rfl,rfl,trivial⟩ (fun d hd w x h=>by simp only[List.mem_cons,List.not_mem_nil,or_false] at hd; rcases hd with rfl; exact v_one rfl h)) ?_;refine RN ?_;refine⟨_,eff_appendS (vs:=[byteV 0]) U23 info5 (by decide) rfl rfl rfl (le_lst _ _) (by simp[byteV,Value.oneCell']) (by simp; omega) (by decide) (fun g hg=>(LO 0 rfl (LV 2 rfl (LT 1000002 rfl LN)))),?_⟩
  refine TL (RVN 1 rfl ?_);refine End.normal_block (End.normal_then ?_);refine End.again (z+1) ?_ ?_ ?_
  ·show _<=_; omega
  ·show _-_<_-_; omega
  ·exact(KC 0 rfl (KC 2 rfl (KE 3 rfl (by rw[List.replicate_succ']; simp[Nat.add_assoc]) (KC 1000002 rfl KN))))
 ·obtain rfl:z=((119-l.length%64)%64):=by simp at hc19; omega
  refine A.exit (End.exit_then (End.exit_then (End.exit_here (EN (GS (TF 6 (RV 2 rfl ?_)))))));refine RS (ok_lenB U23 rfl (Le.old _ _)) ?_;refine RS (ok_conv U3 U33 rfl) ?_;refine RZ (.int .u64 ((l.length:Nat):Int)) (by rw[wrapN_u64 (by omega)]) ?_;refine RB rfl rfl rfl ?_;refine RZ (.int .u64 ((8*l.length:Nat):Int)) (by rw[wrap_u64 (by omega) (by omega)]; congr 1) ?_;refine RS (ok_call (refPut64_fn ((8*l.length:Nat):Int) (by omega) (by omega)) (A1 rfl)) ?_;refine RN ?_;refine⟨_,eff_appendS (vs:=(be 8 (8*l.length)).map byteV) U23 info5 (by decide) rfl rfl rfl ((le_byt _ _).trans (Le.eq (byt_vals _))) (by simp[byteV,Value.oneCell']) (by simp[be_length]; omega) (by decide) (fun g hg=>(LV 2 rfl (LT 1000002 rfl LN))),?_⟩
  refine TL (RVN 1 rfl ?_);refine GS (TN 4 (RS (ok_call refConstants_fn Args.nil) ?_));refine RM rfl ?_;refine RS (ok_extract rfl rfl) ?_;refine RS (ok_extract rfl rfl) ?_;refine RN ?_;refine ZN 1000004 zero197 fun b4 ⟨hBb4,hb4⟩=>?_
  refine TN 5 (RN ?_);refine ZN 1000005 zero198 fun b5 ⟨hBb5,hb5⟩=>?_
  refine TF 6 (RN ?_);refine ZA 1000004 (size197.of rfl) hBb4 rfl rfl rfl (LeftS.cons (t:=3) rfl (Surv.own (by decide)) (LT 1000002 rfl (LT 1000005 rfl (LW [2,5,33] rfl)))) ?_;refine TF 7 (RN ?_);refine⟨_,eff_storeA (n:=69) (s:=1000005) (size198.of (R8.size _)) rfl rfl (all_u32 _) hBb5 rfl (by first|exact(R8.size _).trans (R8.size _).symm|rfl) (LeftS.cons (t:=3) rfl (Surv.own (by decide)) (LT 1000002 rfl (LT 1000004 rfl (LW [2,5] rfl)))),?_⟩
  refine TL (RN (QS (GV rfl (A.block ?_))));refine A.loop (ι:=Nat) (fun k=>k<=((padded l).length / 64)) (fun k=>[(2,.v (.pointer (some ⟨b2,0,none⟩))),(3,own w₀.heap.size 5 ((padded l).length) ((padded l).map byteV)),(5,.v (.pointer (some ⟨b5,0,none⟩))),(6,.v (.int .i64 ((64*k:Nat):Int))),(1000002,blk b2 32 (List.replicate 32 (.int .u8 0))),(1000005,blk b5 198 ((chain H8 (padded l) k).list.map u32V))]) (fun k=>((padded l).length / 64)-k) 0 ?_ ?_ ?_
  ·exact Nat.zero_le _
  ·exact(KC 2 rfl (KE 3 rfl (by rw[hpl]; simp[padded,be_length,Nat.add_assoc]) (KC 5 rfl (KC 6 rfl (KC 1000002 rfl (KC 1000005 rfl KN))))))
  intro k hk
  refine QS (GT (RV 2 rfl ?_));refine RS (ok_lenB U23 rfl (own_byt rfl)) ?_;refine RVN 1 rfl ?_;refine A.cond rfl (fun hc37=>?_) (fun hc37=>?_)
  ·have hlt:64*k<(padded l).length:=by simp at hc37; omega
   have hk1:k<((padded l).length / 64):=by omega
   refine QK (QSB (A.reg (by kernel_rfl) (by kernel_rfl) (.inr (by kernel_rfl)) ?_));refine TD 7 ?_;refine RL 1000005 U198 rfl rfl (size198.of (R8.size _)) ?_;refine RV 4 rfl ?_;refine RZ (.int .i64 ((64*k+64:Nat):Int)) (by rw[wrap_i64 (by omega) (by omega)]; first|rfl|(congr 1; omega)) ?_;refine RS (ok_slice (64*k) (64*k+64) U23 info5 rfl (own_byt rfl) (.inl ⟨_,_,rfl,rfl⟩) (.inl ⟨_,_,rfl,rfl⟩) (by omega) (by simp; omega)) ?_;refine RS (ok_call (refCompress_fn (chain H8 (padded l) k) (((padded l).drop (64*k)).take 64) (by simp; omega)) (Args.cons rfl (Le.refl _) (Args.cons rfl (Le.eq (by simp only[byt,List.map_take,List.map_drop,List.drop_take]; congr 2; omega)) Args.nil))) ?_;refine RZ (aggV ((chain H8 (padded l) (k+1)).list.map u32V)) (rfl) ?_;refine RN ?_;refine⟨_,eff_storeA (n:=69) (s:=1000005) (size198.of (R8.size _)) rfl rfl (all_u32 _) hBb5 rfl (by first|exact(R8.size _).trans (R8.size _).symm|rfl) (LeftS.cons (t:=3) rfl (Surv.own (by decide)) (LT 1000002 rfl (LW [2,5,6] rfl))),?_⟩
   refine TL (RN (End.normal_block (EN (GTE (RV 2 rfl ?_)))));refine RZ (.int .i64 ((64*(k+1):Nat):Int)) (by rw[wrap_i64 (by omega) (by omega)]; first|rfl|(congr 1; omega)) ?_;refine RVN 1 rfl ?_;refine End.normal_then ?_;refine End.again (k+1) ?_ ?_ ?_
   ·show _<=_; omega
   ·show _-_<_-_; omega
   ·exact(Sv [2,3,5,6,1000002,1000005] rfl)
  ·obtain rfl:k=((padded l).length / 64):=by simp at hc37; omega
   refine A.exit (End.exit_then (End.exit_then (End.exit_here (EN (GS (TN 0 (RN ?_)))))));refine ZN 1000007 zero32 fun b7 ⟨hBb7,hb7⟩=>?_
   have hlt_b2_b7:=hb7 1000002 b2 _ _ rfl
   refine TL (RN (QS (GV rfl (A.block ?_))));refine A.loop (ι:=Nat) (fun i=>i<=8) (fun i=>[(2,.v (.pointer (some ⟨b2,0,none⟩))),(5,.v (.pointer (some ⟨b5,0,none⟩))),(7,.v (.pointer (some ⟨b7,0,none⟩))),(8,.v (.int .i64 ((i:Nat):Int))),(1000002,blk b2 32 (List.replicate 32 (.int .u8 0))),(1000005,blk b5 198 ((shaR l).list.map u32V)),(1000007,blk b7 32 (tableB ((sha l).take (4*i)) 32))]) (fun i=>8-i) 0 ?_ ?_ ?_
   ·exact Nat.zero_le _
   ·exact(KC 2 rfl (KC 5 rfl (KC 7 rfl (KC 8 rfl (KC 1000002 rfl (KC 1000005 rfl (KE 1000007 rfl (by rw[Nat.mul_zero,List.take_zero,<- tableB_nil]) KN)))))))
   intro i hi
   refine QS (GV rfl ?_);refine A.cond rfl (fun hc48=>?_) (fun hc48=>?_)
   ·have hi8:i<8:=by simp at hc48; omega
    refine QK (QSB (GT (RM rfl ?_)));refine RS (ok_index0 _ U198 info53 rfl rfl (rfl) (by omega)) ?_;refine RS (ok_loadV (s:=1000005) (by decide) U53 rfl rfl rfl (map_get32 (by show i<8; omega))) ?_;refine RS (ok_callB (refPut32_fnB ((((shaR l).list.getD i 0).toNat:Nat):Int) (Int.natCast_nonneg _) (by have:=u32_lt ((shaR l).list.getD i 0); omega)) (fun _ _=>fresh_mono _ _) (A1 rfl)) ?_;refine RVN 1 rfl ?_;refine GV rfl (A.block ?_);refine A.loop (ι:=Nat) (fun k=>k<=4) (fun k=>[(2,.v (.pointer (some ⟨b2,0,none⟩))),(5,.v (.pointer (some ⟨b5,0,none⟩))),(7,.v (.pointer (some ⟨b7,0,none⟩))),(8,.v (.int .i64 ((i:Nat):Int))),(9,fresh w₀.heap.size 5 ((be 4 ((shaR l).list.getD i 0).toNat).map byteV) 4),(10,.v (.int .i64 ((k:Nat):Int))),(1000002,blk b2 32 (List.replicate 32 (.int .u8 0))),(1000005,blk b5 198 ((shaR l).list.map u32V)),(1000007,blk b7 32 (tableB ((sha l).take (4*i+k)) 32))]) (fun k=>4-k) 0 ?_ ?_ ?_
    ·exact Nat.zero_le _
    ·exact(Sv [2,5,7,8,9,10,1000002,1000005,1000007] rfl)
    intro k hk
    refine QS (GV rfl ?_);refine A.cond rfl (fun hc56=>?_) (fun hc56=>?_)
    ·have hk4:k<4:=by simp at hc56; omega
     refine QK (QSB (GE (TF 9 (RV 2 rfl ?_))));refine RZ (.int .i64 ((4*i:Nat):Int)) (by rw[wrap_i64 (by omega) (by omega)]; first|rfl|(congr 1; omega)) ?_;refine RV 2 rfl ?_;refine RZ (.int .i64 ((4*i+k:Nat):Int)) (by rw[wrap_i64 (by omega) (by omega)]; first|rfl|(congr 1; omega)) ?_;refine RV 2 rfl ?_;refine RS (ok_index (d:=byteD ((sha l).getD (4*i+k) 0)) U23 info5 rfl ((fresh_bytes (l:=be 4 ((shaR l).list.getD i 0).toNat) (by rw[be_length]) (by decide)).trans (le_byt _ _)) rfl (by omega) (by rw[Int.toNat_natCast,List.getElem?_map,sha_get l (by omega) (by omega)]; rfl)) ?_;refine RS (ok_load U5 rfl rfl) ?_;refine RS (ok_index0 _ U32 info5 rfl rfl (rfl) (by omega)) ?_;refine RN ?_;refine⟨_,eff_storeS (n:=69) (s:=1000007) info5 rfl rfl rfl hBb7 rfl (by rw[tableB_length (by simp[sha_length]; omega)]; omega) (LeftS.cons (t:=9) rfl (Surv.fresh (by decide)) (LB 1000002 rfl (LT 1000005 rfl (LW [2,5,7,8,10] rfl)))),?_⟩
     refine TL (RN (End.normal_block (EN (GTE (RV 2 rfl ?_)))));refine RZ (.int .i64 ((k+1:Nat):Int)) (by rw[wrap_i64 (by omega) (by omega)]; first|rfl|(congr 1; omega)) ?_;refine RVN 1 rfl ?_;refine End.normal_then ?_;refine End.again (k+1) ?_ ?_ ?_
     ·show _<=_; omega
     ·show _-_<_-_; omega
     ·exact(KC 2 rfl (KC 5 rfl (KC 7 rfl (KC 8 rfl (KC 9 rfl (KC 10 rfl (KC 1000002 rfl (KC 1000005 rfl (KE 1000007 rfl (by rw[tableB_step (sha_length l) (by omega)]; rfl) KN)))))))))
    ·obtain rfl:k=4:=by simp at hc56; omega
     refine A.exit (End.exit_then (End.exit_then (End.exit_here (End.normal_block (EN (GTE (RV 2 rfl ?_)))))));refine RZ (.int .i64 ((i+1:Nat):Int)) (by rw[wrap_i64 (by omega) (by omega)]; first|rfl|(congr 1; omega)) ?_;refine RVN 1 rfl ?_;refine End.normal_then ?_;refine End.again (i+1) ?_ ?_ ?_
     ·show _<=_; omega
     ·show _-_<_-_; omega
     ·exact(Sv [2,5,7,8,1000002,1000005,1000007] rfl)
   ·obtain rfl:i=8:=by simp at hc48; omega
    refine A.exit (End.exit_then (End.exit_then (End.exit_here (EN (GS (TF 1 (RL 1000007 U32 rfl rfl (size32.of (by rw[tableB_length (by simp[sha_length])])) ?_)))))));refine RZ (aggV ((sha l).map byteV)) (by rw[tableB_full (by simp[sha_length]),List.take_of_length_le (by rw[sha_length]; decide)]) ?_;refine RN ?_;refine⟨_,eff_storeA (n:=69) (s:=1000002) (size32.of (by rw[List.length_map,sha_length])) rfl rfl (all_bytes _) hBb2 rfl (by rw[List.length_map,sha_length,List.length_replicate]) (LV 2 rfl (LT 1000005 rfl (LB 1000007 rfl LN))),?_⟩
    refine TL (RN (A.ret ?_));exact End.cell1 (s:=1000002) rfl U32 rfl (size32.of (by rw[List.length_map,sha_length])) rfl rfl (Le.refl _)
theorem rot_amount(n:Int): ∃ s:Nat,s<32∧n%32=(s:Int)∧(n%18446744073709551616%32=(s:Int)):=⟨(n%32).toNat,by omega,by omega,by omega⟩
theorem RotateLeft32_fn(v n:Int)(hv0:0<=v)(hv:v<4294967296): Fn Tryz.prog 213 [.v (.int .u32 v),.v (.int .i64 n)] (.v (.int .u32 (rotB v.toNat (n%32).toNat))):=by
 obtain⟨V,rfl⟩:=Int.eq_ofNat_of_zero_le hv0
 obtain⟨s,hs,h1,h2⟩:=rot_amount n
 obtain⟨M,hM⟩:=Int.eq_ofNat_of_zero_le (Int.emod_nonneg n (show(18446744073709551616:Int)≠0 by decide))
 have hMlt:M<18446744073709551616:=by omega
 have hMs:M%32=s:=by omega
 rw[h1]
 simp only[Int.toNat_natCast]
 refine FV Tryz.func213 rfl Tryz.ntmps213 rfl fun w₀=>?_
 refine GV rfl (GT (RM rfl ?_));refine RS (ok_conv U3 U173 rfl) ?_;refine RZ (.int .u64 (M:Int)) (by rw[wrap_u64_int,hM]) ?_;refine RB rfl rfl rfl ?_;refine RZ (.int .u64 (s:Int)) (by rw[show IntKind.u64.bits=64 from rfl,show(31:Int)=((31:Nat):Int) from rfl,and_u64_nat hMlt (by decide),and31,hMs]) ?_;refine RVN 1 rfl ?_;refine GT (RV 2 rfl ?_);refine RS (ok_shl rfl rfl (by omega)) ?_;refine RZ (.int .u32 ((V*2^s%4294967296:Nat):Int)) (by rw[Int.toNat_natCast,show min s IntKind.u32.bits=s from by simp only[IntKind.bits]; omega,<- wrap_u32_nat]; congr 2) ?_;refine RV 3 rfl ?_;refine RZ (.int .u64 ((32-s:Nat):Int)) (by rw[wrap_u64 (by omega) (by omega)]; congr 1; omega) ?_;refine RS (ok_shr rfl rfl (by omega)) ?_;refine RZ (.int .u32 ((V / 2^(32-s):Nat):Int)) (by rw[Int.toNat_natCast,show min (32-s) IntKind.u32.bits=32-s from by simp only[IntKind.bits]; omega,shr_nat]) ?_;refine RB rfl rfl rfl ?_;refine RZ (.int .u32 ((rotB V s:Nat):Int)) (by rw[show IntKind.u32.bits=32 from rfl,or_u32_nat (Nat.mod_lt _ (by decide)) (Nat.lt_of_le_of_lt (Nat.div_le_self _ _) (by omega)),rotB_go (by omega) hs]) ?_;refine RVN 1 rfl ?_;refine A.ret ?_;exact ER rfl rfl
theorem Rot_fn(v n:Int)(hv0:0<=v)(hv:v<4294967296): Fn Tryz.prog 209 [.v (.int .u32 v),.v (.int .i64 n)] (.v (.int .u32 (rotB v.toNat (n%32).toNat))):=by
 refine FV Tryz.func209 rfl Tryz.ntmps209 rfl fun w₀=>?_
 refine GV rfl (GT (RV 2 rfl ?_));refine RS (ok_call (RotateLeft32_fn v n hv0 hv) (Args.cons rfl LA (Args.cons rfl LA Args.nil))) ?_;refine RVN 1 rfl ?_;refine A.ret ?_;exact ER rfl rfl
abbrev tabs:Env:=[(1900001,tab 1 (H8.list.map u32V)),(1900002,tab 2 (K64.map u32V))]
theorem tabs_v: ∀ p∈tabs,vbase<=p.1:=fun p hp=>by
 simp only[tabs,List.mem_cons,List.not_mem_nil,or_false] at hp
 rcases hp with rfl|rfl<;>decide
theorem tabs_hi(h:∀ p∈tabs,p.2.Of w undef): 2<w.heap.size:=by
 have:=h (1900002,tab 2 (K64.map u32V)) (by simp[tabs])
 exact this.1
theorem size260: SizeIs Tryz.prog 260 64:=by unfold SizeIs; kernel_rfl
theorem rotr_fn(x:UInt32)(n:Nat)(hn0:0<n)(hn:n<32): Fn Tryz.prog 203 [.v (u32V x),.v (.int .i64 (n:Int))] (.v (u32V (rotr32 x n))):=by
 have hx:=u32_lt x
 refine FV Tryz.func203 rfl Tryz.ntmps203 rfl fun w₀=>?_
 refine GV rfl (GT (RV 2 rfl ?_));refine RS (ok_neg rfl) ?_;refine RZ (.int .i64 (-(n:Int))) (by rw[wrap_i64 (by omega) (by omega)]; congr 1; omega) ?_;refine RS (ok_call (Rot_fn (x.toNat:Int) (-(n:Int)) (Int.natCast_nonneg _) (by omega)) (A2 rfl rfl)) ?_;refine RZ (u32V (rotr32 x n)) (by rw[rotr32_val,Int.toNat_natCast,show(-(n:Int)%32).toNat=32-n from by omega]) ?_;refine RVN 1 rfl ?_;refine A.ret ?_;exact ER rfl rfl
set_option maxHeartbeats 400000 in
theorem schedule_fn(l:List UInt8)(hl:l.length=64): Fn Tryz.prog 191 [.v (aggV (l.map byteV))] (.v (aggV ((sched l 64).map u32V))):=by
 refine FV Tryz.func191 rfl Tryz.ntmps191 rfl fun w₀=>?_
 refine GS (TN 0 (RN ?_));refine ZB 1000001 rfl fun b1 ⟨hBb1,hb1⟩=>?_
 refine TN 1 (RN ?_);refine ZN 1000002 zero197 fun b2 ⟨hBb2,hb2⟩=>?_
 refine TL (RN (GS (TN 0 (RN ?_))));refine ZN 1000003 zero197 fun b3 ⟨hBb3,hb3⟩=>?_
 have hlt_b2_b3:=hb3 1000002 b2 _ _ rfl
 refine TL (RN (QS (GV rfl (A.block ?_))));refine A.loop (ι:=Nat) (fun j=>j<=16) (fun j=>[(1,.v (.pointer (some ⟨b1,0,none⟩))),(2,.v (.pointer (some ⟨b2,0,none⟩))),(3,.v (.pointer (some ⟨b3,0,none⟩))),(10,.v (.int .i64 ((j:Nat):Int))),(1000001,blk b1 260 (l.map byteV)),(1000002,blk b2 197 (List.replicate 64 (.int .u32 0))),(1000003,blk b3 197 (table (sched l j) 64))]) (fun j=>16-j) 0 ?_ ?_ ?_
 ·exact Nat.zero_le _
 ·exact(KC 1 rfl (KC 2 rfl (KC 3 rfl (KC 10 rfl (KC 1000001 rfl (KC 1000002 rfl (KE 1000003 rfl (rfl) KN)))))))
 intro j hj
 refine GV rfl (QS ?_);refine A.cond rfl (fun hc11=>?_) (fun hc11=>?_)
 ·have hlt:j<16:=by simp at hc11; omega
  refine QK (QSB (GV rfl (GE (TF 12 (RV 3 rfl ?_)))));refine RZ (.int .i64 ((4*j:Nat):Int)) (by rw[wrap_i64 (by omega) (by omega)]; first|rfl|(congr 1; omega)) ?_;refine RV 2 rfl ?_;refine RZ (.int .i64 ((j+1:Nat):Int)) (by rw[wrap_i64 (by omega) (by omega)]; first|rfl|(congr 1; omega)) ?_;refine RB rfl rfl rfl ?_;refine RZ (.int .i64 ((4*j+4:Nat):Int)) (by rw[wrap_i64 (by omega) (by omega)]; first|rfl|(congr 1; omega)) ?_;refine RS (ok_sliceA (s:=1000001) (4*j) (4*j+4) (by decide) U260 info5 rfl rfl (.inl ⟨_,_,rfl,rfl⟩) (.inl ⟨_,_,rfl,rfl⟩) (by omega) (by omega) (by rw[List.length_map,hl]) (by decide)) ?_;refine RS (ok_call (Get32_fn ((l.drop (4*j)).take 4)) (Args.cons rfl (Le.eq (by rw[byt_vals]; congr 2; rw[List.map_take,List.map_drop,List.drop_take,show 4*j+4-4*j=4 from by omega])) Args.nil)) ?_;refine RM rfl ?_;refine RS (ok_extract rfl rfl) ?_;refine RZ (u32V (nextW l (sched l j) j)) (by rw[nextW,if_pos hlt,word,u32V_ofNat,getV,if_pos (by simp; omega),Nat.mod_eq_of_lt (word_lt l j)]) ?_;refine RS (ok_extract rfl rfl) ?_;refine RS (ok_index0 _ U197 info53 rfl rfl (rfl) (by omega)) ?_;refine RN ?_;refine⟨_,eff_storeS (n:=70) (s:=1000003) info53 rfl rfl rfl hBb3 rfl (by rw[table_length (by rw[sched_length]; omega)]; omega) (LT 1000001 rfl (LB 1000002 rfl (LW [1,2,3,10] rfl))),?_⟩
  refine TL (RN (End.normal_block (EN (GTE (RB rfl rfl rfl ?_)))));refine RZ (.int .i64 ((j+1:Nat):Int)) (by rw[wrap_i64 (by omega) (by omega)]; first|rfl|(congr 1; omega)) ?_;refine RVN 1 rfl ?_;refine End.normal_then ?_;refine End.again (j+1) ?_ ?_ ?_
  ·show _<=_; omega
  ·show _-_<_-_; omega
  ·exact(KC 1 rfl (KC 2 rfl (KC 3 rfl (KC 10 rfl (KC 1000001 rfl (KC 1000002 rfl (KE 1000003 rfl (by rw[table_set (sched_length l j) (by omega)]; rfl) KN)))))))
 ·obtain rfl:j=16:=by simp at hc11; omega
  refine A.exit (End.exit_then (End.exit_then (End.exit_here (EN (QS (GV rfl (A.block ?_)))))));refine A.loop (ι:=Nat) (fun j=>16<=j∧j<=64) (fun j=>[(2,.v (.pointer (some ⟨b2,0,none⟩))),(3,.v (.pointer (some ⟨b3,0,none⟩))),(5,.v (.int .i64 ((j:Nat):Int))),(1000002,blk b2 197 (List.replicate 64 (.int .u32 0))),(1000003,blk b3 197 (table (sched l j) 64))]) (fun j=>64-j) 16 ?_ ?_ ?_
  ·exact⟨Nat.le_refl _,by decide⟩
  ·exact(Sv [2,3,5,1000002,1000003] rfl)
  intro j hj
  refine QS (GV rfl ?_);refine A.cond rfl (fun hc27=>?_) (fun hc27=>?_)
  ·have hlt:j<64:=by simp at hc27; omega
   refine QK (QSB (GTD (RV 2 rfl ?_)));refine RZ (.int .i64 ((j-15:Nat):Int)) (by rw[wrap_i64 (by omega) (by omega)]; first|rfl|(congr 1; omega)) ?_;refine RS (ok_index0 _ U197 info53 rfl rfl (rfl) (by omega)) ?_;refine RS (ok_loadV (s:=1000003) (by decide) U53 rfl rfl rfl (table_get (by rw[sched_length]; omega))) ?_;refine RV 2 rfl ?_;refine RZ (.int .i64 ((j-2:Nat):Int)) (by rw[wrap_i64 (by omega) (by omega)]; first|rfl|(congr 1; omega)) ?_;refine RS (ok_index0 _ U197 info53 rfl rfl (rfl) (by omega)) ?_;refine RS (ok_loadV (s:=1000003) (by decide) U53 rfl rfl rfl (table_get (by rw[sched_length]; omega))) ?_;refine RVN 2 rfl ?_;refine GT (RM rfl ?_);refine RS (ok_call (rotr_fn _ 7 (by decide) (by decide)) (A2 rfl rfl)) ?_;refine RM rfl ?_;refine RS (ok_call (rotr_fn _ 18 (by decide) (by decide)) (A2 rfl rfl)) ?_;refine RS (ok_xor32 rfl rfl) ?_;refine RM rfl ?_;refine RS (ok_shr32 3 rfl rfl rfl (by decide)) ?_;refine RS (ok_xor32 rfl rfl) ?_;refine RVN 1 rfl ?_;refine GT (RM rfl ?_);refine RS (ok_call (rotr_fn _ 17 (by decide) (by decide)) (A2 rfl rfl)) ?_;refine RM rfl ?_;refine RS (ok_call (rotr_fn _ 19 (by decide) (by decide)) (A2 rfl rfl)) ?_;refine RS (ok_xor32 rfl rfl) ?_;refine RM rfl ?_;refine RS (ok_shr32 10 rfl rfl rfl (by decide)) ?_;refine RS (ok_xor32 rfl rfl) ?_;refine RVN 1 rfl ?_;refine A.sub (Sv [2,3,5,8,9,1000002,1000003] rfl) ?_;refine A.reg (by kernel_rfl) (by kernel_rfl) (.inr (by kernel_rfl)) ?_;refine TD 15 ?_;refine RV 4 rfl ?_;refine RZ (.int .i64 ((j-7:Nat):Int)) (by rw[wrap_i64 (by omega) (by omega)]; first|rfl|(congr 1; omega)) ?_;refine RS (ok_index0 _ U197 info53 rfl rfl (rfl) (by omega)) ?_;refine RS (ok_loadV (s:=1000003) (by decide) U53 rfl rfl rfl (table_get (by rw[sched_length]; omega))) ?_;refine RS (ok_add32 rfl rfl) ?_;refine RM rfl ?_;refine RS (ok_add32 rfl rfl) ?_;refine RV 2 rfl ?_;refine RZ (.int .i64 ((j-16:Nat):Int)) (by rw[wrap_i64 (by omega) (by omega)]; first|rfl|(congr 1; omega)) ?_;refine RS (ok_index0 _ U197 info53 rfl rfl (rfl) (by omega)) ?_;refine RS (ok_loadV (s:=1000003) (by decide) U53 rfl rfl rfl (table_get (by rw[sched_length]; omega))) ?_;refine RS (ok_add32 rfl rfl) ?_;refine RZ (u32V (nextW l (sched l j) j)) (by rw[nextW,if_neg (by omega),sha0,sha1]; congr 1; ac_rfl) ?_;refine RS (ok_index0 _ U197 info53 rfl rfl (rfl) (by omega)) ?_;refine RN ?_;refine⟨_,eff_storeS (n:=70) (s:=1000003) info53 rfl rfl rfl hBb3 rfl (by rw[table_length (by rw[sched_length]; omega)]; omega) (LB 1000002 rfl (LW [2,3,5] rfl)),?_⟩
   refine TL (RN (End.normal_block (EN (GTE (RV 2 rfl ?_)))));refine RZ (.int .i64 ((j+1:Nat):Int)) (by rw[wrap_i64 (by omega) (by omega)]; first|rfl|(congr 1; omega)) ?_;refine RVN 1 rfl ?_;refine End.normal_then ?_;refine End.again (j+1) ?_ ?_ ?_
   ·show _∧_; omega
   ·show _-_<_-_; omega
   ·exact(KC 2 rfl (KC 3 rfl (KC 5 rfl (KC 1000002 rfl (KE 1000003 rfl (by rw[table_set (sched_length l j) hlt]; rfl) KN)))))
  ·obtain rfl:j=64:=by simp at hc27; omega
   refine A.exit (End.exit_then (End.exit_then (End.exit_here (EN (GS (TF 1 (RL 1000003 U197 rfl rfl (size197.of (by rw[table_length (by rw[sched_length]; exact Nat.le_refl _)])) ?_)))))));refine RZ (aggV ((sched l 64).map u32V)) (by rw[table_full (sched_length l 64)]) ?_;refine RN ?_;refine⟨_,eff_storeA (n:=70) (s:=1000002) (size197.of (by rw[List.length_map,sched_length])) rfl rfl (all_u32 _) hBb2 rfl (by rw[List.length_map,sched_length,List.length_replicate]) (LV 2 rfl (LB 1000003 rfl LN)),?_⟩
   refine TL (RN (A.ret ?_));exact End.cell1 (s:=1000002) rfl U197 rfl (size197.of (by rw[List.length_map,sched_length])) rfl rfl (Le.refl _)
set_option maxHeartbeats 400000 in
theorem rounds_fn(h:R8)(ws:List UInt32)(hw:ws.length=64): FnM Tryz.prog 190 tabs [.v (aggV (h.list.map u32V)),.v (aggV (ws.map u32V))] (.v (aggV ((rounds h K64 ws 64).list.map u32V))):=by
 refine FnM.of Tryz.func190 rfl (by kernel_rfl) Tryz.ntmps190 (by simp) (by decide) (fun w=>[(0,.v (aggV (h.list.map u32V))),(1,.v (aggV (ws.map u32V))),(1900001,tab 1 (H8.list.map u32V)),(1900002,tab 2 (K64.map u32V))]) (fun w=>(StartM.v rfl (StartM.v rfl (StartM.m (by simp[tabs]) (by decide) (StartM.m (by simp[tabs]) (by decide) StartM.nil))))) fun w₀ hM=>?_
 have htab:=tabs_hi hM
 refine GS (TN 0 (RN ?_));refine ZB 1000002 rfl fun b2 ⟨hBb2,hb2⟩=>?_
 refine TN 1 (RN ?_);refine ZB 1000003 rfl fun b3 ⟨hBb3,hb3⟩=>?_
 refine TN 2 (RN ?_);refine ZN 1000004 zero198 fun b4 ⟨hBb4,hb4⟩=>?_
 have hlt_b2_b4:=hb4 1000002 b2 _ _ rfl
 refine TL (RN (GTD (RS (ok_index0 (0) U198 info53 rfl rfl (rfl) (by decide)) ?_)));refine RLV 1000002 U53 rfl rfl rfl ?_;refine RS (ok_index0 (1) U198 info53 rfl rfl (rfl) (by decide)) ?_;refine RLV 1000002 U53 rfl rfl rfl ?_;refine RS (ok_index0 (2) U198 info53 rfl rfl (rfl) (by decide)) ?_;refine RLV 1000002 U53 rfl rfl rfl ?_;refine RS (ok_index0 (3) U198 info53 rfl rfl (rfl) (by decide)) ?_;refine RLV 1000002 U53 rfl rfl rfl ?_;refine RS (ok_index0 (4) U198 info53 rfl rfl (rfl) (by decide)) ?_;refine RLV 1000002 U53 rfl rfl rfl ?_;refine RS (ok_index0 (5) U198 info53 rfl rfl (rfl) (by decide)) ?_;refine RLV 1000002 U53 rfl rfl rfl ?_;refine RS (ok_index0 (6) U198 info53 rfl rfl (rfl) (by decide)) ?_;refine RLV 1000002 U53 rfl rfl rfl ?_;refine RS (ok_index0 (7) U198 info53 rfl rfl (rfl) (by decide)) ?_;refine RLV 1000002 U53 rfl rfl rfl ?_;refine RVN 8 rfl ?_;refine A.sub (Sv [3,4,5,6,7,8,9,10,11,12,1000002,1000003,1000004,1900001,1900002] rfl) ?_;refine QS (GT (RS (ok_loadT (s:=1900002) (by decide) U197 rfl (size197.of (by rw[List.length_map,K64_lit])) rfl rfl) ?_));refine RVN 1 rfl ?_;refine A.block ?_;refine A.loop (ι:=Nat) (fun i=>i<=64) (fun i=>[(3,.v (.pointer (some ⟨b3,0,none⟩))),(4,.v (.pointer (some ⟨b4,0,none⟩))),(5,.v (u32V (rounds h K64 ws i).a)),(6,.v (u32V (rounds h K64 ws i).b)),(7,.v (u32V (rounds h K64 ws i).c)),(8,.v (u32V (rounds h K64 ws i).d)),(9,.v (u32V (rounds h K64 ws i).e)),(10,.v (u32V (rounds h K64 ws i).f)),(11,.v (u32V (rounds h K64 ws i).g)),(12,.v (u32V (rounds h K64 ws i).h)),(33,.v (aggV (K64.map u32V))),(34,.v (.int .i64 ((i:Nat):Int))),(1000003,blk b3 197 (ws.map u32V)),(1000004,blk b4 198 (List.replicate 8 (.int .u32 0))),(1900001,tab 1 (H8.list.map u32V)),(1900002,tab 2 (K64.map u32V))]) (fun i=>64-i) 0 ?_ ?_ ?_
 ·exact Nat.zero_le _
 ·exact(Sv [3,4,5,6,7,8,9,10,11,12,33,34,1000003,1000004,1900001,1900002] rfl)
 intro i hi
 refine GV rfl (QS ?_);refine A.cond rfl (fun hc35=>?_) (fun hc35=>?_)
 ·have hlt:i<64:=by simp at hc35; omega
  refine QK (QSB (GT (RM rfl ?_)));refine RS (ok_indexV1 i U197 U53 rfl info53 rfl rfl rfl hlt (map_get32 (by rw[K64_lit]; omega))) ?_;refine RVN 2 rfl ?_;refine GTD (RV 2 rfl ?_);refine RS (ok_call (rotr_fn _ 6 (by decide) (by decide)) (A2 rfl rfl)) ?_;refine RM rfl ?_;refine RS (ok_call (rotr_fn _ 11 (by decide) (by decide)) (A2 rfl rfl)) ?_;refine RS (ok_xor32 rfl rfl) ?_;refine RM rfl ?_;refine RS (ok_call (rotr_fn _ 25 (by decide) (by decide)) (A2 rfl rfl)) ?_;refine RS (ok_xor32 rfl rfl) ?_;refine RS (ok_add32 rfl rfl) ?_;refine RV 2 rfl ?_;refine RS (ok_and32 rfl rfl) ?_;refine RM rfl ?_;refine RS (ok_not32 rfl) ?_;refine RM rfl ?_;refine RS (ok_and32 rfl rfl) ?_;refine RS (ok_xor32 rfl rfl) ?_;refine RS (ok_add32 rfl rfl) ?_;refine RM rfl ?_;refine RS (ok_add32 rfl rfl) ?_;refine RM rfl ?_;refine RS (ok_index0 _ U197 info53 rfl rfl (rfl) (by omega)) ?_;refine RS (ok_loadV (s:=1000003) (by decide) U53 rfl rfl rfl (map_get32 (by omega))) ?_;refine RS (ok_add32 rfl rfl) ?_;refine RVN 1 rfl ?_;refine A.sub (Sv [3,4,5,6,7,8,9,10,11,15,33,34,1000003,1000004,1900001,1900002] rfl) ?_;refine GT (RM rfl ?_);refine RS (ok_call (rotr_fn _ 2 (by decide) (by decide)) (A2 rfl rfl)) ?_;refine RM rfl ?_;refine RS (ok_call (rotr_fn _ 13 (by decide) (by decide)) (A2 rfl rfl)) ?_;refine RS (ok_xor32 rfl rfl) ?_;refine RM rfl ?_;refine RS (ok_call (rotr_fn _ 22 (by decide) (by decide)) (A2 rfl rfl)) ?_;refine RS (ok_xor32 rfl rfl) ?_;refine RV 2 rfl ?_;refine RS (ok_and32 rfl rfl) ?_;refine RV 2 rfl ?_;refine RS (ok_and32 rfl rfl) ?_;refine RS (ok_xor32 rfl rfl) ?_;refine RV 2 rfl ?_;refine RS (ok_and32 rfl rfl) ?_;refine RS (ok_xor32 rfl rfl) ?_;refine RS (ok_add32 rfl rfl) ?_;refine RVN 1 rfl ?_;refine GTE (RV 5 rfl ?_);refine RS (ok_add32 rfl rfl) ?_;refine RV 5 rfl ?_;refine RS (ok_add32 rfl rfl) ?_;refine RVN 8 rfl ?_;refine End.sub (Sv [3,4,5,6,7,8,9,10,11,12,33,34,1000003,1000004,1900001,1900002] rfl) ?_;refine End.normal_block (EN (GTE (RB rfl rfl rfl ?_)));refine RZ (.int .i64 ((i+1:Nat):Int)) (by rw[wrap_i64 (by omega) (by omega)]; first|rfl|(congr 1; omega)) ?_;refine RVN 1 rfl ?_;refine End.normal_then ?_;refine End.again (i+1) ?_ ?_ ?_
  ·show _<=_; omega
  ·show _-_<_-_; omega
  ·exact(Sv [3,4,5,6,7,8,9,10,11,12,33,34,1000003,1000004,1900001,1900002] rfl)
 ·obtain rfl:i=64:=by simp at hc35; omega
  refine A.exit (End.exit_then (End.exit_then (End.exit_here (EN (GS (TF 9 (RV 8 rfl ?_)))))));refine RS (ok_litA [_,_,_,_,_,_,_,_] U198 info53 zero198 rfl ⟨rfl,rfl,rfl,rfl,rfl,rfl,rfl,rfl,rfl,rfl,rfl,rfl,rfl,rfl,rfl,rfl,trivial⟩ rfl) ?_;refine RZ (aggV ((rounds h K64 ws 64).list.map u32V)) (rfl) ?_;refine RN ?_;refine⟨_,eff_storeA (n:=105) (s:=1000004) (size198.of (R8.size _)) rfl rfl (all_u32 _) hBb4 rfl ((R8.size _).symm) (LV 4 rfl (LT 1000003 rfl (LQ 1900001 rfl (LQ 1900002 rfl LN)))),?_⟩
  refine TL (RN (A.ret ?_));exact End.cell1 (s:=1000004) rfl U198 rfl (size198.of (R8.size _)) rfl rfl (Le.refl _)
def restAt (l:List UInt8) (i:Nat):UInt8:=if (l.length+63-i) / 64=0 then 0 else l.getD (64*((l.length+63-i) / 64-1)+i) 0
def restL (l:List UInt8):List UInt8:=(List.range 64).map (restAt l)
def fullR (l:List UInt8):R8:=if l.length<64 then ⟨0,0,0,0,0,0,0,0⟩ else chain H8 l (l.length / 64)
def stM (f:R8) (r:List UInt8) (n:Nat):List Value:=f.list.map u32V++(r.map byteV++[.int .u64 (n:Int)])
def stL (l:List UInt8):List Value:=stM (fullR l) (restL l) l.length
def stV (l:List UInt8):Value:=aggV (stL l)
theorem restL_length(l:List UInt8): (restL l).length=64:=by simp[restL]
theorem restL_get(l:List UInt8)(h:i<64): (restL l)[i]?=some (restAt l i):=by simp[restL,h]
theorem stM_length{f:R8}{r:List UInt8}(hr:r.length=64): (stM f r n).length=73:=by simp[stM,hr,R8.list]
theorem stM_full(f:R8)(r:List UInt8)(n:Nat): ((stM f r n).drop 0).take 8=f.list.map u32V:=by
 rw[List.drop_zero,stM,List.take_left' (by simp[R8.list])]
theorem stM_rest{f:R8}{r:List UInt8}(hr:r.length=64): ((stM f r n).drop 8).take 64=r.map byteV:=by
 rw[stM,List.drop_left' (by simp[R8.list]),List.take_left' (by simp[hr])]
theorem stM_size{f:R8}{r:List UInt8}(hr:r.length=64): (stM f r n)[72]?=some (.int .u64 (n:Int)):=by
 rw[stM,List.getElem?_append_right (by simp[R8.list]),List.getElem?_append_right (by simp[R8.list,hr])]
 simp[R8.list,hr]
theorem stM_setSize{f:R8}{r:List UInt8}(hr:r.length=64): (stM f r n).set 72 (.int .u64 (m:Int))=stM f r m:=by
 rw[stM,List.set_append_right _ _ (by simp[R8.list]),List.set_append_right _ _ (by simp[R8.list,hr])]
 simp[R8.list,hr,stM]
theorem stM_setFull{f f':R8}{r:List UInt8}: (stM f r n).take 0++f'.list.map u32V++(stM f r n).drop (0+(f'.list.map u32V).length)=stM f' r n:=by
 rw[R8.size,List.take_zero,List.nil_append,Nat.zero_add,stM,List.drop_left' (by simp[R8.list]),stM]
theorem stM_ones{f:R8}{r:List UInt8}: (stM f r n).all (·.oneCell')=true:=by
 simp[stM,List.all_append,u32V,byteV,Value.oneCell']
theorem stL_length(l:List UInt8): (stL l).length=73:=stM_length (restL_length l)
theorem stL_full(l:List UInt8): ((stL l).drop 0).take 8=(fullR l).list.map u32V:=stM_full _ _ _
theorem stL_rest(l:List UInt8): ((stL l).drop 8).take 64=(restL l).map byteV:=stM_rest (restL_length l)
theorem stL_size(l:List UInt8): (stL l)[72]?=some (.int .u64 (l.length:Int)):=stM_size (restL_length l)
theorem stL_nil: stL []=List.replicate 8 (.int .u32 0)++List.replicate 64 (.int .u8 0)++[.int .u64 0]:=by kernel_rfl
theorem stL_ones(l:List UInt8): (stL l).all (·.oneCell')=true:=stM_ones
theorem chain_append (s:R8) (l b:List UInt8):∀ k,64*k<=l.length->chain s (l++b) k=chain s l k
 | 0,_=>rfl
 | k+1,h=>by
  have h1:=chain_append s l b k (by omega)
  rw[chain,chain,h1,List.drop_append_of_le_length (by omega),List.take_append_of_le_length (by simp; omega)]
theorem chain_start(l:List UInt8)(h:l.length<64): chain H8 l (l.length / 64)=H8:=by rw[Nat.div_eq_of_lt h]; rfl
theorem restAt_grow(l b:List UInt8)(i:Nat)(hi:i<64)(hb:l.length%64+b.length<=64):
  restAt (l++b) i=if i<l.length%64 then restAt l i else if i<l.length%64+b.length then b.getD (i-l.length%64) 0 else restAt l i:=by
 have hlen:(l++b).length=l.length+b.length:=by simp
 by_cases h1:i<l.length%64
 ·rw[if_pos h1]
  have h2:(l.length+b.length+63-i) / 64=(l.length+63-i) / 64:=by omega
  have h3:¬ (l.length+63-i) / 64=0:=by omega
  have h4:64*((l.length+63-i) / 64-1)+i<l.length:=by omega
  rw[restAt,restAt,hlen,h2,if_neg h3,if_neg h3,List.getD_eq_getElem?_getD,List.getD_eq_getElem?_getD,List.getElem?_append_left h4]
 ·rw[if_neg h1]
  by_cases h2:i<l.length%64+b.length
  ·rw[if_pos h2]
   have h3:(l.length+b.length+63-i) / 64=l.length / 64+1:=by omega
   have h4:64*(l.length / 64+1-1)+i=l.length+(i-l.length%64):=by omega
   rw[restAt,hlen,h3,if_neg (by omega),h4,List.getD_eq_getElem?_getD,List.getElem?_append_right (by omega),List.getD_eq_getElem?_getD]
   congr 2
   omega
  ·rw[if_neg h2]
   have h3:(l.length+b.length+63-i) / 64=(l.length+63-i) / 64:=by omega
   by_cases h5:(l.length+63-i) / 64=0
   ·rw[restAt,restAt,hlen,h3,if_pos h5,if_pos h5]
   ·have h4:64*((l.length+63-i) / 64-1)+i<l.length:=by omega
    rw[restAt,restAt,hlen,h3,if_neg h5,if_neg h5,List.getD_eq_getElem?_getD,List.getD_eq_getElem?_getD,List.getElem?_append_left h4]
theorem restL_step(l b:List UInt8)(hb:l.length%64+b.length<=64): (restL l).take (l.length%64)++b++(restL l).drop (l.length%64+b.length)=restL (l++b):=by
 have hk:l.length%64<64:=Nat.mod_lt _ (by decide)
 apply List.ext_getElem?
 intro i
 rcases Nat.lt_or_ge i 64 with hi|hi
 ·rw[restL_get _ hi,restAt_grow l b i hi hb]
  by_cases h1:i<l.length%64
  ·rw[if_pos h1,List.append_assoc,List.getElem?_append_left (by simp[restL_length]; omega),List.getElem?_take,if_pos h1,restL_get _ hi]
  ·rw[if_neg h1]
   by_cases h2:i<l.length%64+b.length
   ·rw[if_pos h2,List.append_assoc,List.getElem?_append_right (by simp[restL_length]; omega)]
    have h3:i-((restL l).take (l.length%64)).length=i-l.length%64:=by simp[restL_length]; omega
    rw[h3,List.getElem?_append_left (by omega),List.getD_eq_getElem?_getD,List.getElem?_eq_getElem (by omega)]
    rfl
   ·rw[if_neg h2,List.getElem?_append_right (by simp[restL_length]; omega),List.getElem?_drop]
    have h3:l.length%64+b.length+(i-((restL l).take (l.length%64)++b).length)=i:=by simp[restL_length]; omega
    rw[h3,restL_get _ hi]
 ·rw[List.getElem?_eq_none (by simp[restL_length]; omega),List.getElem?_eq_none (by rw[restL_length]; exact hi)]
theorem restL_take(l:List UInt8): (restL l).take (l.length%64)=l.drop (64*(l.length / 64)):=by
 have hk:l.length%64<64:=Nat.mod_lt _ (by decide)
 apply List.ext_getElem?
 intro i
 rw[List.getElem?_take,List.getElem?_drop]
 split
 ·rename_i hi
  rw[restL_get _ (by omega),restAt]
  have h3:(l.length+63-i) / 64=l.length / 64+1:=by omega
  rw[h3,if_neg (by omega),Nat.add_sub_cancel,List.getD_eq_getElem?_getD,List.getElem?_eq_getElem (by omega)]
  rfl
 ·rw[List.getElem?_eq_none (by omega)]
theorem restL_block(l:List UInt8)(h:l.length%64=0)(h0:0<l.length): restL l=(l.drop (64*(l.length / 64-1))).take 64:=by
 apply List.ext_getElem?
 intro i
 rw[List.getElem?_take,List.getElem?_drop]
 split
 ·rename_i hi
  rw[restL_get _ hi,restAt]
  have h3:(l.length+63-i) / 64=l.length / 64:=by omega
  rw[h3,if_neg (by omega),List.getD_eq_getElem?_getD,List.getElem?_eq_getElem (by omega)]
  rfl
 ·rw[List.getElem?_eq_none (by rw[restL_length]; omega)]
theorem fullR_same(l b:List UInt8)(h:(l.length+b.length) / 64=l.length / 64): fullR (l++b)=fullR l:=by
 unfold fullR
 rw[List.length_append,h,chain_append _ _ _ _ (by omega)]
 by_cases h1:l.length<64
 ·rw[if_pos h1,if_pos (by omega)]
 ·rw[if_neg h1,if_neg (by omega)]
theorem fullR_step(l b:List UInt8)(h:l.length%64+b.length=64): fullR (l++b)=compress (chain H8 l (l.length / 64)) (restL (l++b)):=by
 have hk:l.length%64<64:=Nat.mod_lt _ (by decide)
 have h1:(l++b).length / 64=l.length / 64+1:=by simp; omega
 rw[fullR,if_neg (by simp; omega),h1,chain,chain_append _ _ _ _ (by omega),restL_block _ (by simp; omega) (by simp; omega),h1,Nat.add_sub_cancel]
theorem st_copy(L r:List UInt8): (stL L).take (8+L.length%64)++(r.take (64-L.length%64)).map byteV++(stL L).drop (8+L.length%64+min r.length (64-L.length%64))=stM (fullR L) (restL (L++r.take (64-L.length%64))) L.length:=by
 have hk:L.length%64<64:=Nat.mod_lt _ (by decide)
 have hb:(r.take (64-L.length%64)).length=min r.length (64-L.length%64):=by rw[List.length_take,Nat.min_comm]
 have h8:((fullR L).list.map u32V).length=8:=R8.size _
 rw[<- restL_step L (r.take (64-L.length%64)) (by rw[hb]; omega),hb]
 have h1:(stL L).take (8+L.length%64)=(fullR L).list.map u32V++((restL L).take (L.length%64)).map byteV:=by
  rw[stL,stM,List.take_append,h8,Nat.add_sub_cancel_left,List.take_of_length_le (by rw[h8]; omega),List.take_append_of_le_length (by simp[restL_length]; omega),List.map_take]
 have h2:(stL L).drop (8+L.length%64+min r.length (64-L.length%64))=((restL L).drop (L.length%64+min r.length (64-L.length%64))).map byteV++[.int .u64 (L.length:Int)]:=by
  rw[stL,stM,List.drop_append,h8,List.drop_eq_nil_of_le (by rw[h8]; omega),List.nil_append,show 8+L.length%64+min r.length (64-L.length%64)-8=L.length%64+min r.length (64-L.length%64) from by omega,
   List.drop_append_of_le_length (by simp[restL_length]; omega),List.map_drop]
 rw[h1,h2,stM]
 simp
theorem padded_tail(l e:List UInt8): l++e=l.take (64*(l.length / 64))++(l.drop (64*(l.length / 64))++e):=by
 rw[<- List.append_assoc,List.take_append_drop]
theorem chain_tail (s:R8) (a t:List UInt8) (k:Nat) (ha:a.length=64*k):∀ i,chain (chain s a k) t i=chain s (a++t) (k+i)
 | 0=>by rw[Nat.add_zero,chain_append _ _ _ _ (by omega)]; rfl
 | i+1=>by
  have h1:(a++t).drop (64*(k+i))=t.drop (64*i):=by
   rw[List.drop_append,show a.drop (64*(k+i))=[] from List.drop_eq_nil_of_le (by omega),List.nil_append,show 64*(k+i)-a.length=64*i from by omega]
  rw[chain,chain_tail s a t k ha i,<- Nat.add_assoc,chain,h1]
theorem tableB_more{bs c:List UInt8}(h:bs.length+c.length<=m): (tableB bs m).take bs.length++c.map byteV++(tableB bs m).drop (bs.length+c.length)=tableB (bs++c) m:=by
 have h1:m-bs.length=c.length+(m-(bs++c).length):=by rw[List.length_append]; omega
 rw[tableB,List.map_append,List.take_left' (by simp),List.drop_append,List.drop_eq_nil_of_le (by simp),List.nil_append,List.length_map,Nat.add_sub_cancel_left,h1,List.map_replicate,List.drop_replicate,Nat.add_sub_cancel_left,tableB,List.map_append,List.map_append,List.map_replicate]
theorem flatBe_take:∀ (xs:List UInt32) (i:Nat),i<xs.length->(xs.flatMap fun x=>be 4 x.toNat).take (4*(i+1))=(xs.flatMap fun x=>be 4 x.toNat).take (4*i)++be 4 (xs.getD i 0).toNat
 | [],i,h=>by simp at h
 | x::xs,0,_=>by
  rw[List.flatMap_cons,List.take_left' (by rw[be_length]),Nat.mul_zero,List.take_zero]; rfl
 | x::xs,i+1,h=>by
  have hb:(be 4 x.toNat).length=4:=be_length _ _
  have h1:∀ k,4<=k->(be 4 x.toNat++xs.flatMap fun x=>be 4 x.toNat).take k=be 4 x.toNat++(xs.flatMap fun x=>be 4 x.toNat).take (k-4):=fun k hk=>by
   rw[List.take_append,hb,show(be 4 x.toNat).take k=be 4 x.toNat from List.take_of_length_le (by omega)]
  rw[List.flatMap_cons,h1 _ (by omega),h1 _ (by omega),show 4*(i+1+1)-4=4*(i+1) from by omega,show 4*(i+1)-4=4*i from by omega,
   flatBe_take xs i (by simpa using h),List.append_assoc]
  rfl
theorem sha_copy(l:List UInt8)(h:i<8): (tableB ((sha l).take (4*i)) 32).take (0+4*i)++((be 4 ((shaR l).list.getD i 0).toNat).take (32-4*i)).map byteV++(tableB ((sha l).take (4*i)) 32).drop (0+4*i+min (be 4 ((shaR l).list.getD i 0).toNat).length (32-4*i))=tableB ((sha l).take (4*(i+1))) 32:=by
 have hb:(be 4 ((shaR l).list.getD i 0).toNat).length=4:=be_length _ _
 have hl:((sha l).take (4*i)).length=4*i:=by rw[List.length_take,sha_length]; omega
 have h1:(sha l).take (4*(i+1))=(sha l).take (4*i)++be 4 ((shaR l).list.getD i 0).toNat:=flatBe_take (shaR l).list i h
 have:=tableB_more (bs:=(sha l).take (4*i)) (c:=be 4 ((shaR l).list.getD i 0).toNat) (m:=32) (by rw[hl,hb]; omega)
 rw[h1,<- this,hl,hb,Nat.zero_add,show(be 4 ((shaR l).list.getD i 0).toNat).take (32-4*i)=be 4 ((shaR l).list.getD i 0).toNat from List.take_of_length_le (by omega),Nat.min_eq_left (by omega)]
def endL (n:Nat):List UInt8:=128::(List.replicate ((119-n%64)%64) 0++be 8 (8*n))
theorem endL_length(n:Nat): (endL n).length=1+(119-n%64)%64+8:=by simp[endL,be_length]; omega
def tailL (l:List UInt8):List UInt8:=l.drop (64*(l.length / 64))++endL l.length
theorem tailL_length(l:List UInt8): (tailL l).length=l.length%64+(1+(119-l.length%64)%64+8):=by
 rw[tailL,List.length_append,List.length_drop,endL_length]; omega
theorem tailL_mod(l:List UInt8): (tailL l).length=64*((tailL l).length / 64):=by
 rw[tailL_length]; omega
theorem tailL_sha(l:List UInt8): chain (chain H8 l (l.length / 64)) (tailL l) ((tailL l).length / 64)=shaR l:=by
 have ha:(l.take (64*(l.length / 64))).length=64*(l.length / 64):=by rw[List.length_take]; omega
 have h1:chain H8 l (l.length / 64)=chain H8 (l.take (64*(l.length / 64))) (l.length / 64):=by
  have:=chain_append H8 (l.take (64*(l.length / 64))) (l.drop (64*(l.length / 64))) (l.length / 64) (by omega)
  rwa [List.take_append_drop] at this
 have h2:padded l=l.take (64*(l.length / 64))++tailL l:=padded_tail l (endL l.length)
 have h3:(padded l).length / 64=l.length / 64+(tailL l).length / 64:=by
  rw[h2,List.length_append,ha]; omega
 rw[h1,chain_tail _ _ _ _ ha,<- h2,<- h3]; rfl
theorem tailL_block(l:List UInt8)(h:i<(tailL l).length / 64): (((tailL l).map byteV++ys).drop (64*i)).take 64=(((tailL l).drop (64*i)).take 64).map byteV:=by
 rw[List.drop_append_of_le_length (by simp; omega),List.take_append_of_le_length (by simp; omega),List.map_take,List.map_drop]
theorem zero262: ZeroIs Tryz.prog 262 (List.replicate 8 (.int .u32 0)++List.replicate 64 (.int .u8 0)++[.int .u64 0]):=by unfold ZeroIs; kernel_rfl
theorem size262: SizeIs Tryz.prog 262 73:=by unfold SizeIs; kernel_rfl
theorem field262_0: FieldIs Tryz.prog 262 0 0 8:=by unfold FieldIs; kernel_rfl
theorem field262_1: FieldIs Tryz.prog 262 1 8 64:=by unfold FieldIs; kernel_rfl
theorem field262_2: FieldIs Tryz.prog 262 2 72 1:=by unfold FieldIs; kernel_rfl
def half (s t:R8) (i:Nat):List Value:=((s.add t).list.take i++s.list.drop i).map u32V
theorem half_length{s t:R8}(h:i<=8): (half s t i).length=8:=by
 have h1:s.list.length=8:=rfl
 have h2:(s.add t).list.length=8:=rfl
 simp[half,h1,h2]; omega
theorem half_get{s t:R8}(h:i<8): (half s t i)[i]?=some (u32V (s.list.getD i 0)):=by
 rcases i with _|_|_|_|_|_|_|_|i
 all_goals first|rfl|omega
theorem half_set{s t:R8}(h:i<8): (half s t i).set i (u32V (s.list.getD i 0+t.list.getD i 0))=half s t (i+1):=by
 rcases i with _|_|_|_|_|_|_|_|i
 all_goals first|rfl|omega
set_option maxHeartbeats 400000 in
theorem Compress_fn(h:R8)(l:List UInt8)(hl:l.length=64): FnM Tryz.prog 177 tabs [.v (aggV (h.list.map u32V)),.v (aggV (l.map byteV))] (.v (aggV ((compress h l).list.map u32V))):=by
 refine FnM.of Tryz.func177 rfl (by kernel_rfl) Tryz.ntmps177 (by simp) (by decide) (fun w=>[(0,.v (aggV (h.list.map u32V))),(1,.v (aggV (l.map byteV))),(1900001,tab 1 (H8.list.map u32V)),(1900002,tab 2 (K64.map u32V))]) (fun w=>(StartM.v rfl (StartM.v rfl (StartM.m (by simp[tabs]) (by decide) (StartM.m (by simp[tabs]) (by decide) StartM.nil))))) fun w₀ hM=>?_
 have htab:=tabs_hi hM
 refine GS (TN 0 (RN ?_));refine ZB 1000002 rfl fun b2 ⟨hBb2,hb2⟩=>?_
 refine TN 1 (RN ?_);refine ZB 1000003 rfl fun b3 ⟨hBb3,hb3⟩=>?_
 refine TN 2 (RN ?_);refine ZN 1000004 zero198 fun b4 ⟨hBb4,hb4⟩=>?_
 have hlt_b2_b4:=hb4 1000002 b2 _ _ rfl
 refine TL (RN (QS (GTD (RL 1000002 U198 rfl rfl (size198.of (R8.size _)) ?_))));refine RL 1000003 U260 rfl rfl (size260.of (by rw[List.length_map,hl])) ?_;refine RS (ok_call (schedule_fn l hl) (A1 rfl)) ?_;refine RS (ok_callM (rounds_fn h (sched l 64) (sched_length l 64)) (Sub.cons rfl (Sub.cons rfl KN)) tabs_v (Args.cons rfl LA (Args.cons rfl LA Args.nil))) ?_;refine RVN 1 rfl ?_;refine A.block ?_;refine A.loop (ι:=Nat) (fun i=>i<=8) (fun i=>[(2,.v (.pointer (some ⟨b2,0,none⟩))),(4,.v (.pointer (some ⟨b4,0,none⟩))),(10,.v (aggV ((rounds h K64 (sched l 64) 64).list.map u32V))),(11,.v (.int .i64 ((i:Nat):Int))),(1000002,blk b2 198 (half h (rounds h K64 (sched l 64) 64) i)),(1000004,blk b4 198 (List.replicate 8 (.int .u32 0))),(1900001,tab 1 (H8.list.map u32V)),(1900002,tab 2 (K64.map u32V))]) (fun i=>8-i) 0 ?_ ?_ ?_
 ·exact Nat.zero_le _
 ·exact(KC 2 rfl (KC 4 rfl (KC 10 rfl (KC 11 rfl (KE 1000002 rfl (rfl) (KC 1000004 rfl (KC 1900001 rfl (KC 1900002 rfl KN))))))))
 intro i hi
 refine GV rfl (QS ?_);refine A.cond rfl (fun hc12=>?_) (fun hc12=>?_)
 ·have hlt:i<8:=by simp at hc12; omega
  refine QK (QSB (GT (RM rfl ?_)));refine RS (ok_indexV1 i U198 U53 rfl info53 rfl rfl rfl hlt (map_get32 (by show i<8; omega))) ?_;refine RVN 2 rfl ?_;refine GE (TF 6 (RM rfl ?_));refine RS (ok_index0 _ U198 info53 rfl rfl (rfl) (by omega)) ?_;refine RS (ok_loadV (s:=1000002) (by decide) U53 rfl rfl rfl (half_get hlt)) ?_;refine RM rfl ?_;refine RS (ok_add32 rfl rfl) ?_;refine RS (ok_index0 _ U198 info53 rfl rfl (rfl) (by omega)) ?_;refine RN ?_;refine⟨_,eff_storeS (n:=23) (s:=1000002) info53 rfl rfl rfl hBb2 rfl (by rw[half_length (by omega)]; omega) (LB 1000004 rfl (LQ 1900001 rfl (LQ 1900002 rfl (LW [2,4,10,11] rfl)))),?_⟩
  refine TL (RN (End.normal_block (EN (GTE (RB rfl rfl rfl ?_)))));refine RZ (.int .i64 ((i+1:Nat):Int)) (by rw[wrap_i64 (by omega) (by omega)]; first|rfl|(congr 1; omega)) ?_;refine RVN 1 rfl ?_;refine End.normal_then ?_;refine End.again (i+1) ?_ ?_ ?_
  ·show _<=_; omega
  ·show _-_<_-_; omega
  ·exact(KC 2 rfl (KC 4 rfl (KC 10 rfl (KC 11 rfl (KE 1000002 rfl (by rw[half_set hlt]) (KC 1000004 rfl (KC 1900001 rfl (KC 1900002 rfl KN))))))))
 ·obtain rfl:i=8:=by simp at hc12; omega
  refine A.exit (End.exit_then (End.exit_then (End.exit_here (EN (GS (TF 1 (RL 1000002 U198 rfl rfl (size198.of (half_length (by omega))) ?_)))))));refine RZ (aggV ((compress h l).list.map u32V)) (rfl) ?_;refine RN ?_;refine⟨_,eff_storeA (n:=23) (s:=1000004) (size198.of (R8.size _)) rfl rfl (all_u32 _) hBb4 rfl ((R8.size _).symm) (LV 4 rfl (LB 1000002 rfl (LQ 1900001 rfl (LQ 1900002 rfl LN)))),?_⟩
  refine TL (RN (A.ret ?_));exact End.cell1 (s:=1000004) rfl U198 rfl (size198.of (R8.size _)) rfl rfl (Le.refl _)
theorem New_fn: Fn Tryz.prog 161 [] (.v (stV [])):=by
 refine FV Tryz.func161 rfl Tryz.ntmps161 rfl fun w₀=>?_
 refine GS (TN 0 (RN ?_));refine ZN 1000000 zero262 fun b0 ⟨hBb0,hb0⟩=>?_
 refine TL (RN (GS (TF 1 (RS (ok_lit [] (List.replicate 8 (.int .u32 0)++List.replicate 64 (.int .u8 0)++[.int .u64 0]) (fun _ _=>rfl) (by kernel_rfl)) ?_))));refine RN ?_;refine⟨_,eff_storeA (n:=2) (s:=1000000) (size262.of (by decide)) rfl rfl (by decide) hBb0 rfl (rfl) (LV 0 rfl LN),?_⟩
 refine TL (RN (A.ret ?_));exact End.cell1 (s:=1000000) rfl U262 rfl (size262.of (by decide)) rfl rfl (Le.eq (by rw[stV,stL_nil]))
theorem filled_fn(f:R8)(r:List UInt8)(m:Nat)(hr:r.length=64)(hm:m<=1000000): Fn Tryz.prog 176 [.v (aggV (stM f r m))] (.v (.int .i64 ((m%64:Nat):Int))):=by
 refine FV Tryz.func176 rfl Tryz.ntmps176 rfl fun w₀=>?_
 refine GS (TN 0 (RN ?_));refine ZB 1000001 rfl fun b1 ⟨hBb1,hb1⟩=>?_
 refine TL (RVN 1 rfl ?_);refine GT (Rf field262_2 ?_);refine RS (ok_loadV (s:=1000001) (by decide) U33 rfl rfl rfl (stM_size hr)) ?_;refine RS (ok_rem rfl rfl (by decide)) ?_;refine RZ (.int .u64 ((m%64:Nat):Int)) (by rw[tmod_lit _ (by decide)]; rfl) ?_;refine RS (ok_conv U33 U3 rfl) ?_;refine RZ (.int .i64 ((m%64:Nat):Int)) (by rw[wrap_i64 (by omega) (by omega)]) ?_;refine RVN 1 rfl ?_;refine A.ret ?_;exact ER rfl rfl
theorem compressed_fn(l:List UInt8)(hl:l.length<=1000000): FnM Tryz.prog 175 tabs [.v (stV l)] (.v (aggV ((chain H8 l (l.length / 64)).list.map u32V))):=by
 refine FnM.of Tryz.func175 rfl (by kernel_rfl) Tryz.ntmps175 (by simp) (by decide) (fun w=>[(0,.v (stV l)),(1900001,tab 1 (H8.list.map u32V)),(1900002,tab 2 (K64.map u32V))]) (fun w=>(StartM.v rfl (StartM.m (by simp[tabs]) (by decide) (StartM.m (by simp[tabs]) (by decide) StartM.nil)))) fun w₀ hM=>?_
 have htab:=tabs_hi hM
 refine GS (TN 0 (RN ?_));refine ZB 1000001 rfl fun b1 ⟨hBb1,hb1⟩=>?_
 refine TN 1 (RN ?_);refine ZN 1000002 zero198 fun b2 ⟨hBb2,hb2⟩=>?_
 refine TL (RN (QS (GT (Rf field262_2 ?_))));refine RS (ok_loadV (s:=1000001) (by decide) U33 rfl rfl rfl (stL_size l)) ?_;refine RVN 1 rfl ?_;refine A.cond rfl (fun hc5=>?_) (fun hc5=>?_)
 ·have hs:l.length<64:=by simp at hc5; omega
  refine GS (TF 1 (RS (ok_loadT (s:=1900001) (by decide) U198 rfl (size198.of (R8.size _)) rfl rfl) ?_));refine RZ (aggV ((chain H8 l (l.length / 64)).list.map u32V)) (by rw[chain_start l hs]) ?_;refine RN ?_;refine⟨_,eff_storeA (n:=9) (s:=1000002) (size198.of (R8.size _)) rfl rfl (all_u32 _) hBb2 rfl ((R8.size _).symm) (LV 2 rfl (LT 1000001 rfl (LQ 1900001 rfl (LQ 1900002 rfl LN)))),?_⟩
  refine TL (RN (A.ret (End.ret_then ?_)));exact End.cell1 (s:=1000002) rfl U198 rfl (size198.of (R8.size _)) rfl rfl (Le.refl _)
 ·have hs:¬ l.length<64:=by simp at hc5; omega
  refine QK (GS (TF 2 (Rf field262_0 ?_)));refine RS (ok_loadP (s:=1000001) (by decide) U198 rfl size198 rfl rfl (by rw[stL_length]; decide) (stL_full l)) ?_;refine RZ (aggV ((chain H8 l (l.length / 64)).list.map u32V)) (by rw[fullR,if_neg hs]) ?_;refine RN ?_;refine⟨_,eff_storeA (n:=9) (s:=1000002) (size198.of (R8.size _)) rfl rfl (all_u32 _) hBb2 rfl ((R8.size _).symm) (LV 2 rfl (LT 1000001 rfl (LQ 1900001 rfl (LQ 1900002 rfl LN)))),?_⟩
  refine TL (RN (A.ret ?_));exact End.cell1 (s:=1000002) rfl U198 rfl (size198.of (R8.size _)) rfl rfl (Le.refl _)
theorem ending_fn(l:List UInt8)(hl:l.length<=1000000): Fn Tryz.prog 178 [.v (stV l)] (byt (endL l.length)):=by
 refine FV Tryz.func178 rfl Tryz.ntmps178 rfl fun w₀=>?_
 refine GS (TN 0 (RN ?_));refine ZB 1000001 rfl fun b1 ⟨hBb1,hb1⟩=>?_
 refine TL (RVN 1 rfl ?_);refine GT (RL 1000001 U262 rfl rfl (size262.of (stL_length l)) ?_);refine RS (ok_call (filled_fn (fullR l) (restL l) l.length (restL_length l) hl) (A1 rfl)) ?_;refine RB rfl rfl rfl ?_;refine RZ (.int .i64 ((119-l.length%64:Nat):Int)) (by rw[wrap_i64 (by omega) (by omega)]; congr 1; omega) ?_;refine RS (ok_rem rfl rfl (by decide)) ?_;refine RZ (.int .i64 (((119-l.length%64)%64:Nat):Int)) (by rw[tmod_lit _ (by decide)]; rfl) ?_;refine RVN 1 rfl ?_;refine GTD (RS (ok_build [byteD 128] U23 info5 rfl (by decide) (by decide) rfl ⟨rfl,rfl,trivial⟩ (fun d hd w x h=>by simp only[List.mem_cons,List.not_mem_nil,or_false] at hd; rcases hd with rfl; exact v_one rfl h)) ?_);refine RM rfl ?_;refine RS (ok_make ((119-l.length%64)%64) U23 info5 (by decide) rfl rfl rfl rfl rfl (by omega)) ?_;refine Rf field262_2 ?_;refine RS (ok_loadV (s:=1000001) (by decide) U33 rfl rfl rfl (stL_size l)) ?_;refine RB rfl rfl rfl ?_;refine RZ (.int .u64 ((8*l.length:Nat):Int)) (by rw[wrap_u64 (by omega) (by omega)]; congr 1) ?_;refine RS (ok_call (Put64_fn ((8*l.length:Nat):Int) (by omega) (by omega)) (A1 rfl)) ?_;refine RS (ok_build [list [byteD 128] 1,fresh w₀.heap.size 5 (List.replicate ((119-l.length%64)%64) (.int .u8 0)) ((119-l.length%64)%64),bytes (be 8 (8*l.length)) 8] U259 info23 rfl (by decide) (by decide) rfl ⟨rfl,rfl,rfl,rfl,rfl,rfl,trivial⟩ (fun d hd w x h=>by simp only[List.mem_cons,List.not_mem_nil,or_false] at hd; rcases hd with rfl|rfl|rfl<;>first|exact list_one h|exact freshS_one h|exact bytes_one h)) ?_;refine RS (ok_call ((Join_fn [[128],List.replicate ((119-l.length%64)%64) 0,be 8 (8*l.length)] (by simp) (by simp[be_length]; omega)).le (d':=byt (endL l.length)) ((le_byt _ _).trans (Le.eq (by simp[endL])))) (Args.cons rfl (list_lst3 (le_lst _ _) (fresh_zeros (by simp only[maxLen]; omega)) (le_byt _ _)) Args.nil)) ?_;refine RVN 1 rfl ?_;refine A.ret ?_;exact ER rfl rfl
section
variable {κ:Cx}
end
theorem block_len(L r:List UInt8)(h:(L.length+min r.length (64-L.length%64))%64=0)(h0:0<r.length): L.length%64+(r.take (64-L.length%64)).length=64:=by
 have hk:L.length%64<64:=Nat.mod_lt _ (by decide)
 rw[List.length_take]; omega
theorem part_len(L r:List UInt8)(h:¬ (L.length+min r.length (64-L.length%64))%64=0): (L.length+(r.take (64-L.length%64)).length) / 64=L.length / 64:=by
 have hk:L.length%64<64:=Nat.mod_lt _ (by decide)
 rw[List.length_take]; omega
set_option maxHeartbeats 1000000 in
theorem Write_fn(l b:List UInt8)(hl:l.length+b.length<=1000000): FnM Tryz.prog 162 tabs [.v (stV l),byt b] (.v (stV (l++b))):=by
 refine FnM.of Tryz.func162 rfl (by kernel_rfl) Tryz.ntmps162 (by simp) (by decide) (fun w=>[(0,.v (stV l)),(1,old w.heap.size (byt b)),(1900001,tab 1 (H8.list.map u32V)),(1900002,tab 2 (K64.map u32V))]) (fun w=>(StartM.v rfl (StartM.old rfl (StartM.m (by simp[tabs]) (by decide) (StartM.m (by simp[tabs]) (by decide) StartM.nil))))) fun w₀ hM=>?_
 have htab:=tabs_hi hM
 refine GS (TN 0 (RN ?_));refine ZB 1000002 rfl fun b2 ⟨hBb2,hb2⟩=>?_
 refine TN 1 (RN ?_);refine ZN 1000004 zero262 fun b4 ⟨hBb4,hb4⟩=>?_
 have hlt_b2_b4:=hb4 1000002 b2 _ _ rfl
 refine TL (RN (QSB ?_));refine A.loop (ι:=Nat) (fun c=>c<=b.length) (fun c=>[(1,old w₀.heap.size (byt (b.drop c))),(2,.v (.pointer (some ⟨b2,0,none⟩))),(4,.v (.pointer (some ⟨b4,0,none⟩))),(1000002,blk b2 262 (stL (l++b.take c))),(1000004,blk b4 262 (List.replicate 8 (.int .u32 0)++List.replicate 64 (.int .u8 0)++[.int .u64 0])),(1900001,tab 1 (H8.list.map u32V)),(1900002,tab 2 (K64.map u32V))]) (fun c=>b.length-c) 0 ?_ ?_ ?_
 ·exact Nat.zero_le _
 ·exact(KE 1 rfl (by rw[List.drop_zero]) (KC 2 rfl (KC 4 rfl (KE 1000002 rfl (by rw[List.take_zero,List.append_nil]) (KC 1000004 rfl (KC 1900001 rfl (KC 1900002 rfl KN)))))))
 intro c hc
 obtain⟨L,hL⟩:∃ L,l++b.take c=L:=⟨_,rfl⟩
 obtain⟨r,hr⟩:∃ r,b.drop c=r:=⟨_,rfl⟩
 have hLl:L.length=l.length+c:=by rw[<- hL]; simp; omega
 have hrl':r.length=b.length-c:=by rw[<- hr]; simp
 rw[hL,hr]
 refine QS (GT (RM rfl ?_));refine RS (ok_lenB U23 rfl (Le.old _ _)) ?_;refine RVN 1 rfl ?_;refine A.cond rfl (fun hc9=>?_) (fun hc9=>?_)
 ·have hrl:0<r.length:=by simp at hc9; omega
  refine QK (A.block (GS (TN 2 (RL 1000002 U262 rfl rfl (size262.of (stL_length _)) ?_))));refine RS (ok_callM (compressed_fn L (by omega)) (Sub.cons rfl (Sub.cons rfl KN)) tabs_v (Args.cons rfl LA Args.nil)) ?_;refine RN ?_;refine ZN 1000005 zero198 fun b5 ⟨hBb5,hb5⟩=>?_
  refine TF 3 (RN ?_);refine⟨_,eff_storeA (n:=36) (s:=1000005) (size198.of (R8.size _)) rfl rfl (all_u32 _) hBb5 rfl ((R8.size _).symm) (LO 1 rfl (LT 1000002 rfl (LT 1000004 rfl (LQ 1900001 rfl (LQ 1900002 rfl (LW [2,4,5] rfl)))))),?_⟩
  refine TL (RN (GS (TF 5 (Rf field262_1 ?_))));refine RL 1000002 U262 rfl rfl (size262.of (stL_length _)) ?_;refine RS (ok_call (filled_fn (fullR L) (restL L) L.length (restL_length L) (by omega)) (A1 rfl)) ?_;refine RS (ok_sliceX (l:=L.length%64) (h:=64) (m:=64) U260 info5 rfl (.inl ⟨_,_,rfl,rfl⟩) (.inr ⟨rfl,rfl,rfl⟩) (.inr ⟨rfl,rfl⟩) (by omega) (by omega) (by omega) (.inl (by omega))) ?_;refine RVN 1 rfl ?_;refine⟨_,eff_copyS (n:=36) (s:=1000002) (l:=r) U23 info5 rfl rfl (Le.old _ _) hBb2 rfl (by rw[stL_length]; omega) (by decide) (LO 1 rfl (LB 1000004 rfl (LT 1000005 rfl (LQ 1900001 rfl (LQ 1900002 rfl (LW [2,4,5] rfl)))))),?_⟩
  refine TL (RVN 1 rfl ?_);refine A.sub (KC 1 rfl (KC 2 rfl (KC 4 rfl (KC 5 rfl (KC 6 rfl (KE 1000002 rfl (show blk b2 262 _=blk b2 262 (stM (fullR L) (restL (L++r.take (64-L.length%64))) L.length) from congrArg _ (st_copy L r)) (KC 1000004 rfl (KC 1000005 rfl (KC 1900001 rfl (KC 1900002 rfl KN)))))))))) ?_;refine GT (RV 2 rfl ?_);refine RS ((ok_sliceO (l:=min r.length (64-L.length%64)) (h:=r.length) (f:=byt r) (ds:=r.map byteD) U23 info5 rfl (Le.refl _) (.inl ⟨_,_,rfl,rfl⟩) (.inr ⟨rfl,by simp⟩) (by omega) (by simp)).le (d':=old w₀.heap.size (byt (r.drop (min r.length (64-L.length%64))))) (Le.eq (by rw[byt,List.map_drop,List.take_of_length_le (by simp)]))) ?_;refine RVN 1 rfl ?_;refine GS (TF 6 (Rf field262_2 ?_));refine RS (ok_loadV (s:=1000002) (by decide) U33 rfl rfl rfl (stM_size (restL_length _))) ?_;refine RM rfl ?_;refine RS (ok_conv U3 U33 rfl) ?_;refine RZ (.int .u64 ((min r.length (64-L.length%64):Nat):Int)) (by rw[wrapN_u64 (by omega)]) ?_;refine RB rfl rfl rfl ?_;refine RZ (.int .u64 ((L.length+min r.length (64-L.length%64):Nat):Int)) (by rw[wrap_u64 (by omega) (by omega)]; congr 1) ?_;refine Rf field262_2 ?_;refine RN ?_;refine⟨_,eff_storeS (n:=36) (s:=1000002) info33 rfl rfl rfl hBb2 rfl (by rw[stM_length (restL_length _)]; decide) (LO 1 rfl (LB 1000004 rfl (LT 1000005 rfl (LQ 1900001 rfl (LQ 1900002 rfl (LW [2,4,5] rfl)))))),?_⟩
  refine TL (RN (A.sub (KC 1 rfl (KC 2 rfl (KC 4 rfl (KC 5 rfl (KE 1000002 rfl (show blk b2 262 _=blk b2 262 (stM (fullR L) (restL (L++r.take (64-L.length%64))) (L.length+min r.length (64-L.length%64))) from congrArg _ (stM_setSize (restL_length _))) (KC 1000004 rfl (KC 1000005 rfl (KC 1900001 rfl (KC 1900002 rfl KN))))))))) ?_));refine GT (RL 1000002 U262 rfl rfl (size262.of (stM_length (restL_length _))) ?_);refine RS (ok_call (filled_fn (fullR L) (restL (L++r.take (64-L.length%64))) (L.length+min r.length (64-L.length%64)) (restL_length _) (by omega)) (A1 rfl)) ?_;refine RVN 1 rfl ?_;refine A.cond rfl (fun hc29=>?_) (fun hc29=>?_)
  ·refine GE (TF 5 (RL 1000005 U198 rfl rfl (size198.of (R8.size _)) ?_));refine Rf field262_1 ?_;refine RS (ok_loadP (s:=1000002) (by decide) U260 rfl size260 rfl rfl (by rw[stM_length (restL_length _)]; decide) (stM_rest (restL_length _))) ?_;refine RS (ok_callM (Compress_fn (chain H8 L (L.length / 64)) (restL (L++r.take (64-L.length%64))) (restL_length _)) (Sub.cons rfl (Sub.cons rfl KN)) tabs_v (Args.cons rfl LA (Args.cons rfl LA Args.nil))) ?_;refine Rf field262_0 ?_;refine RN ?_;refine⟨_,eff_storeP (n:=36) (s:=1000002) (size198.of (R8.size _)) rfl rfl (all_u32 _) hBb2 rfl (by rw[stM_length (restL_length _),R8.size]; decide) (LO 1 rfl (LB 1000004 rfl (LT 1000005 rfl (LQ 1900001 rfl (LQ 1900002 rfl (LW [2,4] rfl)))))),?_⟩
   refine TL (RN (End.sub (KC 1 rfl (KC 2 rfl (KC 4 rfl (KE 1000002 rfl (show blk b2 262 _=blk b2 262 (stL (L++r.take (64-L.length%64))) from congrArg _ (by rw[stM_setFull,stL,fullR_step L _ (block_len L r (by have:=beq_iff_eq.1 hc29; omega) (by omega)),List.length_append,List.length_take,Nat.min_comm (64-L.length%64)])) (KC 1000004 rfl (KC 1000005 rfl (KC 1900001 rfl (KC 1900002 rfl KN)))))))) ?_));refine End.normal_block (End.normal_then ?_);refine End.again (c+min r.length (64-L.length%64)) ?_ ?_ ?_
   ·show _<=_; omega
   ·show _-_<_-_; omega
   ·exact(KE 1 rfl (by rw[<- List.drop_drop,hr]) (KC 2 rfl (KC 4 rfl (KE 1000002 rfl (by rw[List.take_add,hr,<- List.append_assoc,hL,Nat.min_comm r.length,<- List.take_eq_take_min]) (KC 1000004 rfl (KC 1900001 rfl (KC 1900002 rfl KN)))))))
  ·have hst:stM (fullR L) (restL (L++r.take (64-L.length%64))) (L.length+min r.length (64-L.length%64))=stL (L++r.take (64-L.length%64)):=by
    rw[stL,fullR_same L _ (part_len L r (by have:=beq_eq_false_iff_ne.1 hc29; omega)),List.length_append,List.length_take,Nat.min_comm (64-L.length%64)]
   rw[hst]
   refine A.skip (End.normal_block (End.normal_then ?_));refine End.again (c+min r.length (64-L.length%64)) ?_ ?_ ?_
   ·show _<=_; omega
   ·show _-_<_-_; omega
   ·exact(KE 1 rfl (by rw[<- List.drop_drop,hr]) (KC 2 rfl (KC 4 rfl (KE 1000002 rfl (by rw[List.take_add,hr,<- List.append_assoc,hL,Nat.min_comm r.length,<- List.take_eq_take_min]) (KC 1000004 rfl (KC 1900001 rfl (KC 1900002 rfl KN)))))))
 ·have hr0:r=[]:=by simpa using hc9
  refine A.exit (End.exit_then (End.exit_then (End.exit_here (EN (GS (TF 1 (RL 1000002 U262 rfl rfl (size262.of (stL_length _)) ?_)))))));refine RN ?_;refine⟨_,eff_storeA (n:=36) (s:=1000004) (size262.of (stL_length _)) rfl rfl (stL_ones _) hBb4 rfl ((stL_length _).symm) (LV 4 rfl (LB 1000002 rfl (LQ 1900001 rfl (LQ 1900002 rfl LN)))),?_⟩
  refine TL (RN (A.ret ?_));exact End.cell1 (s:=1000004) rfl U262 rfl (size262.of (stL_length _)) rfl rfl (Le.v (by rw[<- hL,stV]; simp[List.drop_eq_nil_iff.1 (hr.trans hr0),List.take_of_length_le]))
theorem Chunk_fnB(g m c:Nat): FnB Tryz.prog 179 [.v (.slice (some ⟨g,0,none⟩) m c),.v (.int .i64 64)] (fun B=>closD B 192 23 3 (.slice (some ⟨g,0,none⟩) m c) (.int .i64 64)):=by
 refine FnB.of Tryz.func179 rfl (by kernel_rfl) Tryz.ntmps179 (by simp) (fun w=>[(0,.v (.slice (some ⟨g,0,none⟩) m c)),(1,.v (.int .i64 64))]) (fun w=>(Start.v rfl (Start.v rfl Start.nil))) fun w₀=>?_
 refine GS (TN 0 (RN ?_));refine⟨_,_,eff_box1 (n:=9) (d:=2) (k:=1000002) rfl rfl (by decide),fun b2 hb2=>?_⟩
 have hBb2:=hb2.1
 refine TN 1 (RN ?_);refine⟨_,_,eff_box1 (n:=9) (d:=3) (k:=1000003) rfl rfl (by decide),fun b3 hb3=>?_⟩
 have hBb3:=hb3.1
 have hlt_b2_b3:b2<b3:=hb3.2 1000002 _ _ _ rfl
 refine TL (RVN 1 rfl ?_);refine QS (GT (RLV 1000003 U3 rfl rfl rfl ?_));refine RB rfl rfl rfl ?_;refine RZ (.bool false) (rfl) ?_;refine RN (A.no rfl ?_);refine QK (GT (RS (ok_makeFunc2 rfl rfl) ?_));refine RVN 1 rfl ?_;refine A.ret ?_;exact End.clos rfl hBb2 hlt_b2_b3 rfl (k₁:=1000002) (k₂:=1000003) rfl rfl
theorem Chunk1_seq{N p q cap:Nat}{J:Nat->World->Prop}{arg:Nat->D}(hm:m=64*N)(hcap:m<=cap)(hmax:cap<=maxLen)(harg:∀ i,i<N->arg i = .v (.slice (some ⟨g,64*i,none⟩) 64 64))
  (hq:Seqs Tryz.prog w₀ N l arg (fun _=>[(1000091,blk p 23 [.slice (some ⟨g,0,none⟩) m cap]),(1000092,blk q 3 [.int .i64 64])]) J)(h0:J 0 w):
  Calls Tryz.prog 192 (.func (.yield l) #[] #[]::[.pointer (some ⟨p,0,none⟩),.pointer (some ⟨q,0,none⟩)]:List Value).toArray w fun e W=>(∃ v,e = .returned v)∧J N W:=by
 have hmx:maxLen=9223372036854775807:=rfl
 obtain⟨hb,hs,hV⟩:=hq.holds 0 w h0
 refine Calls.within (n:=31) (E:=[(0,.v (.func (.yield l) #[] #[])),(1,.v (.pointer (some ⟨p,0,none⟩))),(2,.v (.pointer (some ⟨q,0,none⟩))),(1000090,jD (J 0)),(1000091,blk p 23 [.slice (some ⟨g,0,none⟩) m cap]),(1000092,blk q 3 [.int .i64 64])]) Tryz.func192 rfl Tryz.ntmps192 (by simp) (by decide) hb hs ?_ ?_
 ·intro x hx
  simp only[List.mem_cons,List.not_mem_nil,or_false] at hx
  rcases hx with rfl|rfl|rfl|rfl|rfl|rfl
  ·exact .inr ⟨_,rfl,rfl⟩
  ·exact .inr ⟨_,rfl,rfl⟩
  ·exact .inr ⟨_,rfl,rfl⟩
  ·exact .inl ⟨vle rfl,jD_mk h0⟩
  ·exact .inl ⟨vle rfl,hV _ (by simp)⟩
  ·exact .inl ⟨vle rfl,hV _ (by simp)⟩
 refine GV rfl (A.block ?_);refine A.loop (ι:=Nat) (fun i=>i<=N) (fun i=>[(0,.v (.func (.yield l) #[] #[])),(1,.v (.pointer (some ⟨p,0,none⟩))),(2,.v (.pointer (some ⟨q,0,none⟩))),(4,.v (.int .i64 ((64*i:Nat):Int))),(1000090,jD (J i)),(1000091,blk p 23 [.slice (some ⟨g,0,none⟩) m cap]),(1000092,blk q 3 [.int .i64 64])]) (fun i=>N-i) 0 ?_ ?_ ?_
 ·exact Nat.zero_le _
 ·exact(Sv [0,1,2,4,1000090,1000091,1000092] rfl)
 intro i hi
 refine QS (GT (RM rfl ?_));refine RLV 1000091 U23 rfl rfl rfl ?_;refine RS (ok_lenV U23 rfl) ?_;refine RVN 1 rfl ?_;refine A.cond rfl (fun hc9=>?_) (fun hc9=>?_)
 ·have hlt:i<N:=by simp at hc9; omega
  refine QK (QSB (GTD (RLV 1000092 U3 rfl rfl rfl ?_)));refine RLV 1000091 U23 rfl rfl rfl ?_;refine RM rfl ?_;refine RS (ok_sliceS (l:=64*i) (h:=m) (m:=cap) U23 info5 rfl (.inl ⟨_,_,rfl,rfl⟩) (.inr ⟨rfl,rfl,rfl⟩) (.inr ⟨rfl,rfl⟩) (by omega) (by omega) (by omega) (.inl (by omega))) ?_;refine RS (ok_lenV U23 rfl) ?_;refine RS (ok_min rfl rfl) ?_;refine RZ (.int .i64 ((64:Nat):Int)) (by congr 1; omega) ?_;refine RVN 1 rfl ?_;refine GS (TF 10 (RM rfl ?_));refine RLV 1000091 U23 rfl rfl rfl ?_;refine RV 4 rfl ?_;refine RZ (.int .i64 ((64*i+64:Nat):Int)) (by rw[wrap_i64 (by omega) (by omega)]; first|rfl|(congr 1; omega)) ?_;refine RV 3 rfl ?_;refine RZ (.int .i64 ((64*i+64:Nat):Int)) (by rw[wrap_i64 (by omega) (by omega)]; first|rfl|(congr 1; omega)) ?_;refine RS (ok_sliceS (l:=64*i) (h:=64*i+64) (m:=64*i+64) U23 info5 rfl (.inl ⟨_,_,rfl,rfl⟩) (.inl ⟨_,_,rfl,rfl⟩) (.inl ⟨_,_,rfl,rfl⟩) (by omega) (by omega) (by omega) (.inl (by omega))) ?_;refine RZ (.slice (some ⟨g,64*i,none⟩) 64 64) (by rw[Nat.zero_add,show 64*i+64-64*i=64 from by omega]) ?_;refine RN ?_;refine⟨_,eff_yield (vJ:=1000090) hq i hlt rfl rfl rfl (Le.eq (harg i hlt).symm) (by decide) (fun p hp=>by simp only[List.mem_cons,List.not_mem_nil,or_false] at hp; rcases hp with rfl|rfl<;>exact vle rfl) (by decide) (Left.cons (t:=0) rfl (Stays.v _ _) (Left.cons (t:=1) rfl (Stays.v _ _) (Left.cons (t:=2) rfl (Stays.v _ _) (Left.cons (t:=4) rfl (Stays.v _ _) Left.nil)))),?_⟩
  refine TL (RS (ok_not rfl) ?_);refine RZ (.bool false) (rfl) ?_;refine RN (A.no rfl ?_);refine A.skip (End.normal_block (EN (GTE (RM rfl ?_))));refine RLV 1000092 U3 rfl rfl rfl ?_;refine RB rfl rfl rfl ?_;refine RZ (.int .i64 ((64*(i+1):Nat):Int)) (by rw[wrap_i64 (by omega) (by omega)]; first|rfl|(congr 1; omega)) ?_;refine RVN 1 rfl ?_;refine End.sub (Sv [0,1,2,4,1000090,1000091,1000092] rfl) ?_;refine End.normal_then ?_;refine End.again (i+1) ?_ ?_ ?_
  ·show _<=_; omega
  ·show _-_<_-_; omega
  ·exact(Sv [0,1,2,4,1000090,1000091,1000092] rfl)
 ·obtain rfl:i=N:=by simp at hc9; omega
  refine A.exit (End.exit_then (End.exit_then (End.exit_here ?_)));exact End.seq (vJ:=1000090) hq rfl rfl
set_option maxHeartbeats 1000000 in
theorem Sum_fn(l:List UInt8)(hl:l.length<=1000000): FnM Tryz.prog 163 tabs [.v (stV l)] (.v (aggV ((sha l).map byteV))):=by
 refine FnM.of Tryz.func163 rfl (by kernel_rfl) Tryz.ntmps163 (by simp) (by decide) (fun w=>[(0,.v (stV l)),(1900001,tab 1 (H8.list.map u32V)),(1900002,tab 2 (K64.map u32V))]) (fun w=>(StartM.v rfl (StartM.m (by simp[tabs]) (by decide) (StartM.m (by simp[tabs]) (by decide) StartM.nil)))) fun w₀ hM=>?_
 have htab:=tabs_hi hM
 refine GS (TN 0 (RN ?_));refine ZB 1000001 rfl fun b1 ⟨hBb1,hb1⟩=>?_
 refine TN 1 (RN ?_);refine ZN 1000002 zero32 fun b2 ⟨hBb2,hb2⟩=>?_
 refine TL (RN (GT (RL 1000001 U262 rfl rfl (size262.of (stL_length l)) ?_)));refine RS (ok_call (filled_fn (fullR l) (restL l) l.length (restL_length l) hl) (A1 rfl)) ?_;refine RVN 1 rfl ?_;refine GTD (Rf field262_1 ?_);refine RV 2 rfl ?_;refine RS (ok_sliceX (l:=0) (h:=l.length%64) (m:=l.length%64) U260 info5 rfl (.inr ⟨rfl,rfl⟩) (.inl ⟨_,_,rfl,rfl⟩) (.inl ⟨_,_,rfl,rfl⟩) (by omega) (by omega) (by omega) (.inr rfl)) ?_;refine RL 1000001 U262 rfl rfl (size262.of (stL_length l)) ?_;refine RS (ok_call (ending_fn l hl) (A1 rfl)) ?_;refine RS ((ok_appendCap (s:=1000001) (m:=l.length%64) (us:=(l.drop (64*(l.length / 64))).map byteV) (vs:=(endL l.length).map byteV) (by decide) U23 info5 (by decide) rfl rfl rfl (by rw[<- restL_take,List.map_take,<- stL_rest,List.take_take,Nat.min_eq_left (by omega)]) (by rw[stL_length]; omega) rfl (Le.eq (byt_vals _)) (by rw[List.length_map,endL_length]; omega) (by rw[List.length_map,endL_length]; omega)).le (d':=own w₀.heap.size 5 (tailL l).length ((tailL l).map byteV)) (Le.eq (by rw[tailL_length,List.length_map,endL_length,<- List.map_append]; rfl))) ?_;refine RVN 1 rfl ?_;refine A.openOwn (t:=4) (k:=1000090) rfl (by rw[tailL_length]; omega) fun g cap ys hBg hcap1 hcap2 hgl hgx=>?_
 refine GS (TN 2 (RL 1000001 U262 rfl rfl (size262.of (stL_length l)) ?_));refine RS (ok_callM (compressed_fn l hl) (Sub.cons rfl (Sub.cons rfl KN)) tabs_v (Args.cons rfl LA Args.nil)) ?_;refine RN ?_;refine ZN 1000005 zero198 fun b5 ⟨hBb5,hb5⟩=>?_
 refine TF 3 (RN ?_);refine⟨_,eff_storeA (n:=42) (s:=1000005) (size198.of (R8.size _)) rfl rfl (all_u32 _) hBb5 rfl (by first|exact(R8.size _).trans (R8.size _).symm|rfl) (LT 1000001 rfl (LT 1000002 rfl (LT 1000090 rfl (LQ 1900001 rfl (LQ 1900002 rfl (LW [2,4,5] rfl)))))),?_⟩
 refine TL (RN (QS (GT (RM rfl ?_))));refine RS (ok_callB (Chunk_fnB g (tailL l).length cap) (fun _ _=>closD_mono _ _) (A2 rfl rfl)) ?_;refine RN ?_;refine A.openClos (t:=22) (k₁:=1000091) (k₂:=1000092) rfl fun p q hBp hpq=>?_
 refine A.block ?_;refine A.range (gf:=192) (N:=(tailL l).length / 64) (vL:=1000098) (vD:=1000099) (tp:=23) (lb:=[.pointer (some ⟨p,0,none⟩),.pointer (some ⟨q,0,none⟩)]) (S:=[(2,.v (.pointer (some ⟨b2,0,none⟩))),(5,.v (.pointer (some ⟨b5,0,none⟩)))])
  (V:=fun i=>[(1000002,blk b2 32 (List.replicate 32 (.int .u8 0))),(1000005,blk b5 198 ((chain (chain H8 l (l.length / 64)) (tailL l) i).list.map u32V)),(1000090,blk g 5 ((tailL l).map byteV++ys)),(1000091,blk p 23 [.slice (some ⟨g,0,none⟩) (tailL l).length cap]),(1000092,blk q 3 [.int .i64 64]),(1900001,tab 1 (H8.list.map u32V)),(1900002,tab 2 (K64.map u32V))])
  (Eb:=fun i=>(6,.v (.slice (some ⟨g,64*i,none⟩) 64 64))::(23,.v (.slice (some ⟨g,64*i,none⟩) 64 64))::([(1000002,blk b2 32 (List.replicate 32 (.int .u8 0))),(1000005,blk b5 198 ((chain (chain H8 l (l.length / 64)) (tailL l) i).list.map u32V)),(1000090,blk g 5 ((tailL l).map byteV++ys)),(1000091,blk p 23 [.slice (some ⟨g,0,none⟩) (tailL l).length cap]),(1000092,blk q 3 [.int .i64 64]),(1900001,tab 1 (H8.list.map u32V)),(1900002,tab 2 (K64.map u32V))]++[(2,.v (.pointer (some ⟨b2,0,none⟩))),(5,.v (.pointer (some ⟨b5,0,none⟩)))]))
  (arg:=fun i=>.v (.slice (some ⟨g,64*i,none⟩) 64 64)) rfl ⟨_,Tryz.func192,by kernel_rfl,rfl⟩ (by decide) (by decide) (Sv [1000002,1000005,1000090,1000091,1000092,1900001,1900002,2,5] rfl)
  (fun x hx=>by simp only[List.mem_cons,List.not_mem_nil,or_false] at hx; rcases hx with rfl|rfl<;>exact⟨vlt rfl,.inl ⟨_,rfl⟩⟩)
  (fun i x hx=>by simp only[List.mem_cons,List.not_mem_nil,or_false] at hx; rcases hx with rfl|rfl|rfl|rfl|rfl|rfl|rfl<;>exact vle rfl)
  (fun i l' _ x hx=>by simp only[List.mem_cons,List.not_mem_nil,or_false] at hx; rcases hx with rfl|rfl|rfl|rfl|rfl|rfl|rfl<;>first|exact Firm.blk|exact Firm.tab)
  (fun i l' _ x hx=>by simp only[List.mem_cons,List.mem_append,List.not_mem_nil,or_false] at hx; rcases hx with rfl|rfl|(rfl|rfl|rfl|rfl|rfl|rfl|rfl)|rfl|rfl<;>first|exact Firm.blk|exact Firm.tab|exact Firm.v _ _)
  (fun J l' w hq h0=>Chunk1_seq (g:=g) (cap:=cap) (tailL_mod l) hcap1 hcap2 (fun i _=>rfl) (hq.sub fun i x hx=>by simp only[List.mem_cons,List.not_mem_nil,or_false] at hx ⊢; rcases hx with rfl|rfl<;>simp) h0)
  (fun i l' a w _ h=>assign_one (by decide) (by decide) (by decide) h) ?_ ?_
 ·intro i l' D rr mm hi
  refine A.block (A.reg (by kernel_rfl) (by kernel_rfl) (.inr (by kernel_rfl)) ?_);refine TD 5 ?_;refine RL 1000005 U198 rfl rfl (size198.of (R8.size _)) ?_;refine RM rfl ?_;refine RS (ok_arrayAt U260 rfl (by decide)) ?_;refine RS (ok_loadP (s:=1000090) (by decide) U260 rfl size260 rfl rfl (by have:=tailL_mod l; simp; omega) (tailL_block l hi)) ?_;refine RS (ok_callM (Compress_fn (chain (chain H8 l (l.length / 64)) (tailL l) i) (((tailL l).drop (64*i)).take 64) (by have:=tailL_mod l; simp; omega)) (Sub.cons rfl (Sub.cons rfl KN)) tabs_v (Args.cons rfl LA (Args.cons rfl LA Args.nil))) ?_;refine RZ (aggV ((chain (chain H8 l (l.length / 64)) (tailL l) (i+1)).list.map u32V)) (rfl) ?_;refine RN ?_;refine⟨_,eff_storeA (n:=42) (s:=1000005) (size198.of (R8.size _)) rfl rfl (all_u32 _) hBb5 rfl (by first|exact(R8.size _).trans (R8.size _).symm|rfl) (LT 1000002 rfl (LT 1000090 rfl (LT 1000091 rfl (LT 1000092 rfl (LeftS.cons (t:=1000098) rfl (Surv.rec rfl) (LeftS.cons (t:=1000099) rfl (Surv.rec rfl) (LQ 1900001 rfl (LQ 1900002 rfl LN)))))))),?_⟩
  refine TL (RN (End.normal_block ?_));exact End.round (Sv [1000098,1000099,1000002,1000005,1000090,1000091,1000092,1900001,1900002] rfl) (fun x hx=>by simp only[List.mem_cons,List.not_mem_nil,or_false] at hx; rcases hx with rfl|rfl|rfl|rfl|rfl|rfl|rfl|rfl|rfl<;>exact vle rfl) (by decide)
 ·intro D hD
  refine End.normal_block (EN (GS (TN 0 (RN ?_))));refine ZN 1000007 zero32 fun b7 ⟨hBb7,hb7⟩=>?_
  have hlt_b2_b7:=hb7 1000002 b2 _ _ rfl
  refine TL (RN (QS (GT (RL 1000005 U198 rfl rfl (size198.of (R8.size _)) ?_))));refine RZ (aggV ((shaR l).list.map u32V)) (by rw[tailL_sha]) ?_;refine RVN 1 rfl ?_;refine A.block ?_;refine A.loop (ι:=Nat) (fun i=>i<=8) (fun i=>[(2,.v (.pointer (some ⟨b2,0,none⟩))),(7,.v (.pointer (some ⟨b7,0,none⟩))),(29,.v (aggV ((shaR l).list.map u32V))),(30,.v (.int .i64 ((i:Nat):Int))),(1000002,blk b2 32 (List.replicate 32 (.int .u8 0))),(1000007,blk b7 32 (tableB ((sha l).take (4*i)) 32)),(1000099,recD D (.deferred (some [])) 0),(1900001,tab 1 (H8.list.map u32V)),(1900002,tab 2 (K64.map u32V))]) (fun i=>8-i) 0 ?_ ?_ ?_
  ·exact Nat.zero_le _
  ·exact(KC 2 rfl (KC 7 rfl (KC 29 rfl (KC 30 rfl (KC 1000002 rfl (KE 1000007 rfl (by rw[Nat.mul_zero,List.take_zero,<- tableB_nil]) (KC 1000099 rfl (KC 1900001 rfl (KC 1900002 rfl KN)))))))))
  intro i hi
  refine GV rfl (QS ?_);refine A.cond rfl (fun hc31=>?_) (fun hc31=>?_)
  ·have hlt:i<8:=by simp at hc31; omega
   refine QK (QSB (GT (RM rfl ?_)));refine RS (ok_indexV1 i U198 U53 rfl info53 rfl rfl rfl hlt (map_get32 (by show i<8; omega))) ?_;refine RVN 2 rfl ?_;refine A.reg (by kernel_rfl) (by kernel_rfl) (.inr (by kernel_rfl)) ?_;refine TD 5 ?_;refine RV 2 rfl ?_;refine RZ (.int .i64 ((4*i:Nat):Int)) (by rw[wrap_i64 (by omega) (by omega)]; first|rfl|(congr 1; omega)) ?_;refine RS (ok_sliceX (l:=4*i) (h:=32) (m:=32) U32 info5 rfl (.inl ⟨_,_,rfl,rfl⟩) (.inr ⟨rfl,rfl,rfl⟩) (.inr ⟨rfl,rfl⟩) (by omega) (by omega) (by omega) (.inl (by omega))) ?_;refine RM rfl ?_;refine RS (ok_call (Put32_fn ((((shaR l).list.getD i 0).toNat:Nat):Int) (Int.natCast_nonneg _) (by have:=u32_lt ((shaR l).list.getD i 0); omega)) (A1 rfl)) ?_;refine RN ?_;refine⟨_,eff_copyS (n:=42) (s:=1000007) (l:=be 4 ((shaR l).list.getD i 0).toNat) U23 info5 rfl rfl (le_byt _ _) hBb7 rfl (by rw[tableB_length (by simp[sha_length]; omega)]; omega) (by decide) (LB 1000002 rfl (LeftS.cons (t:=1000099) rfl (Surv.rec rfl) (LQ 1900001 rfl (LQ 1900002 rfl (LW [2,7,29,30] rfl))))),?_⟩
   refine TL (RN (End.sub (KC 2 rfl (KC 7 rfl (KC 29 rfl (KC 30 rfl (KC 1000002 rfl (KE 1000007 rfl (show blk b7 32 _=blk b7 32 (tableB ((sha l).take (4*(i+1))) 32) from congrArg _ (sha_copy l hlt)) (KC 1000099 rfl (KC 1900001 rfl (KC 1900002 rfl KN))))))))) ?_));refine End.normal_block (EN (GTE (RB rfl rfl rfl ?_)));refine RZ (.int .i64 ((i+1:Nat):Int)) (by rw[wrap_i64 (by omega) (by omega)]; first|rfl|(congr 1; omega)) ?_;refine RVN 1 rfl ?_;refine End.normal_then ?_;refine End.again (i+1) ?_ ?_ ?_
   ·show _<=_; omega
   ·show _-_<_-_; omega
   ·exact(Sv [2,7,29,30,1000002,1000007,1000099,1900001,1900002] rfl)
  ·obtain rfl:i=8:=by simp at hc31; omega
   refine A.exit (End.exit_then (End.exit_then (End.exit_here (EN (GS (TF 1 (RL 1000007 U32 rfl rfl (size32.of (by rw[tableB_length (by simp[sha_length])])) ?_)))))));refine RZ (aggV ((sha l).map byteV)) (by rw[tableB_full (by simp[sha_length]),List.take_of_length_le (by rw[sha_length]; decide)]) ?_;refine RN ?_;refine⟨_,eff_storeA (n:=42) (s:=1000002) (size32.of (by rw[List.length_map,sha_length])) rfl rfl (all_bytes _) hBb2 rfl (by rw[List.length_map,sha_length,List.length_replicate]) (LV 2 rfl (LB 1000007 rfl (LeftS.cons (t:=1000099) rfl (Surv.rec rfl) (LQ 1900001 rfl (LQ 1900002 rfl LN))))),?_⟩
   refine TL (RN (A.ret ?_));exact End.cell1C (D:=D) (vD:=1000099) rfl hD rfl U32 rfl (size32.of (by rw[List.length_map,sha_length])) rfl (s:=1000002) rfl (fun _=>rfl)
set_option maxHeartbeats 400000 in
theorem Of_fn(ps:List (List UInt8))(l:List UInt8)(hl:ps.flatten=l)(hps:ps.length<=1000000)(htot:l.length<=1000000): FnM Tryz.prog 137 tabs [lst (ps.map byt)] (.v (aggV ((sha l).map byteV))):=by
 subst hl
 refine FnM.of Tryz.func137 rfl (by kernel_rfl) Tryz.ntmps137 (by simp) (by decide) (fun w=>[(0,old w.heap.size (lst (ps.map byt))),(1900001,tab 1 (H8.list.map u32V)),(1900002,tab 2 (K64.map u32V))]) (fun w=>(StartM.old rfl (StartM.m (by simp[tabs]) (by decide) (StartM.m (by simp[tabs]) (by decide) StartM.nil)))) fun w₀ hM=>?_
 have htab:=tabs_hi hM
 refine GS (TN 0 (RN ?_));refine ZN 1000002 zero32 fun b2 ⟨hBb2,hb2⟩=>?_
 refine TL (RN (GS (TN 1 (RS (ok_call New_fn Args.nil) ?_))));refine RN ?_;refine ZN 1000003 zero262 fun b3 ⟨hBb3,hb3⟩=>?_
 refine TF 2 (RN ?_);refine⟨_,eff_storeA (n:=19) (s:=1000003) (size262.of (stL_length _)) rfl rfl (stL_ones _) hBb3 rfl (by first|exact(stL_length _).trans (stL_length _).symm|exact(stL_length _).symm) (LO 0 rfl (LT 1000002 rfl (LQ 1900001 rfl (LQ 1900002 rfl (LW [2,3] rfl))))),?_⟩
 refine TL (RN (QS (GT (RM rfl ?_))));refine RS (ok_len U259 rfl LA) ?_;refine RZ (.int .i64 (ps.length:Int)) (by simp) ?_;refine RVN 1 rfl ?_;refine A.block ?_;refine A.loop (ι:=Nat) (fun i=>i<=ps.length) (fun i=>[(2,.v (.pointer (some ⟨b2,0,none⟩))),(3,.v (.pointer (some ⟨b3,0,none⟩))),(7,old w₀.heap.size (lst (ps.map byt))),(8,.v (.int .i64 (ps.length:Int))),(9,.v (.int .i64 (i:Int))),(1000002,blk b2 32 (List.replicate 32 (.int .u8 0))),(1000003,blk b3 262 (stL ((ps.take i).flatten))),(1900001,tab 1 (H8.list.map u32V)),(1900002,tab 2 (K64.map u32V))]) (fun i=>ps.length-i) 0 ?_ ?_ ?_
 ·exact Nat.zero_le _
 ·exact(Sv [2,3,7,8,9,1000002,1000003,1900001,1900002] rfl)
 intro i hi
 refine GV rfl (QS ?_);refine A.cond rfl (fun hc10=>?_) (fun hc10=>?_)
 ·have hlt:i<ps.length:=by simpa using hc10
  have hget:ps[i]?=some ps[i]:=List.getElem?_eq_getElem hlt
  have hT:=flatten_take_le ps (i+1)
  rw[flatten_take_succ hget,List.length_append] at hT
  refine QK (QSB (GT (RS (ok_index (d:=byt ps[i]) U259 info23 rfl LA rfl (by omega) (by simp[hlt])) ?_)));refine RS (ok_load U23 rfl rfl) ?_;refine RVN 1 rfl ?_;refine GE (TF 3 (RL 1000003 U262 rfl rfl (size262.of (stL_length _)) ?_));refine RM rfl ?_;refine RS (ok_callM (Write_fn ((ps.take i).flatten) ps[i] (by omega)) (Sub.cons rfl (Sub.cons rfl KN)) tabs_v (Args.cons rfl LA (Args.cons rfl LA Args.nil))) ?_;refine RZ (aggV (stL ((ps.take (i+1)).flatten))) (by rw[flatten_take_succ hget]; rfl) ?_;refine RN ?_;refine⟨_,eff_storeA (n:=19) (s:=1000003) (size262.of (stL_length _)) rfl rfl (stL_ones _) hBb3 rfl (by first|exact(stL_length _).trans (stL_length _).symm|exact(stL_length _).symm) (LO 7 rfl (LT 1000002 rfl (LQ 1900001 rfl (LQ 1900002 rfl (LW [2,3,8,9] rfl))))),?_⟩
  refine TL (RN (End.normal_block (EN (GTE (RB rfl rfl rfl ?_)))));refine RZ (.int .i64 ((i+1:Nat):Int)) (by rw[wrap_i64 (by omega) (by omega)]; first|rfl|(congr 1; omega)) ?_;refine RVN 1 rfl ?_;refine End.normal_then ?_;refine End.again (i+1) ?_ ?_ ?_
  ·show _<=_; omega
  ·show _-_<_-_; omega
  ·exact(Sv [2,3,7,8,9,1000002,1000003,1900001,1900002] rfl)
 ·have hi2:i=ps.length:=by simp at hc10; omega
  subst hi2
  refine A.exit (End.exit_then (End.exit_then (End.exit_here (EN (GS (TF 2 (RL 1000003 U262 rfl rfl (size262.of (stL_length _)) ?_)))))));refine RZ (stV ps.flatten) (by rw[List.take_length]; rfl) ?_;refine RS (ok_callM (Sum_fn ps.flatten htot) (Sub.cons rfl (Sub.cons rfl KN)) tabs_v (Args.cons rfl LA Args.nil)) ?_;refine RN ?_;refine⟨_,eff_storeA (n:=19) (s:=1000002) (size32.of (by rw[List.length_map,sha_length])) rfl rfl (all_bytes _) hBb2 rfl (by rw[List.length_map,sha_length,List.length_replicate]) (LV 2 rfl (LT 1000003 rfl (LQ 1900001 rfl (LQ 1900002 rfl LN)))),?_⟩
  refine TL (RN (A.ret ?_));exact End.cell1 (s:=1000002) rfl U32 rfl (size32.of (by rw[List.length_map,sha_length])) rfl rfl (Le.refl _)
end Go.Proofs.YtjigbkamgfidkaaGreatDoor
