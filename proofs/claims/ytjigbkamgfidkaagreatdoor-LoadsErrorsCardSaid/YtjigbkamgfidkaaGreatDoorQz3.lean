/- OWN TEXTS. -/
import Derived.Test.YtjigbkamgfidkaaGreatDoorQz2
namespace Go.Proofs.YtjigbkamgfidkaaGreatDoor
set_option linter.unusedVariables false
set_option linter.unusedSimpArgs false
set_option maxRecDepth 20000
open Go Go.RowKit
variable {P:Program} {n:Nat} {d:D} {xs:List Value} {w:World} {i:Nat} {b:Nat} {k:Nat} {B:Nat} {E:Env} {j:Nat} {m:Nat} {s:Nat} {ds:List D} {nb:Nat} {E':Env} {g:Nat} {td:TypeDesc} {w₀:World} {ys:List Value} {ops:Array Oper}
theorem zero57: ZeroIs Tryz.prog 57 ([.int .u8 0]++[.int .u32 0]++[.int .u64 0]++List.replicate 32 (.int .u8 0)):=by unfold ZeroIs; kernel_rfl
theorem size57: SizeIs Tryz.prog 57 35:=by unfold SizeIs; kernel_rfl
theorem field57_0: FieldIs Tryz.prog 57 0 0 1:=by unfold FieldIs; kernel_rfl
theorem field57_1: FieldIs Tryz.prog 57 1 1 2:=by unfold FieldIs; kernel_rfl
theorem field57_2: FieldIs Tryz.prog 57 2 3 32:=by unfold FieldIs; kernel_rfl
theorem zero69: ZeroIs Tryz.prog 69 ([.int .u8 0]++List.replicate 32 (.int .u8 0)):=by unfold ZeroIs; kernel_rfl
theorem size69: SizeIs Tryz.prog 69 33:=by unfold SizeIs; kernel_rfl
theorem field69_0: FieldIs Tryz.prog 69 0 0 1:=by unfold FieldIs; kernel_rfl
theorem field69_1: FieldIs Tryz.prog 69 1 1 32:=by unfold FieldIs; kernel_rfl
theorem zero35: ZeroIs Tryz.prog 35 (List.replicate 32 (.int .u8 0)++[.int .u64 0]++[.int .u64 0]):=by unfold ZeroIs; kernel_rfl
theorem size35: SizeIs Tryz.prog 35 34:=by unfold SizeIs; kernel_rfl
theorem field35_0: FieldIs Tryz.prog 35 0 0 32:=by unfold FieldIs; kernel_rfl
theorem field35_1: FieldIs Tryz.prog 35 1 32 1:=by unfold FieldIs; kernel_rfl
theorem field277_0: FieldIs Tryz.prog 277 0 0 1:=by unfold FieldIs; kernel_rfl
theorem zero32: ZeroIs Tryz.prog 32 (List.replicate 32 (.int .u8 0)):=by unfold ZeroIs; kernel_rfl
theorem size32: SizeIs Tryz.prog 32 32:=by unfold SizeIs; kernel_rfl
theorem flat57: flat Tryz.prog 4 57=some (.u8 :: .u32 :: .u64::List.replicate 32 .u8):=by kernel_rfl
theorem flat69: flat Tryz.prog 4 69=some (.u8::List.replicate 32 .u8):=by kernel_rfl
def pN (l:List UInt8):List UInt8:=(l.drop 1).take 12
def pT (l:List UInt8):List UInt8:=((l.drop 1).drop 12).take 32
def pD (l:List UInt8):List UInt8:=(l.drop 1).take 32
theorem pT_len{l:List UInt8}(h:l.length=45): (pT l).length=32:=by simp[pT,h]
theorem pD_len{l:List UInt8}(h:l.length=33): (pD l).length=32:=by simp[pD,h]
theorem rec_front{x:UInt8}{c:Nat}{t:List UInt8}(ht:t.length=32)(hs:s<4294967296)(hc:c<18446744073709551616): pX (recL x s c t)=x∧gS (pN (recL x s c t))=s∧gC (pN (recL x s c t))=c∧pT (recL x s c t)=t:=by
 have h1:pN (recL x s c t)=nonceL s c:=by unfold pN recL; rw[List.drop_one,List.tail_cons,List.take_left' (nonceL_length s c)]
 refine⟨rfl,by rw[h1,gS_nonce hs],by rw[h1,gC_nonce hc],?_⟩
 unfold pT recL
 rw[List.drop_one,List.tail_cons,List.drop_left' (nonceL_length s c),List.take_of_length_le (by omega)]
theorem ent_front{x:UInt8}{t:List UInt8}(ht:t.length=32): pX (entL x t)=x∧pD (entL x t)=t:=by
 refine⟨rfl,?_⟩
 unfold pD entL
 rw[List.drop_one,List.tail_cons,List.take_of_length_le (by omega)]
set_option maxHeartbeats 1000000 in
theorem refRecord_fn(x:UInt8)(s c:Nat)(t:List UInt8)(ht:t.length=32)(hs:s<4294967296)(hc:c<18446744073709551616): Fn Tryz.prog 83 [.v (aggV (recV x s c t))] (byt (recL x s c t)):=by
 refine FV Tryz.func83 rfl Tryz.ntmps83 rfl fun w₀=>?_
 refine GS (TN 0 (RN ?_));refine ZB 1000001 rfl fun b1 ⟨hBb1,hb1⟩=>?_
 refine TL (RVN 1 rfl ?_);refine GD (TD 9 ?_);refine Rf field57_0 ?_;refine RLV 1000001 U5 rfl rfl rfl ?_;refine RS (ok_build [.v (byteV x)] U23 info5 rfl (by decide) (by decide) rfl ⟨rfl,rfl,trivial⟩ (fun d hd w x h=>by simp only[List.mem_cons,List.not_mem_nil,or_false] at hd; rcases hd with rfl; exact v_one rfl h)) ?_;refine Rf field57_1 ?_;refine RS (ok_loadP (s:=1000001) (by decide) U55 rfl size55 rfl rfl (by simp[recV]) (rfl)) ?_;refine RS (ok_call (ref8Put_fn s c hs hc) (A1 rfl)) ?_;refine RS (ok_appendFull (l:=[x]) (m:=nonceL s c) U23 info5 (by decide) rfl rfl (Le.eq (by rfl)) rfl (Le.refl _) (Nat.succ_pos _) (by rw[nonceL_length]; decide) (by simp only[nonceL_length,List.length_cons,List.length_nil]; omega)) ?_;refine Rf field57_2 ?_;refine RS (OpOk.fact (ok_sliceX (l:=0) (h:=32) (m:=32) U32 info5 rfl (.inr ⟨rfl,rfl⟩) (.inr ⟨rfl,rfl,rfl⟩) (.inr ⟨rfl,rfl⟩) (by decide) (by decide) (by decide) (.inl (by decide))) (d:=byt t) (s:=1000001) (by decide) rfl (slice_byt t ht.symm (by decide) (by decide) (rec_tag ht))) ?_;refine RN ?_;refine⟨_,eff_appendS (vs:=t.map byteV) U23 info5 (by decide) rfl rfl rfl (Le.eq (byt_vals _)) (by simp[byteV,Value.oneCell']) (by simp only[List.length_map,nonceL_length,ht,List.length_cons,List.length_nil]; omega) (by decide) (fun g hg=>(LT 1000001 rfl LN)),?_⟩
 refine TL (RVN 1 rfl ?_);refine A.sub (KE 2 rfl (show own w₀.heap.size 5 _ _=own w₀.heap.size 5 (1+12+32) (([x]++nonceL s c).map byteV++t.map byteV) from by rw[nonceL_length,List.length_map,ht]; rfl) (KC 1000001 rfl KN)) ?_;refine A.ret ?_;exact End.ret1 rfl rfl ((Le.eq (by rw[<- List.map_append]; rfl)).trans (own_byt (B:=w₀.heap.size) (e:=5) (n:=1+12+32) (l:=recL x s c t) (recL_len x s c ht).symm))
theorem refEntry_fn(x:UInt8)(t:List UInt8)(ht:t.length=32): Fn Tryz.prog 84 [.v (aggV (entV x t))] (byt (entL x t)):=by
 refine FV Tryz.func84 rfl Tryz.ntmps84 rfl fun w₀=>?_
 refine GS (TN 0 (RN ?_));refine ZB 1000001 rfl fun b1 ⟨hBb1,hb1⟩=>?_
 refine TL (RVN 1 rfl ?_);refine GTD (Rf field69_0 ?_);refine RLV 1000001 U5 rfl rfl rfl ?_;refine RS (ok_build [.v (byteV x)] U23 info5 rfl (by decide) (by decide) rfl ⟨rfl,rfl,trivial⟩ (fun d hd w x h=>by simp only[List.mem_cons,List.not_mem_nil,or_false] at hd; rcases hd with rfl; exact v_one rfl h)) ?_;refine Rf field69_1 ?_;refine RS (OpOk.fact (ok_sliceX (l:=0) (h:=32) (m:=32) U32 info5 rfl (.inr ⟨rfl,rfl⟩) (.inr ⟨rfl,rfl,rfl⟩) (.inr ⟨rfl,rfl⟩) (by decide) (by decide) (by decide) (.inl (by decide))) (d:=byt t) (s:=1000001) (by decide) rfl (slice_byt t ht.symm (by decide) (by decide) (ent_tag ht))) ?_;refine RS (ok_appendFull (l:=[x]) (m:=t) U23 info5 (by decide) rfl rfl (Le.eq (by rfl)) rfl (Le.refl _) (Nat.succ_pos _) (by omega) (by simp only[ht,List.length_cons,List.length_nil]; omega)) ?_;refine RVN 1 rfl ?_;refine A.ret ?_;exact End.ret1 rfl rfl (own_byt (B:=w₀.heap.size) (e:=5) (n:=[x].length+t.length) (l:=entL x t) (by rw[entL_len x ht,ht]; rfl))
theorem buildS_(A:Option Addr)(n c:Nat): Tryz.prog.built 277 [(0,.slice A n c)]=some ([.slice A n c]:List Value).toArray:=by kernel_rfl
theorem cks_A(x:UInt8)(z:Bool)(h:2<x.toNat): Fn Tryz.prog 112 [.v (byteV x),.v (.bool z)] (.v (.int .i64 1)):=by
 refine FV Tryz.func112 rfl Tryz.ntmps112 rfl fun w₀=>?_
 refine GV rfl (QS (GT (RV 2 rfl ?_)));refine RZ (.bool true) (by simp; omega) ?_;refine RV 4 rfl ?_;refine RunK.skippedU rfl rfl rfl rfl ?_;refine RunK.skippedU rfl rfl rfl rfl ?_;refine RVN 2 rfl ?_;refine A.yes rfl ?_;refine GV rfl (A.ret (End.ret_then ?_));exact ER rfl rfl
theorem cks_B(x:UInt8)(h:x.toNat=0): Fn Tryz.prog 112 [.v (byteV x),.v (.bool true)] (.v (.int .i64 0)):=by
 refine FV Tryz.func112 rfl Tryz.ntmps112 rfl fun w₀=>?_
 refine GV rfl (QS (GT (RV 2 rfl ?_)));refine RZ (.bool false) (by simp; omega) ?_;refine RV 3 rfl ?_;refine RZ (.bool true) (by simp[h]) ?_;refine RV 3 rfl ?_;refine RF ?_;refine RVN 2 rfl ?_;refine A.no rfl ?_;refine QK (GV rfl (A.ret ?_));exact ER rfl rfl
theorem cks_C(x:UInt8)(h:x.toNat=0): Fn Tryz.prog 112 [.v (byteV x),.v (.bool false)] (.v (.int .i64 1)):=by
 refine FV Tryz.func112 rfl Tryz.ntmps112 rfl fun w₀=>?_
 refine GV rfl (QS (GT (RV 2 rfl ?_)));refine RZ (.bool false) (by simp; omega) ?_;refine RV 3 rfl ?_;refine RZ (.bool true) (by simp[h]) ?_;refine RV 3 rfl ?_;refine RT ?_;refine RVN 2 rfl ?_;refine A.yes rfl ?_;refine GV rfl (A.ret (End.ret_then ?_));exact ER rfl rfl
theorem cks_D(x:UInt8)(z:Bool)(h:1<=x.toNat)(h2:x.toNat<=2): Fn Tryz.prog 112 [.v (byteV x),.v (.bool z)] (.v (.int .i64 0)):=by
 refine FV Tryz.func112 rfl Tryz.ntmps112 rfl fun w₀=>?_
 refine GV rfl (QS (GT (RV 2 rfl ?_)));refine RZ (.bool false) (by simp; omega) ?_;refine RV 3 rfl ?_;refine RZ (.bool false) (by simp; omega) ?_;refine RVN 5 rfl ?_;refine A.no rfl ?_;refine QK (GV rfl (A.ret ?_));exact ER rfl rfl
theorem checkState_fn(x:UInt8)(z:Bool): Fn Tryz.prog 112 [.v (byteV x),.v (.bool z)] (.v (.int .i64 (ckS x.toNat z))):=by
 unfold ckS
 by_cases h:2<x.toNat
 ·rw[if_pos (.inl h)]; exact cks_A x z h
 by_cases h0:x.toNat=0
 ·cases z with
  | true=>rw[if_neg (by simp; omega)]; exact cks_B x h0
  | false=>rw[if_pos (.inr ⟨h0,rfl⟩)]; exact cks_C x h0
 ·rw[if_neg (by omega)]; exact cks_D x z (by omega) (by omega)
theorem CheckR_fn(x:UInt8)(s c:Nat)(t:List UInt8)(ht:t.length=32): Fn Tryz.prog 71 [.v (aggV (recV x s c t))] (.v (.int .i64 (ckR x s c t))):=by
 refine FV Tryz.func71 rfl Tryz.ntmps71 rfl fun w₀=>?_
 refine GS (TN 0 (RN ?_));refine ZB 1000001 rfl fun b1 ⟨hBb1,hb1⟩=>?_
 refine TL (RVN 1 rfl ?_);refine GTD (Rf field57_0 ?_);refine RLV 1000001 U5 rfl rfl rfl ?_;refine RL 1000001 U57 rfl rfl (size57.of (rec_len x s c ht)) ?_;refine RS (ok_lit [] ([.int .u8 0]++[.int .u32 0]++[.int .u64 0]++List.replicate 32 (.int .u8 0)) (fun _ _=>rfl) (by kernel_rfl)) ?_;refine RS (ok_eqlT (n:=4) (decide (x.toNat=0∧s=0∧c=0∧t=zD)) flat57 (by decide) (by kernel_rfl) (by kernel_rfl) rfl rfl (kinRec x s c ht) (kinRec 0 0 0 (t:=zD) rfl) (dec_rec x s c t)) ?_;refine RS (ok_call (checkState_fn x _) (A2 rfl rfl)) ?_;refine RZ (.int .i64 (ckR x s c t)) (congrArg (Value.int .i64) (ckS_rec x s c t)) ?_;refine RVN 1 rfl ?_;refine A.ret ?_;exact ER rfl rfl
theorem CheckE_fn(x:UInt8)(t:List UInt8)(ht:t.length=32): Fn Tryz.prog 143 [.v (aggV (entV x t))] (.v (.int .i64 (ckE x t))):=by
 refine FV Tryz.func143 rfl Tryz.ntmps143 rfl fun w₀=>?_
 refine GS (TN 0 (RN ?_));refine ZB 1000001 rfl fun b1 ⟨hBb1,hb1⟩=>?_
 refine TL (RVN 1 rfl ?_);refine GTD (Rf field69_0 ?_);refine RLV 1000001 U5 rfl rfl rfl ?_;refine RL 1000001 U69 rfl rfl (size69.of (ent_len x ht)) ?_;refine RS (ok_lit [] ([.int .u8 0]++List.replicate 32 (.int .u8 0)) (fun _ _=>rfl) (by kernel_rfl)) ?_;refine RS (ok_eqlT (n:=4) (decide (x.toNat=0∧t=zD)) flat69 (by decide) (by kernel_rfl) (by kernel_rfl) rfl rfl (kinEnt x ht) (kinEnt 0 (t:=zD) rfl) (dec_ent x t)) ?_;refine RS (ok_call (checkState_fn x _) (A2 rfl rfl)) ?_;refine RZ (.int .i64 (ckE x t)) (congrArg (Value.int .i64) (ckS_ent x t)) ?_;refine RVN 1 rfl ?_;refine A.ret ?_;exact ER rfl rfl
theorem newD_tup{e:Nat}{l:List UInt8}(h:l.length=n)(hm:n<=maxLen:=by decide): Le (newD B e (fun b=>.tuple #[.slice (some ⟨b,0,none⟩) n n,.int .i64 0]) (l.map byteV)) (tup [bytes l n,.v (.int .i64 0)]):=fun B' w x ⟨b,h1,h2,h3,h4⟩=>by
 subst h1
 refine⟨[.slice (some ⟨b,0,none⟩) n n,.int .i64 0],rfl,rfl,fun j d u hd hu=>?_⟩
 match j with
 | 0 =>
  injection hd with hd; injection hu with hu; subst hd; subst hu
  exact slice_bytes l h.symm (Nat.le_refl _) hm (by rw[List.drop_zero,List.take_of_length_le (by simp[h])]) B' w h3 h4
 | 1=>injection hd with hd; injection hu with hu; subst hd; subst hu; rfl
 | j+2=>cases hd
set_option maxHeartbeats 1000000 in
theorem PutRecord_okB(x:UInt8)(s c:Nat)(t:List UInt8)(ht:t.length=32)(hs:s<4294967296)(hc:c<18446744073709551616)(hb:¬ BadR x s c t): FnB Tryz.prog 158 [.v (aggV (recV x s c t))] (fun B=>newD B 5 (fun b=>.tuple #[.slice (some ⟨b,0,none⟩) 45 45,.int .i64 0]) ((recL x s c t).map byteV)):=by
 refine FnB.of Tryz.func158 rfl (by kernel_rfl) Tryz.ntmps158 (by simp) (fun w=>[(0,.v (aggV (recV x s c t)))]) (fun w=>(Start.v rfl Start.nil)) fun w₀=>?_
 refine GS (TN 0 (RN ?_));refine ZB 1000001 rfl fun b1 ⟨hBb1,hb1⟩=>?_
 refine TL (RVN 2 rfl ?_);refine QS (GT (RL 1000001 U57 rfl rfl (size57.of (rec_len x s c ht)) ?_));refine RS (ok_call (CheckR_fn x s c t ht) (A1 rfl)) ?_;refine RZ (.int .i64 0) (congrArg (Value.int .i64) (ckR_ok hb)) ?_;refine RVN 1 rfl ?_;refine GT (RV 2 rfl ?_);refine RF ?_;refine RN (A.no rfl ?_);refine QK (GD (RunTK.new 9 (by decide) rfl (.inr (by kernel_rfl)) ?_));refine Rf field57_0 ?_;refine RLV 1000001 U5 rfl rfl rfl ?_;refine RS (ok_build [.v (byteV x)] U23 info5 rfl (by decide) (by decide) rfl ⟨rfl,rfl,trivial⟩ (fun d hd w x h=>by simp only[List.mem_cons,List.not_mem_nil,or_false] at hd; rcases hd with rfl; exact v_one rfl h)) ?_;refine Rf field57_1 ?_;refine RS (ok_loadP (s:=1000001) (by decide) U55 rfl size55 rfl rfl (by simp[recV]) (rfl)) ?_;refine RS (ok_call (Put_fn s c hs hc) (A1 rfl)) ?_;refine Rf field57_2 ?_;refine RS (OpOk.fact (ok_sliceX (l:=0) (h:=32) (m:=32) U32 info5 rfl (.inr ⟨rfl,rfl⟩) (.inr ⟨rfl,rfl,rfl⟩) (.inr ⟨rfl,rfl⟩) (by decide) (by decide) (by decide) (.inl (by decide))) (d:=byt t) (s:=1000001) (by decide) rfl (slice_byt t ht.symm (by decide) (by decide) (rec_tag ht))) ?_;refine RS (ok_build [bytes [x] 1,bytes (nonceL s c) 12,byt t] U259 info23 rfl (by decide) (by decide) rfl ⟨rfl,rfl,rfl,rfl,rfl,rfl,trivial⟩ (fun d hd w x h=>by simp only[List.mem_cons,List.not_mem_nil,or_false] at hd; rcases hd with rfl|rfl|rfl<;>first|exact list_one h|exact lst_one h)) ?_;refine RN ?_;refine⟨_,_,eff_nameF (c:=45) (by simp[recL,nonceL_length,ht]) (n:=20) (d:=19) (k:=1000019) rfl rfl (fun B'=>(ok_callB (Join_fnB [[x],nonceL s c,t] (by simp) (by simp[nonceL_length,ht])) (fun _ _=>fresh_mono _ _) (Args.cons rfl (list_lst3 (le_byt _ 1) (le_byt _ 12) (Le.refl _)) Args.nil)).le (d':=fresh _ 5 ((recL x s c t).map byteV) 45) (Le.eq (by simp[recL,nonceL_length,ht]))) (by decide) (by decide),fun b19 hb19=>?_⟩
 have hBb19:=hb19.1
 have hlt_b1_b19:b1<b19:=hb19.2 1000001 _ _ _ rfl
 refine TL (RVN 2 rfl ?_);refine A.ret ?_
 first|exact End.newTT (kg:=1000019) rfl rfl rfl rfl hBb19 rfl rfl|exact End.ret2V rfl rfl rfl
theorem PutEntry_okB(x:UInt8)(t:List UInt8)(ht:t.length=32)(hb:¬ BadE x t): FnB Tryz.prog 160 [.v (aggV (entV x t))] (fun B=>newD B 5 (fun b=>.tuple #[.slice (some ⟨b,0,none⟩) 33 33,.int .i64 0]) ((entL x t).map byteV)):=by
 refine FnB.of Tryz.func160 rfl (by kernel_rfl) Tryz.ntmps160 (by simp) (fun w=>[(0,.v (aggV (entV x t)))]) (fun w=>(Start.v rfl Start.nil)) fun w₀=>?_
 refine GS (TN 0 (RN ?_));refine ZB 1000001 rfl fun b1 ⟨hBb1,hb1⟩=>?_
 refine TL (RVN 2 rfl ?_);refine QS (GT (RL 1000001 U69 rfl rfl (size69.of (ent_len x ht)) ?_));refine RS (ok_call (CheckE_fn x t ht) (A1 rfl)) ?_;refine RZ (.int .i64 0) (congrArg (Value.int .i64) (ckE_ok hb)) ?_;refine RVN 1 rfl ?_;refine GT (RV 2 rfl ?_);refine RF ?_;refine RN (A.no rfl ?_);refine QK (GD (RunTK.new 6 (by decide) rfl (.inr (by kernel_rfl)) ?_));refine Rf field69_0 ?_;refine RLV 1000001 U5 rfl rfl rfl ?_;refine RS (ok_build [.v (byteV x)] U23 info5 rfl (by decide) (by decide) rfl ⟨rfl,rfl,trivial⟩ (fun d hd w x h=>by simp only[List.mem_cons,List.not_mem_nil,or_false] at hd; rcases hd with rfl; exact v_one rfl h)) ?_;refine Rf field69_1 ?_;refine RS (OpOk.fact (ok_sliceX (l:=0) (h:=32) (m:=32) U32 info5 rfl (.inr ⟨rfl,rfl⟩) (.inr ⟨rfl,rfl,rfl⟩) (.inr ⟨rfl,rfl⟩) (by decide) (by decide) (by decide) (.inl (by decide))) (d:=byt t) (s:=1000001) (by decide) rfl (slice_byt t ht.symm (by decide) (by decide) (ent_tag ht))) ?_;refine RS (ok_build [bytes [x] 1,byt t] U259 info23 rfl (by decide) (by decide) rfl ⟨rfl,rfl,rfl,rfl,trivial⟩ (fun d hd w x h=>by simp only[List.mem_cons,List.not_mem_nil,or_false] at hd; rcases hd with rfl|rfl<;>first|exact list_one h|exact lst_one h)) ?_;refine RN ?_;refine⟨_,_,eff_nameF (c:=33) (by simp[entL,ht]) (n:=17) (d:=16) (k:=1000016) rfl rfl (fun B'=>(ok_callB (Join_fnB [[x],t] (by simp) (by simp[ht])) (fun _ _=>fresh_mono _ _) (Args.cons rfl (list_lst2 (le_byt _ 1) (Le.refl _)) Args.nil)).le (d':=fresh _ 5 ((entL x t).map byteV) 33) (Le.eq (by simp[entL,ht]))) (by decide) (by decide),fun b16 hb16=>?_⟩
 have hBb16:=hb16.1
 have hlt_b1_b16:b1<b16:=hb16.2 1000001 _ _ _ rfl
 refine TL (RVN 2 rfl ?_);refine A.ret ?_
 first|exact End.newTT (kg:=1000016) rfl rfl rfl rfl hBb16 rfl rfl|exact End.ret2V rfl rfl rfl
theorem csz_lo(l:List UInt8)(n:Nat)(h:l.length<n): Fn Tryz.prog 151 [byt l,.v (nI n)] (.v (.int .i64 6)):=by
 refine Fn.of Tryz.func151 rfl (by kernel_rfl) Tryz.ntmps151 (by simp) (fun w=>[(0,old w.heap.size (byt l)),(1,.v (nI n))]) (fun w=>(Start.old rfl (Start.v rfl Start.nil))) fun w₀=>?_
 refine GV rfl (QSB (GT (RM rfl ?_)));refine RS (ok_lenB U23 rfl LA) ?_;refine RV 2 rfl ?_;refine RZ (.bool true) (by simp; omega) ?_;refine RVN 1 rfl ?_;refine A.yes rfl ?_;refine GV rfl (A.ret (End.ret_block (End.ret_then ?_)));exact ER rfl rfl
theorem csz_hi(l:List UInt8)(n:Nat)(h:n<l.length): Fn Tryz.prog 151 [byt l,.v (nI n)] (.v (.int .i64 5)):=by
 refine Fn.of Tryz.func151 rfl (by kernel_rfl) Tryz.ntmps151 (by simp) (fun w=>[(0,old w.heap.size (byt l)),(1,.v (nI n))]) (fun w=>(Start.old rfl (Start.v rfl Start.nil))) fun w₀=>?_
 refine GV rfl (QSB (GT (RM rfl ?_)));refine RS (ok_lenB U23 rfl LA) ?_;refine RV 2 rfl ?_;refine RZ (.bool false) (by simp; omega) ?_;refine RVN 1 rfl ?_;refine A.no rfl ?_;refine GT (RM rfl ?_);refine RS (ok_lenB U23 rfl LA) ?_;refine RV 2 rfl ?_;refine RZ (.bool true) (by simp; omega) ?_;refine RVN 1 rfl ?_;refine A.yes rfl ?_;refine GV rfl (A.ret (End.ret_block (End.ret_then ?_)));exact ER rfl rfl
theorem csz_eq(l:List UInt8)(n:Nat)(h:l.length=n): Fn Tryz.prog 151 [byt l,.v (nI n)] (.v (.int .i64 0)):=by
 refine Fn.of Tryz.func151 rfl (by kernel_rfl) Tryz.ntmps151 (by simp) (fun w=>[(0,old w.heap.size (byt l)),(1,.v (nI n))]) (fun w=>(Start.old rfl (Start.v rfl Start.nil))) fun w₀=>?_
 refine GV rfl (QSB (GT (RM rfl ?_)));refine RS (ok_lenB U23 rfl LA) ?_;refine RV 2 rfl ?_;refine RZ (.bool false) (by simp; omega) ?_;refine RVN 1 rfl ?_;refine A.no rfl ?_;refine GT (RM rfl ?_);refine RS (ok_lenB U23 rfl LA) ?_;refine RV 2 rfl ?_;refine RZ (.bool false) (by simp; omega) ?_;refine RVN 1 rfl ?_;refine A.no rfl ?_;refine A.skip (End.normal_block (EN (GV rfl (A.ret ?_))));exact ER rfl rfl
theorem checkSize_fn(l:List UInt8)(n:Nat): Fn Tryz.prog 151 [byt l,.v (nI n)] (.v (.int .i64 (szE l.length n))):=by
 by_cases h:l.length<n
 ·rw[szE_lo h]; exact csz_lo l n h
 by_cases h2:n<l.length
 ·rw[szE_hi h2]; exact csz_hi l n h2
 ·rw[szE_eq (by omega)]; exact csz_eq l n (by omega)
theorem front_fnB(A₀:Option Addr)(n m:Nat): FnB Tryz.prog 152 [.v (.slice A₀ n m)] (fun B=>newD B 277 (fun b=>ptr b) [.slice A₀ n m]):=by
 refine FnB.of Tryz.func152 rfl (by kernel_rfl) Tryz.ntmps152 (by simp) (fun w=>[(0,.v (.slice A₀ n m))]) (fun w=>(Start.v rfl Start.nil)) fun w₀=>?_
 refine GV rfl (GS (TN 2 (RM rfl ?_)));refine RS (ok_litS [(0,.slice A₀ n m)] [.slice A₀ n m] ⟨rfl,rfl,trivial⟩ (buildS_ A₀ n m)) ?_;refine RN ?_;refine ZB 1000005 rfl fun b5 ⟨hBb5,hb5⟩=>?_
 refine TL (RVN 1 rfl ?_);refine A.ret ?_;exact End.newF (kg:=1000005) rfl rfl rfl hBb5 rfl rfl
theorem cut_fnWR(g n m k:Nat)(A₀:Option Addr)(hk:k<=n)(hn:n<=m)(h0:0<m): FnWR Tryz.prog 153 [] 277 g [.slice A₀ n m] [.slice (cutA m k A₀) (n-k) (m-k)] ([ptr g].map D.v++[.v (nI k)]) (.slice A₀ k m):=by
 refine FnWR.of (us:=[ptr g,(nI k)]) (n:=22) (kb:=1000080) (kw:=1000081) Tryz.func153 rfl (by kernel_rfl) Tryz.ntmps153 (by simp) (by decide) (fun p hp=>by cases hp) (by decide) (by decide) [(0,.v (ptr g)),(1,.v (nI k))]
  (fun p hp=>by simp only[List.mem_cons,List.not_mem_nil,or_false] at hp; rcases hp with rfl|rfl<;>exact⟨_,rfl,rfl⟩) fun w₀ w₁ hw=>?_
 have hBg:w₀.heap.size<=g:=Nat.le_of_eq hw
 refine GV rfl (GT (RM rfl ?_));refine RS (ok_nilCheck rfl) ?_;refine Rf field277_0 ?_;refine RLV 1000080 U23 rfl rfl rfl ?_;refine RM rfl ?_;refine RS (ok_sliceHi k U23 info5 rfl rfl (by omega) h0) ?_;refine RVN 1 rfl ?_;refine GS (TF 9 (RV 2 rfl ?_));refine RS (ok_nilCheck rfl) ?_;refine Rf field277_0 ?_;refine RLV 1000080 U23 rfl rfl rfl ?_;refine RM rfl ?_;refine RS (ok_sliceLo k U23 info5 rfl rfl hk hn) ?_;refine RS (ok_nilCheck rfl) ?_;refine Rf field277_0 ?_;refine RN ?_;refine⟨_,eff_storeS (n:=22) (s:=1000080) info23 rfl rfl rfl hBg rfl (by simp) (LV 5 rfl (LeftS.cons (t:=1000081) rfl (Surv.wrote) LN)),?_⟩
 refine TL (RN (GV rfl (A.ret ?_)));exact End.wroteR (kb:=1000080) (kw:=1000081) (.inl rfl) rfl rfl rfl rfl rfl
theorem Eff.upM{o:Oper}{t B':Nat}{v:Value}(ht:E'.look t=some (.v v))(hk:E'.look k=some (old B' (valM v d)))(h:Eff P n B ops o E E'): Eff P n B ops o E ((t,old B' d)::E') :=
 fun κ a w K Q hs hK=>h κ a w K Q hs fun a' w' hb hs'=>hK a' w' hb (hs'.push (d:=old B' d) (by
  have h1:=hs'.of t _ ht
  have h2:=hs'.of k _ hk
  rw[show a'.tmps.getD t undef=v from h1]
  exact h2))
set_option maxHeartbeats 1000000 in
theorem GetRecord_bad(l:List UInt8)(h:l.length=45)(hb:BadR (pX l) (gS (pN l)) (gC (pN l)) (pT l)): Fn Tryz.prog 133 [byt l] (.v (.tuple #[aggV (recV 0 0 0 zD),.int .i64 1])):=by
 refine Fn.of Tryz.func133 rfl (by kernel_rfl) Tryz.ntmps133 (by simp) (fun w=>[(0,old w.heap.size (byt l))]) (fun w=>(Start.old rfl Start.nil)) fun w₀=>?_
 refine A.nameC (t:=0) (k:=1000200) rfl fun A₀ m₀ hm1 hm2=>?_
 refine A.cut (k₀:=1000200) (k₁:=1000211) (k₂:=1000201) (i:=1) rfl (by omega) ?_;refine A.cut (k₀:=1000201) (k₁:=1000212) (k₂:=1000202) (i:=12) rfl (by omega) ?_;refine A.cut (k₀:=1000202) (k₁:=1000213) (k₂:=1000203) (i:=32) rfl (by omega) ?_;refine GS (TN 0 (RN ?_));refine ZN 1000002 zero57 fun b2 ⟨hBb2,hb2⟩=>?_
 refine TL (RVN 1 rfl ?_);refine QS (GT (RS (OpOk.valO (ok_move rfl) (k:=1000200) (by decide) rfl) ?_));refine RS (ok_call (checkSize_fn l 45) (Args.cons rfl (Le.old _ _) (A1 rfl))) ?_;refine RZ (.int .i64 0) (congrArg (Value.int .i64) (szE_eq h)) ?_;refine RVN 1 rfl ?_;refine GT (RV 2 rfl ?_);refine RF ?_;refine RN (A.no rfl ?_);refine QK (GS (TN 1 (RVN 1 rfl ?_)));refine ZM 1000015 (fun B'=>ok_callB (front_fnB A₀ l.length m₀) newD_mono (A1 rfl)) rfl fun b15 ⟨hBb15,hb15⟩=>?_
 have hlt_b2_b15:=hb15 1000002 b2 _ _ rfl
 refine TL (RS (ok_makeFuncM rfl) ?_);refine RVN 1 rfl ?_;refine GS (TN 0 (RN ?_));refine ZN 1000006 zero57 fun b6 ⟨hBb6,hb6⟩=>?_
 have hlt_b2_b6:=hb6 1000002 b2 _ _ rfl
 refine TL (RN (GS (TF 1 (RVN 1 rfl ?_))));refine⟨_,Eff.upM (t:=18) (k:=1000211) rfl rfl (eff_callBR (n:=41) (s:=1000015) (us:=[ptr b15]) (ds:=[.v (nI ((1:Nat)))]) (cut_fnWR b15 (l.length) (m₀) 1 (A₀) (by omega) (by omega) (by omega)) (fun p hp=>by cases hp) rfl (A1 rfl) hBb15 rfl (by decide) (by decide) (LV 2 rfl (LV 5 rfl (LV 6 rfl (LT 1000002 rfl (LT 1000006 rfl (LO 1000200 rfl (LO 1000201 rfl (LO 1000202 rfl (LO 1000203 rfl (LO 1000211 rfl (LO 1000212 rfl (LO 1000213 rfl LN))))))))))))),?_⟩
 refine TF 5 (RS (ok_index (d:=byteD (pX l)) U23 info5 rfl LA rfl (by decide) (by cases l with|nil=>simp at h|cons a l=>rfl)) ?_);refine RS (ok_load U5 rfl rfl) ?_;refine Rf field57_0 ?_;refine RN ?_;refine⟨_,eff_storeS (n:=41) (s:=1000006) info5 rfl rfl rfl hBb6 rfl (by simp) (LB 1000002 rfl (LT 1000015 rfl (LO 1000200 rfl (LO 1000201 rfl (LO 1000202 rfl (LO 1000203 rfl (LO 1000211 rfl (LO 1000212 rfl (LO 1000213 rfl (LW [2,5,6] rfl)))))))))),?_⟩
 refine TL (RN (A.sub (KC 2 rfl (KC 5 rfl (KC 6 rfl (KC 1000002 rfl (KE 1000006 rfl (show _=blk b6 57 (recV (pX l) 0 0 zD) from by rfl) (KC 1000015 rfl (KC 1000200 rfl (KC 1000201 rfl (KC 1000202 rfl (KC 1000203 rfl (KC 1000211 rfl (KC 1000212 rfl (KC 1000213 rfl KN))))))))))))) ?_));refine GS (TF 1 (RVN 1 rfl ?_));refine⟨_,Eff.upM (t:=24) (k:=1000212) rfl rfl (eff_callBR (n:=41) (s:=1000015) (us:=[ptr b15]) (ds:=[.v (nI ((12:Nat)))]) (cut_fnWR b15 (l.length-1) (m₀-1) 12 (cutA (m₀) 1 (A₀)) (by omega) (by omega) (by omega)) (fun p hp=>by cases hp) rfl (A1 rfl) hBb15 rfl (by decide) (by decide) (LV 2 rfl (LV 5 rfl (LV 6 rfl (LT 1000002 rfl (LT 1000006 rfl (LO 1000200 rfl (LO 1000201 rfl (LO 1000202 rfl (LO 1000203 rfl (LO 1000211 rfl (LO 1000212 rfl (LO 1000213 rfl LN))))))))))))),?_⟩
 refine TF 7 (RS (ok_call (Get_fn (pN l)) (Args.cons rfl LA Args.nil)) ?_);refine RM rfl ?_;refine RS (ok_extract rfl rfl) ?_;refine RS (ok_extract rfl rfl) ?_;refine Rf field57_1 ?_;refine RN ?_;refine⟨_,eff_storeP (n:=41) (s:=1000006) (size55.of (rfl)) rfl rfl (rfl) hBb6 rfl (by rw[rec_len _ _ _ (t:=zD) rfl]; exact Nat.le_of_ble_eq_true rfl) (LB 1000002 rfl (LT 1000015 rfl (LO 1000200 rfl (LO 1000201 rfl (LO 1000202 rfl (LO 1000203 rfl (LO 1000211 rfl (LO 1000212 rfl (LO 1000213 rfl (LW [2,5,6] rfl)))))))))),?_⟩
 refine TL (RN (A.sub (KC 2 rfl (KC 5 rfl (KC 6 rfl (KC 1000002 rfl (KE 1000006 rfl (show _=blk b6 57 (recV (pX l) (gS (pN l)) (gC (pN l)) zD) from by rfl) (KC 1000015 rfl (KC 1000200 rfl (KC 1000201 rfl (KC 1000202 rfl (KC 1000203 rfl (KC 1000211 rfl (KC 1000212 rfl (KC 1000213 rfl KN))))))))))))) ?_));refine GS (TF 1 (RVN 1 rfl ?_));refine⟨_,Eff.upM (t:=30) (k:=1000213) rfl rfl (eff_callBR (n:=41) (s:=1000015) (us:=[ptr b15]) (ds:=[.v (nI ((32:Nat)))]) (cut_fnWR b15 (l.length-1-12) (m₀-1-12) 32 (cutA (m₀-1) 12 (cutA (m₀) 1 (A₀))) (by omega) (by omega) (by omega)) (fun p hp=>by cases hp) rfl (A1 rfl) hBb15 rfl (by decide) (by decide) (LV 2 rfl (LV 6 rfl (LT 1000002 rfl (LT 1000006 rfl (LO 1000200 rfl (LO 1000201 rfl (LO 1000202 rfl (LO 1000203 rfl (LO 1000211 rfl (LO 1000212 rfl (LO 1000213 rfl LN)))))))))))),?_⟩
 refine TF 5 (RS (ok_arrayB (pT l) (by rw[pT_len h]; exact U32) rfl LA (by rw[pT_len h]; decide)) ?_);refine RS (ok_loadB U32 rfl (size32.of (pT_len h)) rfl) ?_;refine Rf field57_2 ?_;refine RN ?_;refine⟨_,eff_storeP (n:=41) (s:=1000006) (size32.of (by rw[List.length_map,pT_len h])) rfl rfl (all_byte _) hBb6 rfl (by simp[recV,zD,pT_len h]) (LB 1000002 rfl (LT 1000015 rfl (LO 1000200 rfl (LO 1000201 rfl (LO 1000202 rfl (LO 1000203 rfl (LO 1000211 rfl (LO 1000212 rfl (LO 1000213 rfl (LW [2,6] rfl)))))))))),?_⟩
 refine TL (RN (A.sub (KC 2 rfl (KC 6 rfl (KC 1000002 rfl (KE 1000006 rfl (show _=blk b6 57 (recV (pX l) (gS (pN l)) (gC (pN l)) (pT l)) from congrArg _ (rec_set3 _ _ _ (pT_len h) (t':=zD) rfl)) (KC 1000015 rfl (KC 1000200 rfl (KC 1000201 rfl (KC 1000202 rfl (KC 1000203 rfl (KC 1000211 rfl (KC 1000212 rfl (KC 1000213 rfl KN)))))))))))) ?_));refine QS (GT (RL 1000006 U57 rfl rfl (size57.of (rec_len _ _ _ (pT_len h))) ?_));refine RS (ok_call (CheckR_fn (pX l) (gS (pN l)) (gC (pN l)) (pT l) (pT_len h)) (A1 rfl)) ?_;refine RZ (.int .i64 1) (congrArg (Value.int .i64) (ckR_bad hb)) ?_;refine RVN 1 rfl ?_;refine GT (RV 2 rfl ?_);refine RT ?_;refine RN (A.yes rfl ?_);refine GS (TF 2 (RS (ok_lit [] ([.int .u8 0]++[.int .u32 0]++[.int .u64 0]++List.replicate 32 (.int .u8 0)) (fun _ _=>rfl) (by kernel_rfl)) ?_));refine RVN 1 rfl ?_;refine ZA 1000002 (size57.of rfl) hBb2 rfl rfl rfl (LB 1000006 rfl (LT 1000015 rfl (LO 1000200 rfl (LO 1000201 rfl (LO 1000202 rfl (LO 1000203 rfl (LO 1000211 rfl (LO 1000212 rfl (LO 1000213 rfl (LW [2,39] rfl)))))))))) ?_;refine TL (RVN 1 rfl ?_);refine A.ret (End.ret_then ?_);exact End.cellV (s:=1000002) rfl U57 rfl (size57.of (rfl)) rfl rfl rfl
set_option maxHeartbeats 1000000 in
theorem GetRecord_ok(l:List UInt8)(h:l.length=45)(hb:¬ BadR (pX l) (gS (pN l)) (gC (pN l)) (pT l)): Fn Tryz.prog 133 [byt l] (.v (.tuple #[aggV (recV (pX l) (gS (pN l)) (gC (pN l)) (pT l)),.int .i64 0])):=by
 refine Fn.of Tryz.func133 rfl (by kernel_rfl) Tryz.ntmps133 (by simp) (fun w=>[(0,old w.heap.size (byt l))]) (fun w=>(Start.old rfl Start.nil)) fun w₀=>?_
 refine A.nameC (t:=0) (k:=1000200) rfl fun A₀ m₀ hm1 hm2=>?_
 refine A.cut (k₀:=1000200) (k₁:=1000211) (k₂:=1000201) (i:=1) rfl (by omega) ?_;refine A.cut (k₀:=1000201) (k₁:=1000212) (k₂:=1000202) (i:=12) rfl (by omega) ?_;refine A.cut (k₀:=1000202) (k₁:=1000213) (k₂:=1000203) (i:=32) rfl (by omega) ?_;refine GS (TN 0 (RN ?_));refine ZN 1000002 zero57 fun b2 ⟨hBb2,hb2⟩=>?_
 refine TL (RVN 1 rfl ?_);refine QS (GT (RS (OpOk.valO (ok_move rfl) (k:=1000200) (by decide) rfl) ?_));refine RS (ok_call (checkSize_fn l 45) (Args.cons rfl (Le.old _ _) (A1 rfl))) ?_;refine RZ (.int .i64 0) (congrArg (Value.int .i64) (szE_eq h)) ?_;refine RVN 1 rfl ?_;refine GT (RV 2 rfl ?_);refine RF ?_;refine RN (A.no rfl ?_);refine QK (GS (TN 1 (RVN 1 rfl ?_)));refine ZM 1000015 (fun B'=>ok_callB (front_fnB A₀ l.length m₀) newD_mono (A1 rfl)) rfl fun b15 ⟨hBb15,hb15⟩=>?_
 have hlt_b2_b15:=hb15 1000002 b2 _ _ rfl
 refine TL (RS (ok_makeFuncM rfl) ?_);refine RVN 1 rfl ?_;refine GS (TN 0 (RN ?_));refine ZN 1000006 zero57 fun b6 ⟨hBb6,hb6⟩=>?_
 have hlt_b2_b6:=hb6 1000002 b2 _ _ rfl
 refine TL (RN (GS (TF 1 (RVN 1 rfl ?_))));refine⟨_,Eff.upM (t:=18) (k:=1000211) rfl rfl (eff_callBR (n:=41) (s:=1000015) (us:=[ptr b15]) (ds:=[.v (nI ((1:Nat)))]) (cut_fnWR b15 (l.length) (m₀) 1 (A₀) (by omega) (by omega) (by omega)) (fun p hp=>by cases hp) rfl (A1 rfl) hBb15 rfl (by decide) (by decide) (LV 2 rfl (LV 5 rfl (LV 6 rfl (LT 1000002 rfl (LT 1000006 rfl (LO 1000200 rfl (LO 1000201 rfl (LO 1000202 rfl (LO 1000203 rfl (LO 1000211 rfl (LO 1000212 rfl (LO 1000213 rfl LN))))))))))))),?_⟩
 refine TF 5 (RS (ok_index (d:=byteD (pX l)) U23 info5 rfl LA rfl (by decide) (by cases l with|nil=>simp at h|cons a l=>rfl)) ?_);refine RS (ok_load U5 rfl rfl) ?_;refine Rf field57_0 ?_;refine RN ?_;refine⟨_,eff_storeS (n:=41) (s:=1000006) info5 rfl rfl rfl hBb6 rfl (by simp) (LB 1000002 rfl (LT 1000015 rfl (LO 1000200 rfl (LO 1000201 rfl (LO 1000202 rfl (LO 1000203 rfl (LO 1000211 rfl (LO 1000212 rfl (LO 1000213 rfl (LW [2,5,6] rfl)))))))))),?_⟩
 refine TL (RN (A.sub (KC 2 rfl (KC 5 rfl (KC 6 rfl (KC 1000002 rfl (KE 1000006 rfl (show _=blk b6 57 (recV (pX l) 0 0 zD) from by rfl) (KC 1000015 rfl (KC 1000200 rfl (KC 1000201 rfl (KC 1000202 rfl (KC 1000203 rfl (KC 1000211 rfl (KC 1000212 rfl (KC 1000213 rfl KN))))))))))))) ?_));refine GS (TF 1 (RVN 1 rfl ?_));refine⟨_,Eff.upM (t:=24) (k:=1000212) rfl rfl (eff_callBR (n:=41) (s:=1000015) (us:=[ptr b15]) (ds:=[.v (nI ((12:Nat)))]) (cut_fnWR b15 (l.length-1) (m₀-1) 12 (cutA (m₀) 1 (A₀)) (by omega) (by omega) (by omega)) (fun p hp=>by cases hp) rfl (A1 rfl) hBb15 rfl (by decide) (by decide) (LV 2 rfl (LV 5 rfl (LV 6 rfl (LT 1000002 rfl (LT 1000006 rfl (LO 1000200 rfl (LO 1000201 rfl (LO 1000202 rfl (LO 1000203 rfl (LO 1000211 rfl (LO 1000212 rfl (LO 1000213 rfl LN))))))))))))),?_⟩
 refine TF 7 (RS (ok_call (Get_fn (pN l)) (Args.cons rfl LA Args.nil)) ?_);refine RM rfl ?_;refine RS (ok_extract rfl rfl) ?_;refine RS (ok_extract rfl rfl) ?_;refine Rf field57_1 ?_;refine RN ?_;refine⟨_,eff_storeP (n:=41) (s:=1000006) (size55.of (rfl)) rfl rfl (rfl) hBb6 rfl (by rw[rec_len _ _ _ (t:=zD) rfl]; exact Nat.le_of_ble_eq_true rfl) (LB 1000002 rfl (LT 1000015 rfl (LO 1000200 rfl (LO 1000201 rfl (LO 1000202 rfl (LO 1000203 rfl (LO 1000211 rfl (LO 1000212 rfl (LO 1000213 rfl (LW [2,5,6] rfl)))))))))),?_⟩
 refine TL (RN (A.sub (KC 2 rfl (KC 5 rfl (KC 6 rfl (KC 1000002 rfl (KE 1000006 rfl (show _=blk b6 57 (recV (pX l) (gS (pN l)) (gC (pN l)) zD) from by rfl) (KC 1000015 rfl (KC 1000200 rfl (KC 1000201 rfl (KC 1000202 rfl (KC 1000203 rfl (KC 1000211 rfl (KC 1000212 rfl (KC 1000213 rfl KN))))))))))))) ?_));refine GS (TF 1 (RVN 1 rfl ?_));refine⟨_,Eff.upM (t:=30) (k:=1000213) rfl rfl (eff_callBR (n:=41) (s:=1000015) (us:=[ptr b15]) (ds:=[.v (nI ((32:Nat)))]) (cut_fnWR b15 (l.length-1-12) (m₀-1-12) 32 (cutA (m₀-1) 12 (cutA (m₀) 1 (A₀))) (by omega) (by omega) (by omega)) (fun p hp=>by cases hp) rfl (A1 rfl) hBb15 rfl (by decide) (by decide) (LV 2 rfl (LV 6 rfl (LT 1000002 rfl (LT 1000006 rfl (LO 1000200 rfl (LO 1000201 rfl (LO 1000202 rfl (LO 1000203 rfl (LO 1000211 rfl (LO 1000212 rfl (LO 1000213 rfl LN)))))))))))),?_⟩
 refine TF 5 (RS (ok_arrayB (pT l) (by rw[pT_len h]; exact U32) rfl LA (by rw[pT_len h]; decide)) ?_);refine RS (ok_loadB U32 rfl (size32.of (pT_len h)) rfl) ?_;refine Rf field57_2 ?_;refine RN ?_;refine⟨_,eff_storeP (n:=41) (s:=1000006) (size32.of (by rw[List.length_map,pT_len h])) rfl rfl (all_byte _) hBb6 rfl (by simp[recV,zD,pT_len h]) (LB 1000002 rfl (LT 1000015 rfl (LO 1000200 rfl (LO 1000201 rfl (LO 1000202 rfl (LO 1000203 rfl (LO 1000211 rfl (LO 1000212 rfl (LO 1000213 rfl (LW [2,6] rfl)))))))))),?_⟩
 refine TL (RN (A.sub (KC 2 rfl (KC 6 rfl (KC 1000002 rfl (KE 1000006 rfl (show _=blk b6 57 (recV (pX l) (gS (pN l)) (gC (pN l)) (pT l)) from congrArg _ (rec_set3 _ _ _ (pT_len h) (t':=zD) rfl)) (KC 1000015 rfl (KC 1000200 rfl (KC 1000201 rfl (KC 1000202 rfl (KC 1000203 rfl (KC 1000211 rfl (KC 1000212 rfl (KC 1000213 rfl KN)))))))))))) ?_));refine QS (GT (RL 1000006 U57 rfl rfl (size57.of (rec_len _ _ _ (pT_len h))) ?_));refine RS (ok_call (CheckR_fn (pX l) (gS (pN l)) (gC (pN l)) (pT l) (pT_len h)) (A1 rfl)) ?_;refine RZ (.int .i64 0) (congrArg (Value.int .i64) (ckR_ok hb)) ?_;refine RVN 1 rfl ?_;refine GT (RV 2 rfl ?_);refine RF ?_;refine RN (A.no rfl ?_);refine QK (GS (TF 1 (RL 1000006 U57 rfl rfl (size57.of (rec_len _ _ _ (pT_len h))) ?_)));refine RN ?_;refine⟨_,eff_storeA (n:=41) (s:=1000002) (size57.of (rec_len _ _ _ (pT_len h))) rfl rfl (rec_one _ _ _ _) hBb2 rfl (by rw[rec_len _ _ _ (pT_len h)]; rfl) (LV 2 rfl (LB 1000006 rfl (LT 1000015 rfl (LO 1000200 rfl (LO 1000201 rfl (LO 1000202 rfl (LO 1000203 rfl (LO 1000211 rfl (LO 1000212 rfl (LO 1000213 rfl LN)))))))))),?_⟩
 refine TL (RVN 1 rfl ?_);refine A.ret ?_;exact End.cellV (s:=1000002) rfl U57 rfl (size57.of (rec_len _ _ _ (pT_len h))) rfl rfl rfl
set_option maxHeartbeats 1000000 in
theorem GetEntry_bad(l:List UInt8)(h:l.length=33)(hb:BadE (pX l) (pD l)): Fn Tryz.prog 135 [byt l] (.v (.tuple #[aggV (entV 0 zD),.int .i64 1])):=by
 refine Fn.of Tryz.func135 rfl (by kernel_rfl) Tryz.ntmps135 (by simp) (fun w=>[(0,old w.heap.size (byt l))]) (fun w=>(Start.old rfl Start.nil)) fun w₀=>?_
 refine A.nameC (t:=0) (k:=1000200) rfl fun A₀ m₀ hm1 hm2=>?_
 refine A.cut (k₀:=1000200) (k₁:=1000211) (k₂:=1000201) (i:=1) rfl (by omega) ?_;refine A.cut (k₀:=1000201) (k₁:=1000212) (k₂:=1000202) (i:=32) rfl (by omega) ?_;refine GS (TN 0 (RN ?_));refine ZN 1000002 zero69 fun b2 ⟨hBb2,hb2⟩=>?_
 refine TL (RVN 1 rfl ?_);refine QS (GT (RS (OpOk.valO (ok_move rfl) (k:=1000200) (by decide) rfl) ?_));refine RS (ok_call (checkSize_fn l 33) (Args.cons rfl (Le.old _ _) (A1 rfl))) ?_;refine RZ (.int .i64 0) (congrArg (Value.int .i64) (szE_eq h)) ?_;refine RVN 1 rfl ?_;refine GT (RV 2 rfl ?_);refine RF ?_;refine RN (A.no rfl ?_);refine QK (GS (TN 1 (RVN 1 rfl ?_)));refine ZM 1000015 (fun B'=>ok_callB (front_fnB A₀ l.length m₀) newD_mono (A1 rfl)) rfl fun b15 ⟨hBb15,hb15⟩=>?_
 have hlt_b2_b15:=hb15 1000002 b2 _ _ rfl
 refine TL (RS (ok_makeFuncM rfl) ?_);refine RVN 1 rfl ?_;refine GS (TN 0 (RN ?_));refine ZN 1000006 zero69 fun b6 ⟨hBb6,hb6⟩=>?_
 have hlt_b2_b6:=hb6 1000002 b2 _ _ rfl
 refine TL (RN (GS (TF 1 (RVN 1 rfl ?_))));refine⟨_,Eff.upM (t:=18) (k:=1000211) rfl rfl (eff_callBR (n:=34) (s:=1000015) (us:=[ptr b15]) (ds:=[.v (nI ((1:Nat)))]) (cut_fnWR b15 (l.length) (m₀) 1 (A₀) (by omega) (by omega) (by omega)) (fun p hp=>by cases hp) rfl (A1 rfl) hBb15 rfl (by decide) (by decide) (LV 2 rfl (LV 5 rfl (LV 6 rfl (LT 1000002 rfl (LT 1000006 rfl (LO 1000200 rfl (LO 1000201 rfl (LO 1000202 rfl (LO 1000211 rfl (LO 1000212 rfl LN))))))))))),?_⟩
 refine TF 5 (RS (ok_index (d:=byteD (pX l)) U23 info5 rfl LA rfl (by decide) (by cases l with|nil=>simp at h|cons a l=>rfl)) ?_);refine RS (ok_load U5 rfl rfl) ?_;refine Rf field69_0 ?_;refine RN ?_;refine⟨_,eff_storeS (n:=34) (s:=1000006) info5 rfl rfl rfl hBb6 rfl (by simp) (LB 1000002 rfl (LT 1000015 rfl (LO 1000200 rfl (LO 1000201 rfl (LO 1000202 rfl (LO 1000211 rfl (LO 1000212 rfl (LW [2,5,6] rfl)))))))),?_⟩
 refine TL (RN (A.sub (KC 2 rfl (KC 5 rfl (KC 6 rfl (KC 1000002 rfl (KE 1000006 rfl (show _=blk b6 69 (entV (pX l) zD) from by rfl) (KC 1000015 rfl (KC 1000200 rfl (KC 1000201 rfl (KC 1000202 rfl (KC 1000211 rfl (KC 1000212 rfl KN))))))))))) ?_));refine GS (TF 1 (RVN 1 rfl ?_));refine⟨_,Eff.upM (t:=23) (k:=1000212) rfl rfl (eff_callBR (n:=34) (s:=1000015) (us:=[ptr b15]) (ds:=[.v (nI ((32:Nat)))]) (cut_fnWR b15 (l.length-1) (m₀-1) 32 (cutA (m₀) 1 (A₀)) (by omega) (by omega) (by omega)) (fun p hp=>by cases hp) rfl (A1 rfl) hBb15 rfl (by decide) (by decide) (LV 2 rfl (LV 6 rfl (LT 1000002 rfl (LT 1000006 rfl (LO 1000200 rfl (LO 1000201 rfl (LO 1000202 rfl (LO 1000211 rfl (LO 1000212 rfl LN)))))))))),?_⟩
 refine TF 5 (RS (ok_arrayB (pD l) (by rw[pD_len h]; exact U32) rfl LA (by rw[pD_len h]; decide)) ?_);refine RS (ok_loadB U32 rfl (size32.of (pD_len h)) rfl) ?_;refine Rf field69_1 ?_;refine RN ?_;refine⟨_,eff_storeP (n:=34) (s:=1000006) (size32.of (by rw[List.length_map,pD_len h])) rfl rfl (all_byte _) hBb6 rfl (by simp[entV,zD,pD_len h]) (LB 1000002 rfl (LT 1000015 rfl (LO 1000200 rfl (LO 1000201 rfl (LO 1000202 rfl (LO 1000211 rfl (LO 1000212 rfl (LW [2,6] rfl)))))))),?_⟩
 refine TL (RN (A.sub (KC 2 rfl (KC 6 rfl (KC 1000002 rfl (KE 1000006 rfl (show _=blk b6 69 (entV (pX l) (pD l)) from congrArg _ (ent_set1 _ (pD_len h) (t':=zD) rfl)) (KC 1000015 rfl (KC 1000200 rfl (KC 1000201 rfl (KC 1000202 rfl (KC 1000211 rfl (KC 1000212 rfl KN)))))))))) ?_));refine QS (GT (RL 1000006 U69 rfl rfl (size69.of (ent_len _ (pD_len h))) ?_));refine RS (ok_call (CheckE_fn (pX l) (pD l) (pD_len h)) (A1 rfl)) ?_;refine RZ (.int .i64 1) (congrArg (Value.int .i64) (ckE_bad hb)) ?_;refine RVN 1 rfl ?_;refine GT (RV 2 rfl ?_);refine RT ?_;refine RN (A.yes rfl ?_);refine GS (TF 2 (RS (ok_lit [] ([.int .u8 0]++List.replicate 32 (.int .u8 0)) (fun _ _=>rfl) (by kernel_rfl)) ?_));refine RVN 1 rfl ?_;refine ZA 1000002 (size69.of rfl) hBb2 rfl rfl rfl (LB 1000006 rfl (LT 1000015 rfl (LO 1000200 rfl (LO 1000201 rfl (LO 1000202 rfl (LO 1000211 rfl (LO 1000212 rfl (LW [2,32] rfl)))))))) ?_;refine TL (RVN 1 rfl ?_);refine A.ret (End.ret_then ?_);exact End.cellV (s:=1000002) rfl U69 rfl (size69.of (rfl)) rfl rfl rfl
set_option maxHeartbeats 1000000 in
theorem GetEntry_ok(l:List UInt8)(h:l.length=33)(hb:¬ BadE (pX l) (pD l)): Fn Tryz.prog 135 [byt l] (.v (.tuple #[aggV (entV (pX l) (pD l)),.int .i64 0])):=by
 refine Fn.of Tryz.func135 rfl (by kernel_rfl) Tryz.ntmps135 (by simp) (fun w=>[(0,old w.heap.size (byt l))]) (fun w=>(Start.old rfl Start.nil)) fun w₀=>?_
 refine A.nameC (t:=0) (k:=1000200) rfl fun A₀ m₀ hm1 hm2=>?_
 refine A.cut (k₀:=1000200) (k₁:=1000211) (k₂:=1000201) (i:=1) rfl (by omega) ?_;refine A.cut (k₀:=1000201) (k₁:=1000212) (k₂:=1000202) (i:=32) rfl (by omega) ?_;refine GS (TN 0 (RN ?_));refine ZN 1000002 zero69 fun b2 ⟨hBb2,hb2⟩=>?_
 refine TL (RVN 1 rfl ?_);refine QS (GT (RS (OpOk.valO (ok_move rfl) (k:=1000200) (by decide) rfl) ?_));refine RS (ok_call (checkSize_fn l 33) (Args.cons rfl (Le.old _ _) (A1 rfl))) ?_;refine RZ (.int .i64 0) (congrArg (Value.int .i64) (szE_eq h)) ?_;refine RVN 1 rfl ?_;refine GT (RV 2 rfl ?_);refine RF ?_;refine RN (A.no rfl ?_);refine QK (GS (TN 1 (RVN 1 rfl ?_)));refine ZM 1000015 (fun B'=>ok_callB (front_fnB A₀ l.length m₀) newD_mono (A1 rfl)) rfl fun b15 ⟨hBb15,hb15⟩=>?_
 have hlt_b2_b15:=hb15 1000002 b2 _ _ rfl
 refine TL (RS (ok_makeFuncM rfl) ?_);refine RVN 1 rfl ?_;refine GS (TN 0 (RN ?_));refine ZN 1000006 zero69 fun b6 ⟨hBb6,hb6⟩=>?_
 have hlt_b2_b6:=hb6 1000002 b2 _ _ rfl
 refine TL (RN (GS (TF 1 (RVN 1 rfl ?_))));refine⟨_,Eff.upM (t:=18) (k:=1000211) rfl rfl (eff_callBR (n:=34) (s:=1000015) (us:=[ptr b15]) (ds:=[.v (nI ((1:Nat)))]) (cut_fnWR b15 (l.length) (m₀) 1 (A₀) (by omega) (by omega) (by omega)) (fun p hp=>by cases hp) rfl (A1 rfl) hBb15 rfl (by decide) (by decide) (LV 2 rfl (LV 5 rfl (LV 6 rfl (LT 1000002 rfl (LT 1000006 rfl (LO 1000200 rfl (LO 1000201 rfl (LO 1000202 rfl (LO 1000211 rfl (LO 1000212 rfl LN))))))))))),?_⟩
 refine TF 5 (RS (ok_index (d:=byteD (pX l)) U23 info5 rfl LA rfl (by decide) (by cases l with|nil=>simp at h|cons a l=>rfl)) ?_);refine RS (ok_load U5 rfl rfl) ?_;refine Rf field69_0 ?_;refine RN ?_;refine⟨_,eff_storeS (n:=34) (s:=1000006) info5 rfl rfl rfl hBb6 rfl (by simp) (LB 1000002 rfl (LT 1000015 rfl (LO 1000200 rfl (LO 1000201 rfl (LO 1000202 rfl (LO 1000211 rfl (LO 1000212 rfl (LW [2,5,6] rfl)))))))),?_⟩
 refine TL (RN (A.sub (KC 2 rfl (KC 5 rfl (KC 6 rfl (KC 1000002 rfl (KE 1000006 rfl (show _=blk b6 69 (entV (pX l) zD) from by rfl) (KC 1000015 rfl (KC 1000200 rfl (KC 1000201 rfl (KC 1000202 rfl (KC 1000211 rfl (KC 1000212 rfl KN))))))))))) ?_));refine GS (TF 1 (RVN 1 rfl ?_));refine⟨_,Eff.upM (t:=23) (k:=1000212) rfl rfl (eff_callBR (n:=34) (s:=1000015) (us:=[ptr b15]) (ds:=[.v (nI ((32:Nat)))]) (cut_fnWR b15 (l.length-1) (m₀-1) 32 (cutA (m₀) 1 (A₀)) (by omega) (by omega) (by omega)) (fun p hp=>by cases hp) rfl (A1 rfl) hBb15 rfl (by decide) (by decide) (LV 2 rfl (LV 6 rfl (LT 1000002 rfl (LT 1000006 rfl (LO 1000200 rfl (LO 1000201 rfl (LO 1000202 rfl (LO 1000211 rfl (LO 1000212 rfl LN)))))))))),?_⟩
 refine TF 5 (RS (ok_arrayB (pD l) (by rw[pD_len h]; exact U32) rfl LA (by rw[pD_len h]; decide)) ?_);refine RS (ok_loadB U32 rfl (size32.of (pD_len h)) rfl) ?_;refine Rf field69_1 ?_;refine RN ?_;refine⟨_,eff_storeP (n:=34) (s:=1000006) (size32.of (by rw[List.length_map,pD_len h])) rfl rfl (all_byte _) hBb6 rfl (by simp[entV,zD,pD_len h]) (LB 1000002 rfl (LT 1000015 rfl (LO 1000200 rfl (LO 1000201 rfl (LO 1000202 rfl (LO 1000211 rfl (LO 1000212 rfl (LW [2,6] rfl)))))))),?_⟩
 refine TL (RN (A.sub (KC 2 rfl (KC 6 rfl (KC 1000002 rfl (KE 1000006 rfl (show _=blk b6 69 (entV (pX l) (pD l)) from congrArg _ (ent_set1 _ (pD_len h) (t':=zD) rfl)) (KC 1000015 rfl (KC 1000200 rfl (KC 1000201 rfl (KC 1000202 rfl (KC 1000211 rfl (KC 1000212 rfl KN)))))))))) ?_));refine QS (GT (RL 1000006 U69 rfl rfl (size69.of (ent_len _ (pD_len h))) ?_));refine RS (ok_call (CheckE_fn (pX l) (pD l) (pD_len h)) (A1 rfl)) ?_;refine RZ (.int .i64 0) (congrArg (Value.int .i64) (ckE_ok hb)) ?_;refine RVN 1 rfl ?_;refine GT (RV 2 rfl ?_);refine RF ?_;refine RN (A.no rfl ?_);refine QK (GS (TF 1 (RL 1000006 U69 rfl rfl (size69.of (ent_len _ (pD_len h))) ?_)));refine RN ?_;refine⟨_,eff_storeA (n:=34) (s:=1000002) (size69.of (ent_len _ (pD_len h))) rfl rfl (ent_one _ _) hBb2 rfl (by rw[ent_len _ (pD_len h)]; rfl) (LV 2 rfl (LB 1000006 rfl (LT 1000015 rfl (LO 1000200 rfl (LO 1000201 rfl (LO 1000202 rfl (LO 1000211 rfl (LO 1000212 rfl LN)))))))),?_⟩
 refine TL (RVN 1 rfl ?_);refine A.ret ?_;exact End.cellV (s:=1000002) rfl U69 rfl (size69.of (ent_len _ (pD_len h))) rfl rfl rfl
theorem Slot_none(x:UInt8)(h:x.toNat=0): Fn Tryz.prog 69 [.v (byteV x)] (.v (.tuple #[.int .i64 0,.int .i64 11])):=by
 refine FV Tryz.func69 rfl Tryz.ntmps69 rfl fun w₀=>?_
 refine GV rfl (QSB (GT (RV 2 rfl ?_)));refine RZ (.bool true) (by simp[h]) ?_;refine RVN 1 rfl ?_;refine A.yes rfl ?_;refine GV rfl (A.ret (End.ret_block (End.ret_then ?_)));exact End.ret2V rfl rfl rfl
theorem Slot_ok(x:UInt8)(h:1<=x.toNat)(h2:x.toNat<=2): Fn Tryz.prog 69 [.v (byteV x)] (.v (.tuple #[nI (x.toNat-1),.int .i64 0])):=by
 refine FV Tryz.func69 rfl Tryz.ntmps69 rfl fun w₀=>?_
 refine GV rfl (QSB (GT (RV 2 rfl ?_)));refine RZ (.bool false) (by simp; omega) ?_;refine RVN 1 rfl ?_;refine A.no rfl ?_;refine GT (RV 2 rfl ?_);refine RZ (.bool false) (by simp; omega) ?_;refine RVN 1 rfl ?_;refine A.no rfl ?_;refine A.skip (End.normal_block (EN (GT (RM rfl ?_))));refine RS (ok_conv U5 U3 rfl) ?_;refine RZ (nI (x.toNat)) (by rw[wrapN_i64 (by omega)]) ?_;refine RB rfl rfl rfl ?_;refine RZ (nI (x.toNat-1)) (by rw[wrap_i64 (by omega) (by omega)]; exact congrArg (Value.int .i64) (by omega)) ?_;refine RVN 2 rfl ?_;refine A.ret ?_;exact End.ret2V rfl rfl rfl
section
variable {κ:Cx}
theorem Surv.valM{T:Nat}{f:D}{v:Value}(h:Surv B T g f): Surv B T g (Go.Proofs.YtjigbkamgfidkaaGreatDoor.valM v f):=fun w w' _ k hx=>h w w' v k hx
end
section
variable {κ:Cx}
def ownP (base:Nat) (e:TypeId) (sz n:Nat) (xs:List Value):D :=
 .p (fun B w x=>w.ownsRow base e sz x n xs∧∀ g,x.ownBlock=some g->g<B)
  (fun B w w' x g ⟨h1,h2⟩=>⟨by
   obtain⟨h3,h4⟩:=h1
   refine⟨h3,h4.imp id ?_⟩
   rintro ⟨k,cap,cur,rfl,hk,hh,hr⟩
   exact⟨k,cap,cur,rfl,hk,(g.block k (h2 k (by simp[Value.ownBlock]))).trans hh,hr⟩,h2⟩)
  (fun _ _ _ _ g ⟨h1,h2⟩=>⟨h1,fun k hk=>Nat.lt_of_lt_of_le (h2 k hk) g⟩)
theorem ownP_nil{sz:Nat}{e:TypeId}: Le (.v (.slice none 0 0)) (ownP B e sz 0 []):=fun _ _ _ h=>by
 have h:_=_:=h
 subst h
 exact⟨⟨by simp,.inl ⟨rfl,rfl⟩⟩,fun g hg=>by simp[Value.ownBlock] at hg⟩
theorem Surv.ownP{T base sz:Nat}{e:TypeId}(h:e≠T): Surv B T g (Go.Proofs.YtjigbkamgfidkaaGreatDoor.ownP base e sz n xs):=fun w w' x k ⟨h1,h2⟩=>by
 obtain⟨h3,h4⟩:=h1
 refine⟨⟨h3,h4.imp id ?_⟩,fun j hj=>Nat.lt_of_lt_of_le (h2 j hj) k.size⟩
 rintro ⟨j,cap,cur,rfl,hj,hh,hr⟩
 refine⟨j,cap,cur,rfl,hj,?_,hr⟩
 by_cases hjg:j=g
 ·subst hjg; exact absurd (k.row _ _ _ hh) h
 ·rw[k.other j (h2 j (by simp[Value.ownBlock])) hjg]; exact hh
def InfoP (P:Program) (e:TypeId) (z:Value) (sz nb:Nat):Prop:=(P.info? e).map (fun i=>(i.zero,i.size,i.bytes))=some (some z,sz,nb)
theorem InfoP.get{e:TypeId}{z:Value}{sz:Nat}(h:InfoP P e z sz nb): ∃ i,P.info? e=some i∧i.zero=some z∧i.size=sz∧i.bytes=nb:=by
 unfold InfoP at h
 cases hi:P.info? e with
 | none=>rw[hi] at h; cases h
 | some i =>
  rw[hi] at h
  simp only[Option.map_some,Option.some.injEq,Prod.mk.injEq] at h
  exact⟨i,rfl,h.1,h.2.1,h.2.2⟩
def elemP (us:List Value):D :=
 .p (fun B w x=>∃ ad:Addr,x = .pointer (some ad)∧ad.block<B∧∀ (j:Nat) (u:Value),us[j]?=some u->w.cell? (ad.add j)=some u)
  (fun _ _ _ _ g ⟨ad,h1,h2,h3⟩=>⟨ad,h1,h2,fun j u hu=>(g.cell (by rw[block_of_add]; exact h2)).trans (h3 j u hu)⟩) (fun _ _ _ _ g ⟨ad,h1,h2,h3⟩=>⟨ad,h1,by omega,h3⟩)
def oneP (us:List Value):D :=
 .p (fun B w x=>∃ ad:Addr,x = .slice (some ad) 1 1∧ad.block<B∧∀ (j:Nat) (u:Value),us[j]?=some u->w.cell? (ad.add j)=some u)
  (fun _ _ _ _ g ⟨ad,h1,h2,h3⟩=>⟨ad,h1,h2,fun j u hu=>(g.cell (by rw[block_of_add]; exact h2)).trans (h3 j u hu)⟩) (fun _ _ _ _ g ⟨ad,h1,h2,h3⟩=>⟨ad,h1,by omega,h3⟩)
section
variable {P:Program} {B:Nat} {E:Env} {dst:Option Tmp} {ty:TypeId} {pos:String} {after:Array Edge} {guard:Option (Nat×Bool)}
theorem ok_lenP{t e e':TypeId}{x:Operand}{B' sz:Nat}(ht:P.underlying t=some (.slice e))(hx:E.at x=some (ownP B' e' sz m xs)):
  OpOk P B ⟨dst,.call { callee:=.builtin .len,args:=#[x],argTypes:=#[t] },ty,pos,after,guard⟩ E (.v (.int .i64 (m:Int))):=fun ρ w _ _ hρ=>by
 obtain⟨⟨_,h2⟩,_⟩:=hρ x (by simp[Op.operands,Call.operands]) _ hx
 rcases h2 with ⟨h3,h4⟩|⟨g,cap,cur,h3,_⟩
 ·subst h4
  exact out_val (w':=w) (by simp[execOp,resolve,invoke,builtin,Builtin.len_,run_underlying ht,h3,goInt]) ⟨Grow.refl w,rfl⟩
 ·exact out_val (w':=w) (by simp[execOp,resolve,invoke,builtin,Builtin.len_,run_underlying ht,h3,goInt]) ⟨Grow.refl w,rfl⟩
theorem ok_loadElemP{T:TypeId}{x:Operand}{us:List Value}(ht:P.underlying T=some td)(hp:(match td with | .struct _ | .array _ _=>true|_=>false)=true)(hsz:SizeIs P T us.length)(hx:E.at x=some (elemP us)):
  OpOk P B ⟨dst,.load T x,ty,pos,after,guard⟩ E (.v (aggV us)):=fun ρ w _ _ hρ=>by
 obtain⟨ad,h1,_,h3⟩:=hρ x (by simp[Op.operands]) _ hx
 have hagg:(isAgg T).run P w = .ok true w:=by
  unfold isAgg
  simp only[Sem.run_bind,run_underlying ht,Result.andThen_ok]
  cases td<;>simp_all
 have hc:=run_loadCells_list (P:=P) w ad us h3
 obtain⟨info,hinfo,hs⟩:=hsz.get
 exact out_val (x:=aggV us) (w':=w) (by simp[execOp,h1,Instr.loadAt,Instr.sureAddr,loadVar,hagg,sizeOf,typeInfo,hinfo,hs,hc,aggV]) ⟨Grow.refl w,rfl⟩
theorem ok_build1P{t e:TypeId}{z:Value}{x:Operand}{u₁ u₂:Value}(ht:P.underlying t=some (.slice e))(hs:InfoP P e z 2 nb)(hz:z.cells.size=2)(hx:E.at x=some (.v (aggV [u₁,u₂]))):
  OpOk P B ⟨dst,.buildSlice t 1 #[(0,x)],ty,pos,after,guard⟩ E (oneP [u₁,u₂]):=fun ρ w _ _ hρ=>by
 obtain⟨i,hi,hzv,hsize,_⟩:=hs.get
 have h1:ρ x=aggV [u₁,u₂]:=hρ x (by simp[Op.operands]) _ hx
 have hfill:Instr.fill (fun j=>some (j*i.size,i.size)) ((Array.range (1*i.size)).map (z.cells[·%z.cells.size]!)) [(0,ρ x)]=some #[u₁,u₂]:=by
  rw[hsize,h1,hz]
  have h2:((Array.range (1*2)).map fun y=>z.cells[y%2]!)=#[z.cells[0]!,z.cells[1]!]:=by
   rw[show Array.range (1*2)=#[0,1] from by decide]
   simp
  rw[h2]
  simp[Instr.fill,aggV,Value.cells]
 have hr:=run_buildSlice (P:=P) w t e 1 #[(0,ρ x)] #[u₁,u₂] i z ht hi hzv (by rw[hsize]; decide) (by rw[hsize]; decide) (by simpa using hfill)
 refine out_val (x:=.slice (some ⟨w.heap.size,0,none⟩) 1 1) (w':=w.alloc (.cells #[u₁,u₂] e)) (by simp[execOp,hr]) ⟨Grow.alloc w _,_,rfl,by simp,fun j u hu=>?_⟩
 have hh:(w.alloc (.cells #[u₁,u₂] e)).heap[w.heap.size]?=some (.cells #[u₁,u₂] e (0,0)):=heap_alloc_new w _
 rw[show(⟨w.heap.size,0,none⟩:Addr).add j=⟨w.heap.size,j,none⟩ from by unfold Addr.add; split<;>simp_all]
 simp only[World.cell?,hh]
 simpa using hu
end
section
variable {P:Program} {n B:Nat} {ops:Array Oper} {E:Env} {ty:TypeId} {pos:String} {after:Array Edge}
theorem eff_appendP{t e:TypeId}{z:Value}{sz:Nat}{r x:Operand}{dst:Nat}{us:List Value}(ht:P.underlying t=some (.slice e))(hinfo:InfoP P e z sz nb)(hsz:0<sz)(hnb:nb<=64)(hz1:z.cells.size=sz)
  (hr:E.at r=some (ownP B e sz k xs))(hx:E.at x=some (oneP us))(hu:us.length=sz)(h1:us.all (·.oneCell')=true)(hk:k<=1099511627776)(hdst:dst<n)(hl:∀ g,B<=g->LeftS B e g E' E):
  Eff P n B ops ⟨some dst,.call { callee:=.builtin .append,args:=#[r,x],argTypes:=#[t,t] },ty,pos,after,none⟩ E ((dst,ownP B e sz (k+1) (xs++us))::E'):=by
 obtain⟨i,hi,hz,hs,hby⟩:=hinfo.get
 intro κ a w K Q h hK
 obtain⟨hown,hob⟩:=h.at_ r _ hr
 obtain⟨ad,hxe,_,hcell⟩:=h.at_ x _ hx
 have hbb:(k+1)*i.bytes<=(k+1)*64:=Nat.mul_le_mul_left _ (by omega)
 obtain⟨v',w',hrun,h3,h4,_,h5⟩:=run_append_own_at (P:=P) w B t ty e i z sz i.bytes ht hi hz hs rfl hz1 hsz (a.eval r) k xs hown ad 1 1 us (by omega) hcell (fun u hu=>List.all_eq_true.1 h1 u hu) (by simp only[maxLen]; omega) (by omega) h.base
 have hexec:(execOp a.eval ⟨some dst,.call { callee:=.builtin .append,args:=#[r,x],argTypes:=#[t,t] },ty,pos,after,none⟩).run P w = .ok (.value v') w':=by
  simp[execOp,resolve,invoke,builtin,hxe,hrun]
 rw[if_pos (by simp[Region.wanted])]
 refine opR (by nofun) ?_
 unfold Oper.wp
 rw[hexec,Oper.upon_value]
 have hbase:∀ g,(a.eval r).ownBlock=some g->B<=g:=fun g hg=>by
  rcases hown.2 with ⟨hv,_⟩|⟨g',cap,cur,hv,hb,_⟩
  ·rw[hv] at hg; simp[Value.ownBlock] at hg
  ·rw[hv] at hg; simp[Value.ownBlock] at hg; omega
 have hbel:Below B w w':=(Below.refl B w).grown h4 h.base hbase
 have hlt:∀ g,v'.ownBlock=some g->g<w'.heap.size:=fun g hg=>by
  rcases h3.2 with ⟨hv,_⟩|⟨g',cap,cur,hv,_,hh,_⟩
  ·rw[hv] at hg; simp[Value.ownBlock] at hg
  ·rw[hv] at hg; simp[Value.ownBlock] at hg; subst hg
   rcases Nat.lt_or_ge g' w'.heap.size with h|h
   ·exact h
   ·rw[Array.getElem?_eq_none h] at hh; cases hh
 have hwr:∃ g,B<=g∧Wrote B e g w w':=by
  rcases hown.2 with ⟨hv,_⟩|⟨g',cap,cur,hv,hb,hh,_⟩
  ·refine⟨w.heap.size,h.base,h.base,h4.os,h4.tape,h4.output,h4.size,fun o hx=>?_,fun k hk _=>h4.block k hk (by rw[hv]; simp[Value.ownBlock])⟩
   rw[Array.getElem?_eq_none (Nat.le_refl _)] at hx; cases hx
  ·refine⟨g',hb,hb,h4.os,h4.tape,h4.output,h4.size,fun o hx=>?_,fun k hk hne=>h4.block k hk (by rw[hv]; simp[Value.ownBlock]; omega)⟩
   rw[hh] at hx; injection hx with hx; exact⟨_,_,hx.symm⟩
 obtain⟨g,hg,hwr⟩:=hwr
 exact hK _ _ hbel (((hl g hg).st h hwr).put hdst ⟨h3,hlt⟩)
end
theorem A.dup{c:Code}{Q:Exit->Act->World->Prop}{k':Nat}(hk:E.look k=some d)(hd:∀ B w x y,d.OfB B w x->d.OfB B w y)(h:A κ P w₀ n c ((k',d)::E) Q): A κ P w₀ n c E Q:=fun a w g hs=>h a w g (hs.push (t:=k') (d:=d) (hd _ _ _ _ (hs.of k _ hk)))
end
section
variable {κ:Cx}
def memR (A:Option Addr) (xs:List Value):D :=
 .p (fun B w _=>RowIn B w A xs) (fun _ _ _ _ g h j u hu=>by obtain⟨ad,h1,h2,h3⟩:=h j u hu; exact⟨ad,h1,h2,(g.cell (by rw[block_of_add]; exact h2)).trans h3⟩)
  (fun _ _ _ _ g h j u hu=>by obtain⟨ad,h1,h2,h3⟩:=h j u hu; exact⟨ad,h1,Nat.lt_of_lt_of_le h2 g,h3⟩)
def rowD (n:Nat) (xs:List Value):D :=
 .p (fun B w x=>∃ A c,x = .slice A n c∧RowIn B w A xs) (fun _ _ _ _ g ⟨A,c,h1,h2⟩=>⟨A,c,h1,D.OfB.keep (d:=memR A xs) (x:=undef) h2 g⟩) (fun _ _ _ _ g ⟨A,c,h1,h2⟩=>⟨A,c,h1,D.OfB.up (d:=memR A xs) (x:=undef) h2 g⟩)
section
variable {P:Program} {B:Nat} {E:Env} {dst:Option Tmp} {ty:TypeId} {pos:String} {after:Array Edge} {guard:Option (Nat×Bool)}
theorem ok_indexR{t e:TypeId}{z:Value}{sz:Nat}{x i:Operand}{A₀:Option Addr}{q B':Nat}{ki:IntKind}(m:Nat)(ht:P.underlying t=some (.slice e))(hs:InfoP P e z sz nb)(hx:E.at x=some (.v (.slice A₀ k q)))
  (hr:E.look s=some (old B' (memR A₀ xs)))(hsv:vbase<=s)(hi:E.at i=some (.v (.int ki (m:Int))))(hm:m<k)(hlt:m*sz<xs.length):
  OpOk P B ⟨dst,.indexAddr t x i,ty,pos,after,guard⟩ E (elemP ((xs.drop (m*sz)).take sz)):=fun ρ w _ hv hρ=>by
 have h1:ρ x = .slice A₀ k q:=hρ x (by simp[Op.operands]) _ hx
 have hi':ρ i = .int ki m:=hρ i (by simp[Op.operands]) _ hi
 obtain⟨hB,hrow⟩:=hv s _ hsv hr
 obtain⟨info,hinfo,_,hsize,_⟩:=hs.get
 obtain⟨ad,hA,hab,_⟩:=hrow (m*sz) _ (List.getElem?_eq_getElem hlt)
 subst hA
 refine out_val (x:=.pointer (some (ad.add (m*sz)))) (w':=w) ?_ ⟨Grow.refl w,_,rfl,by rw[block_of_add]; omega,fun j u hu=>?_⟩
 ·simp[execOp,h1,hi',Instr.indexAt,asIntOf,run_underlying ht,sizeOf,typeInfo,hinfo,hsize,hm]
 ·rw[List.getElem?_take] at hu
  split at hu
  ·rw[List.getElem?_drop] at hu
   obtain⟨ad',hA',_,h4⟩:=hrow (m*sz+j) u hu
   injection hA' with hA'; subst hA'
   rw[add_of_add]; exact h4
  ·cases hu
theorem ok_loadP1{T:TypeId}{x:Operand}{u:Value}{us:List Value}(ht:P.underlying T=some td)(hp:(match td with | .struct _ | .array _ _=>false|_=>true)=true)(hx:E.at x=some (elemP (u::us))):
  OpOk P B ⟨dst,.load T x,ty,pos,after,guard⟩ E (.v u):=fun ρ w _ _ hρ=>by
 obtain⟨ad,h1,_,h3⟩:=hρ x (by simp[Op.operands]) _ hx
 have hagg:(isAgg T).run P w = .ok false w:=by
  unfold isAgg
  simp only[Sem.run_bind,run_underlying ht,Result.andThen_ok]
  cases td<;>simp_all
 have hc:w.cell? ad=some u:=by have:=h3 0 u rfl; rwa [show ad.add 0=ad from by simp[Addr.add]] at this
 exact out_val (x:=u) (w':=w) (by simp[execOp,h1,Instr.loadAt,Instr.sureAddr,loadVar,hagg,hc]) ⟨Grow.refl w,rfl⟩
theorem fill_go(us:List Value): ∀ (ds pre:List Value),ds.length=us.length->((us.zipIdx pre.length).foldl (fun cs (x:Value×Nat)=>cs.setIfInBounds (0+x.2) x.1) (pre++ds).toArray)=(pre++us).toArray:=by
 induction us with
 | nil=>intro ds pre h; cases ds with
  | nil=>rfl
  | cons=>cases h
 | cons u us ih =>
  intro ds pre h
  cases ds with
  | nil=>cases h
  | cons d ds =>
   rw[List.zipIdx_cons,List.foldl_cons]
   have:=ih ds (pre++[u]) (by simpa using h)
   rw[show((pre++d::ds).toArray.setIfInBounds (0+pre.length) u)=((pre++[u])++ds).toArray from by
    rw[Nat.zero_add,List.setIfInBounds_toArray,List.set_append_right _ _ (Nat.le_refl _)]; simp]
   rw[show pre.length+1=(pre++[u]).length from by simp,this]; simp
theorem ok_build1K{t e:TypeId}{z:Value}{sz:Nat}{x:Operand}{us:List Value}(ht:P.underlying t=some (.slice e))(hs:InfoP P e z sz nb)(hz:z.cells.size=sz)(h0:sz<=65536)(hsz:0<sz)(hx:E.at x=some (.v (aggV us)))(hu:us.length=sz):
  OpOk P B ⟨dst,.buildSlice t 1 #[(0,x)],ty,pos,after,guard⟩ E (oneP us):=fun ρ w _ _ hρ=>by
 obtain⟨i,hi,hzv,hsize,_⟩:=hs.get
 have h1:ρ x=aggV us:=hρ x (by simp[Op.operands]) _ hx
 have hfill:Instr.fill (fun j=>some (j*i.size,i.size)) ((Array.range (1*i.size)).map (z.cells[·%z.cells.size]!)) [(0,ρ x)]=some us.toArray:=by
  have hlen:((Array.range (1*i.size)).map (z.cells[·%z.cells.size]!)).size=us.length:=by simp[hsize,hu]
  rw[h1]
  have hc:(aggV us).cells=us.toArray:=rfl
  unfold Instr.fill
  simp only[Nat.zero_mul]
  rw[hc,if_neg (by simp[hsize,hu])]
  have hg:=fill_go us ((Array.range (1*i.size)).map (z.cells[·%z.cells.size]!)).toList [] (by rw[Array.length_toList,hlen])
  simp only[List.nil_append,List.length_nil,Array.toArray_toList] at hg
  rw[show us.toArray.zipIdx.foldl (fun cs (x:Value×Nat)=>match x with|(c,j)=>cs.setIfInBounds (0+j) c) ((Array.range (1*i.size)).map (z.cells[·%z.cells.size]!))=us.toArray from by
   rw[<- Array.foldl_toList,Array.toList_zipIdx]; exact hg]
  rfl
 have hr:=run_buildSlice (P:=P) w t e 1 #[(0,ρ x)] us.toArray i z ht hi hzv (by rw[hsize]; omega) (by rw[hsize]; omega) (by simpa using hfill)
 refine out_val (x:=.slice (some ⟨w.heap.size,0,none⟩) 1 1) (w':=w.alloc (.cells us.toArray e)) (by simp[execOp,hr]) ⟨Grow.alloc w _,_,rfl,by simp,fun j u hu=>?_⟩
 have hh:(w.alloc (.cells us.toArray e)).heap[w.heap.size]?=some (.cells us.toArray e (0,0)):=heap_alloc_new w _
 rw[show(⟨w.heap.size,0,none⟩:Addr).add j=⟨w.heap.size,j,none⟩ from by unfold Addr.add; split<;>simp_all]
 simp only[World.cell?,hh]
 simpa using hu
theorem ok_makeK{t e:TypeId}{x y:Operand}{z:Value}{sz:Nat}{k k':IntKind}(c:Nat)(ht:P.underlying t=some (.slice e))(hinfo:InfoP P e z sz nb)(hnb:nb<=64)
  (hx:E.at x=some (.v (.int k (c:Int))))(hy:E.at y=some (.v (.int k' (c:Int))))(hc:c<=4398046511104):
  OpOk P B ⟨dst,.makeSlice t x y,ty,pos,after,guard⟩ E (newD B e (fun b=>.slice (some ⟨b,0,none⟩) c c) (madeCells z.cells (c*sz)).toList):=fun ρ w hB _ hρ=>by
 obtain⟨i,hi,hz,hs,hb⟩:=hinfo.get
 have h1:ρ x=_:=hρ x (by simp[Op.operands]) _ hx
 have h2:ρ y=_:=hρ y (by simp[Op.operands]) _ hy
 have hbc:i.bytes*c<=64*c:=Nat.mul_le_mul_right c (by omega)
 have hr:=run_make (P:=P) w t e i z ht hi hz k k' (c:Int) (c:Int) (by omega) (by omega) (by rw[<- Int.natCast_mul]; omega) (by omega)
 refine out_val (x:=.slice (some ⟨w.heap.size,0,none⟩) c c) (w':=w.alloc (.cells (madeCells z.cells (c*i.size)) e)) ?_ ⟨Grow.alloc w _,w.heap.size,rfl,hB,by simp,?_⟩
 ·simp only[execOp,h1,h2,Sem.run_bind,hr,Result.andThen_ok,Sem.run_pure,Int.toNat_natCast]
 ·rw[<- hs]; exact heap_alloc_new w _
theorem ok_sliceLoK{t e:TypeId}{z:Value}{sz:Nat}{x o:Operand}{len c:Nat}{kd:IntKind}(l:Nat)(ht:P.underlying t=some (.slice e))(hs:InfoP P e z sz nb)(hx:E.at x=some (.v (.slice (some ⟨b,0,none⟩) len c)))(ho:E.at o=some (.v (.int kd (l:Int))))(hl:l<=len):
  OpOk P B ⟨dst,.slice t x (some o) none none,ty,pos,after,guard⟩ E (.v (.slice (some ⟨b,if c=l then 0 else l*sz,none⟩) (len-l) (c-l))):=fun ρ w _ _ hρ=>by
 have h1:ρ x=_:=hρ x (by simp[Op.operands]) _ hx
 have h2:ρ o = .int kd (l:Int):=hρ o (by simp[Op.operands]) _ ho
 obtain⟨info,hinfo,_,hsize,_⟩:=hs.get
 refine out_val (w':=w) ?_ ⟨Grow.refl w,rfl⟩
 simp[execOp,h1,h2,Instr.sliceAt,Instr.slice,run_underlying ht,Instr.sliceBounds,Instr.sliceBound,asIntOf,sizeOf,typeInfo,hinfo,hsize,hl]
 split
 ·rfl
 ·unfold Addr.add
  split
  ·rename_i h; rw[h]
  ·simp
end
end
section
variable {κ:Cx}
end
section
variable {κ:Cx}
section
variable {P:Program} {B:Nat} {E:Env} {dst:Option Tmp} {ty:TypeId} {pos:String} {after:Array Edge} {guard:Option (Nat×Bool)}
theorem ok_make0K{t e:TypeId}{x y:Operand}{z:Value}{sz:Nat}{k k':IntKind}(c:Nat)(ht:P.underlying t=some (.slice e))(hinfo:InfoP P e z sz nb)(hnb:nb<=64)
  (hx:E.at x=some (.v (.int k 0)))(hy:E.at y=some (.v (.int k' (c:Int))))(hc:c<=4398046511104):
  OpOk P B ⟨dst,.makeSlice t x y,ty,pos,after,guard⟩ E (newD B e (fun b=>.slice (some ⟨b,0,none⟩) 0 c) (madeCells z.cells (c*sz)).toList):=fun ρ w hB _ hρ=>by
 obtain⟨i,hi,hz,hs,hb⟩:=hinfo.get
 have h1:ρ x=_:=hρ x (by simp[Op.operands]) _ hx
 have h2:ρ y=_:=hρ y (by simp[Op.operands]) _ hy
 have hbc:i.bytes*c<=64*c:=Nat.mul_le_mul_right c (by omega)
 have hr:=run_make (P:=P) w t e i z ht hi hz k k' 0 (c:Int) (by omega) (by omega) (by rw[<- Int.natCast_mul]; omega) (by omega)
 refine out_val (x:=.slice (some ⟨w.heap.size,0,none⟩) 0 c) (w':=w.alloc (.cells (madeCells z.cells (c*i.size)) e)) ?_ ⟨Grow.alloc w _,w.heap.size,rfl,hB,by simp,?_⟩
 ·simp only[execOp,h1,h2,Sem.run_bind,hr,Result.andThen_ok,Sem.run_pure,Int.toNat_natCast]; rfl
 ·rw[<- hs]; exact heap_alloc_new w _
end
section
variable {P:Program} {n B:Nat} {ops:Array Oper} {E:Env} {ty:TypeId} {pos:String} {after:Array Edge}
theorem eff_appendRoom{t e:TypeId}{z:Value}{sz:Nat}{r x:Operand}{c dst:Nat}{e':TypeId}{us:List Value}(ht:P.underlying t=some (.slice e))(hinfo:InfoP P e z sz nb)
  (hr:E.at r=some (.v (.slice (some ⟨b,0,none⟩) k c)))(hx:E.at x=some (oneP us))(hu:us.length=sz)(h1:us.all (·.oneCell')=true)(hkc:k<c)(hb:B<=b)(hblk:E.look s=some (blk b e' xs))(hfit:c*sz<=xs.length)(hnt:∀ q,P.underlying t≠some (.int q))(hdst:dst<n)(hl:LeftS B e' b E' E):
  Eff P n B ops ⟨some dst,.call { callee:=.builtin .append,args:=#[r,x],argTypes:=#[t,t] },ty,pos,after,none⟩ E ((dst,.v (.slice (some ⟨b,0,none⟩) (k+1) c))::(s,blk b e' (xs.take (k*sz)++us++xs.drop (k*sz+sz)))::E'):=by
 subst hu
 obtain⟨i,hi,_,hs,_⟩:=hinfo.get
 intro κ a w K Q h hK
 have hre:a.eval r=_:=h.at_ r _ hr
 obtain⟨ad,hxe,_,hcell⟩:=h.at_ x _ hx
 obtain⟨hlt,hh⟩:=h.of s _ hblk
 have hload:=run_loadCells_list (P:=P) w ad us hcell
 have hkf:k*us.length+us.length<=c*us.length:=by
  have:(k+1)*us.length<=c*us.length:=Nat.mul_le_mul_right _ hkc
  rwa [Nat.add_mul,Nat.one_mul] at this
 have hst:=run_storeCells_at P b (k*us.length) e' us 0 xs.toArray w hh (by simp; omega) (fun v hv=>List.all_eq_true.1 h1 v hv)
 have haddr:(⟨b,0,none⟩:Addr).add (k*us.length)=⟨b,k*us.length,none⟩:=by unfold Addr.add; split<;>simp_all
 have hrun:(Builtin.append_ #[t,t] ty #[a.eval r,a.eval x]).run P w = .ok (.slice (some ⟨b,0,none⟩) (k+1) c) (w.setRow b (xs.take (k*us.length)++us++xs.drop (k*us.length+us.length)).toArray):=by
  rw[hre,hxe]
  simp only[Nat.add_zero] at hst
  simp[Builtin.append_,run_underlying ht,Builtin.lenOf,Builtin.firstCells,sizeOf,typeInfo,hi,hs,haddr,hload]
  rw[if_pos (by omega)]
  simp[hst]
 have hexec:(execOp a.eval ⟨some dst,.call { callee:=.builtin .append,args:=#[r,x],argTypes:=#[t,t] },ty,pos,after,none⟩).run P w = .ok (.value (.slice (some ⟨b,0,none⟩) (k+1) c)) (w.setRow b (xs.take (k*us.length)++us++xs.drop (k*us.length+us.length)).toArray):=by
  simp[execOp,resolve,invoke,builtin,hrun]
 have hwr:Wrote B e' b w (w.setRow b (xs.take (k*us.length)++us++xs.drop (k*us.length+us.length)).toArray):=Wrote.setRow hb hh _
 rw[if_pos (by simp[Region.wanted])]
 refine opR (by nofun) ?_
 unfold Oper.wp
 rw[hexec,Oper.upon_value]
 exact hK _ _ (hwr.below h.base) (St.put ((hl.st h hwr).push (d:=blk b e' (xs.take (k*us.length)++us++xs.drop (k*us.length+us.length))) ⟨by simpa [World.setRow] using hlt,by simp[World.setRow,Array.getElem?_modify,hh]⟩) hdst rfl)
end
section
variable {P:Program} {n:Nat} {w₀:World} {E:Env}
theorem End.cellVV{fn:Func}{r r' r'':Nat}{T e':TypeId}{v' v'':Value}(hr:fn.results=#[.cell r T,.tmp r',.tmp r''])(ht:P.underlying T=some td)(hp:(match td with | .struct _ | .array _ _=>true|_=>false)=true)(hsz:SizeIs P T ys.length)
  (h1:E.look r=some (.v (.pointer (some ⟨b,0,none⟩))))(h2:E.look s=some (blk b e' ys))(h5:E.look r'=some (.v v'))(h7:E.look r''=some (.v v'')): End Cx.top w₀ n E (BP P fn (PostOf w₀ (.v (.tuple #[aggV ys,v',v'']))) .ret):=fun a w gr hs=>by
 have h3:a.tmps[r]?.getD undef = .pointer (some ⟨b,0,none⟩):=by rw[<- Array.getD_eq_getD_getElem?]; exact hs.of r _ h1
 have h6:a.tmps[r']?.getD undef=v':=by rw[<- Array.getD_eq_getD_getElem?]; exact hs.of r' _ h5
 have h8:a.tmps[r'']?.getD undef=v'':=by rw[<- Array.getD_eq_getD_getElem?]; exact hs.of r'' _ h7
 obtain⟨_,hh⟩:=hs.of s _ h2
 exact BP.ret hs.defers ⟨.tuple #[aggV ys,v',v''],by simp[results,hr,h3,h6,h8,asAddr,load_cell ht hp hsz hh],_,rfl,gr,rfl⟩
end
end
section
variable {κ:Cx}
section
variable {P:Program} {n:Nat} {w₀:World} {ops:Array Oper} {E:Env} {ty:TypeId} {pos:String} {after:Array Edge}
def YieldsX (P:Program) (N:Nat) (l:Nat) (arg:Nat->D) (J:Nat->World->Prop) {X:Type} (XE:X->Env):Prop :=
 ∀ (i:Nat) (W:World) (u:Value) (x:X),i<N->J i W->(arg i).Of W u->(∀ p∈XE x,p.2.Of W undef)->YieldAt (FR none) 0 P l #[u] W fun e W'=>e = .returned (.bool true)∧J (i+1) W'∧W.heap.size<=W'.heap.size∧∀ p∈XE x,p.2.Of W' undef
structure SeqsX (P:Program) (w₀:World) (N:Nat) (l:Nat) (arg:Nat->D) (V:Nat->Env) (J:Nat->World->Prop) {X:Type} (XE:X->Env):Prop where
 grow:∀ i a b,J i a->Grow a b->J i b
 holds:∀ i W,J i W->Holds w₀ (V i) W
 yields:YieldsX P N l arg J XE
theorem SeqsX.sub{N l:Nat}{arg:Nat->D}{V V':Nat->Env}{J:Nat->World->Prop}{X:Type}{XE:X->Env}(h:SeqsX P w₀ N l arg V J XE)(hs:∀ i,∀ p∈V' i,p∈V i): SeqsX P w₀ N l arg V' J XE :=
 ⟨h.grow,fun i W hJ=>⟨(h.holds i W hJ).1,(h.holds i W hJ).2.1,fun p hp=>(h.holds i W hJ).2.2 p (hs i p hp)⟩,h.yields⟩
theorem eff_yieldX{N l:Nat}{arg:Nat->D}{V:Nat->Env}{J:Nat->World->Prop}{X:Type}{XE:X->Env}{d vJ:Nat}{fv x:Operand}{ex:D}{tys:Array TypeId}(hq:SeqsX P w₀ N l arg V J XE)(z:X)(i:Nat)(hi:i<N)
  (hJ:E.look vJ=some (jD (J i)))(hf:E.at fv=some (.v (.func (.yield l) #[] #[])))(hx:E.at x=some ex)(hle:Le ex (arg i))(hd:d<n)(hV:∀ p∈V (i+1),vbase<=p.1)(hXv:∀ p∈XE z,vbase<=p.1)(hXE:∀ p∈XE z,E.look p.1=some p.2)(hn:n<=vbase)
  (hl:Left w₀.heap.size E' E):
  Eff P n w₀.heap.size ops ⟨some d,.call { callee:=.value fv,args:=#[x],argTypes:=tys },ty,pos,after,none⟩ E ((d,.v (.bool true))::(vJ,jD (J (i+1)))::(V (i+1)++XE z++E')):=by
 intro κ a w K Q h hK
 have h1:a.eval fv=_:=h.at_ fv _ hf
 have h2:=hle.of (h.at_ x _ hx)
 have hJw:J i w:=jD_get (hq.grow i) (h.of vJ _ hJ)
 have hund:∀ t,vbase<=t->a.tmps.getD t undef=undef:=fun t ht=>by
  rw[Array.getD_eq_getD_getElem?,Array.getElem?_eq_none (by rw[h.size]; omega)]; rfl
 obtain⟨fn,tmps,assign,body,hy,hr⟩:=hq.yields i w _ z hi hJw h2 fun p hp=>by
  have:=h.of _ _ (hXE p hp)
  rwa [hund _ (hXv p hp)] at this
 rw[if_pos (by simp[Region.wanted])]
 refine⟨fun _ _=>trivial,?_⟩
 rw[Oper.semAt_eq _ _ _ (by nofun)]
 have hrun:(execOp a.eval ⟨some d,.call { callee:=.value fv,args:=#[x],argTypes:=tys },ty,pos,after,none⟩).run P w = .ok (.round l fn tmps assign body) w:=by
  simp[execOp,resolve,Deferred.ofValue,h1,invoke,hy]
 rw[hrun,Oper.uponIn_round]
 refine⟨fun e=>absurd e (by simp[FR,Fence.wide]),RoundIn.mono (F:=FR κ.rd) (n:=0) hr ?_⟩
 rintro e W' ⟨rfl,hJ',hs,hX'⟩
 obtain⟨hb,hsz,hv⟩:=hq.holds _ _ hJ'
 have hb0:=(hq.holds _ _ hJw).1
 have hbel:=below_two hb0 hb hs
 refine hK _ _ hbel (St.put ⟨hsz,h.defers,h.size,fun t e he=>?_⟩ hd rfl)
 by_cases hts:vJ=t
 ·subst hts
  rw[look_here] at he; injection he with he; subst he
  exact jD_mk hJ'
 ·rw[look_past _ _ hts] at he
  rcases List.mem_append.1 (look_mem he) with hm|hm
  ·rcases List.mem_append.1 hm with hm|hm
   ·have:=hv _ hm
    rwa [hund t (hV _ hm)]
   ·have:=hX' _ hm
    rwa [hund t (hXv _ hm)]
  ·obtain⟨h7,h8⟩:=hl _ hm
   exact h8 _ _ _ hbel h.base (h.of t e h7)
theorem End.seqX{fn:Func}{N l:Nat}{arg:Nat->D}{V:Nat->Env}{J:Nat->World->Prop}{X:Type}{XE:X->Env}{vJ:Nat}(hq:SeqsX P w₀ N l arg V J XE)(hr:fn.results=#[])(hJ:E.look vJ=some (jD (J N))):
  End Cx.top w₀ n E (BP P fn (fun e W=>(∃ v,e = .returned v)∧J N W) .normal):=fun a w _ hs=>by
 show LeavesInM (FR none) 0 P fn a.tmps _ a.defers .returning w
 rw[show a.defers=[] from hs.defers]
 exact⟨_,by simp[results,hr]; rfl,⟨_,rfl⟩,jD_get (hq.grow N) (hs.of vJ _ hJ)⟩
theorem assign_box{l tp t:Nat}{id:Nat}{ty ty' pos pos'}{e1 e2:Array Edge}{T:TypeId}{zs:List Value}{a:Act}(hz:ZeroIs P T zs)(hsz:SizeIs P T ys.length)(h1:ys.all (·.oneCell')=true)(ho:zs.length=ys.length)
  (ht:t<n)(hne:t≠tp)(hb:w₀.heap.size<=w.heap.size)(h:St ⟨some l,[]⟩ n w₀.heap.size ((tp,.v (aggV ys))::E) a w):
  (Code.region id #[⟨some t,.alloc T,ty,pos,e1,none⟩,⟨none,.store T (.tmp t) (.tmp tp),ty',pos',e2,none⟩] false).wpIn (FR (some l)) 0 P (fun e a' w'=>e = .normal∧Grow w w'∧St ⟨some l,[]⟩ n w₀.heap.size ((t,freshV w₀.heap.size [] T ys)::(tp,.v (aggV ys))::E) a' w') a w:=by
 obtain⟨zi,zv,hzi,hzv,hzc⟩:=hz.get
 have ht':t<a.tmps.size:=by rw[h.size]; exact ht
 have hv:a.eval (.tmp tp)=aggV ys:=h.at_ (.tmp tp) _ (look_here _ _ _)
 refine wpIn_region_list ?_
 obtain⟨W1,hW1⟩:∃ W1,w.alloc (.cells zs.toArray T)=W1:=⟨_,rfl⟩
 have hh:W1.heap[w.heap.size]?=some (.cells zs.toArray T (0,0)):=by rw[<- hW1]; exact heap_alloc_new w _
 have hg1:Grow w W1:=by rw[<- hW1]; exact Grow.alloc w _
 have hlt:w.heap.size<W1.heap.size:=(Array.getElem?_eq_some_iff.1 hh).1
 refine wpListR_step (κ:=⟨some l,[]⟩) fun K hK=>?_
 rw[if_pos (by simp[Region.wanted])]
 refine opR (by nofun) ?_
 unfold Oper.wp
 have hr1:(execOp a.eval ⟨some t,.alloc T,ty,pos,e1,none⟩).run P w = .ok (.value (ptr w.heap.size)) W1:=by
  rw[<- hW1]; simp[execOp,Instr.alloc,zeroValue,typeInfo,hzi,hzv,newVar,newRow,hzc]
 rw[hr1,Oper.upon_value]
 refine hK _ _ ?_;refine wpListR_step (κ:=⟨some l,[]⟩) fun K' hK'=>?_
 rw[if_pos (by simp[Region.wanted])]
 refine opR (by nofun) ?_
 unfold Oper.wp
 have hp:(a.put (some t) (ptr w.heap.size)).eval (.tmp t)=ptr w.heap.size:=getD_put_here a _ ht'
 have hx:(a.put (some t) (ptr w.heap.size)).eval (.tmp tp)=aggV ys:=(getD_put_past a _ hne).trans hv
 have hr2:(execOp (a.put (some t) (ptr w.heap.size)).eval ⟨none,.store T (.tmp t) (.tmp tp),ty',pos',e2,none⟩).run P W1 = .ok .skip (W1.setRow w.heap.size ys.toArray):=by
  have:=run_storeVar_row (P:=P) W1 w.heap.size T T zs.toArray ys.toArray hh (by simpa [SizeIs] using hsz) (by simpa using ho) (by simpa using h1)
  simp[execOp,hp,hx,Instr.storeAt,Instr.sureAddr,aggV,this]
 rw[hr2,Oper.upon_skip]
 refine hK' _ _ (wpListIn_nil ?_)
 have hwr:=Wrote.setRow (B:=w.heap.size) (Nat.le_refl _) hh ys.toArray
 have hg2:Grow w (W1.setRow w.heap.size ys.toArray):=Below.trans hg1 (hwr.below (Nat.le_of_lt hlt))
 refine⟨rfl,hg2,?_⟩
 have hst:=h.grow hg2
 exact St.put (t:=t) (d:=freshV w₀.heap.size [] T ys) (h.grow hg2) ht ⟨w.heap.size,rfl,hb,(fun _ h=>by cases h),by simpa using hlt,setRow_heap W1 _ _ _ T _ hh⟩
theorem A.rangeX{X:Type}{XE:X->Env}{Q:Exit->Act->World->Prop}{g:Operand}{tp gf N vL vD:Nat}{assign body:Code}{lb:List Value}{S:Env}{V:Nat->Env}{Eb:Nat->X->Env}{arg:Nat->D}(hg:E.at g=some (.v (.func (.func gf) #[] lb.toArray)))
  (hgf:∃ fn,P.funcs[gf]?=some fn∧(fn.name == "runtime.NumGoroutine")=false∧fn.body.isNone=false)(htp:tp<n)(hn:n<=vbase)(h0:Sub (V 0++S) E)
  (hS:∀ p∈S,p.1<vbase∧((∃ x,p.2 = .v x)∨∃ d,p.2=old w₀.heap.size d))(hV:∀ i,∀ p∈V i,vbase<=p.1)(hX:∀ x,∀ p∈XE x,vbase<=p.1)(hfX:∀ x l,w₀.heap.size<=l->∀ p∈XE x,Firm l p.2)
  (hfV:∀ i l,w₀.heap.size<=l->∀ p∈V i,Firm l p.2)(hfE:∀ i x l,w₀.heap.size<=l->∀ p∈Eb i x,Firm l p.2)
  (hseq:∀ (J:Nat->World->Prop) (l:Nat) (w:World),SeqsX P w₀ N l arg V J XE->J 0 w->Calls P gf (.func (.yield l) #[] #[]::lb).toArray w fun e W=>(∃ v,e = .returned v)∧J N W)
  (hassign:∀ i l a w x,i<N->w₀.heap.size<=w.heap.size->St ⟨some l,[]⟩ n w₀.heap.size ((tp,arg i)::(V i++S++XE x)) a w->assign.wpIn (FR (some l)) 0 P (fun e a' w'=>e = .normal∧Grow w w'∧St ⟨some l,[]⟩ n w₀.heap.size (Eb i x) a' w') a w)
  (hbody:∀ i l D r m x,i<N->A ⟨some l,[]⟩ P w₀ n body ((vL,recD l (.loop r) m)::(vD,recD D (.deferred (some [])) 0)::Eb i x) (RoundQ w₀ ((vL,recD l (.loop r) m)::(vD,recD D (.deferred (some [])) 0)::(V (i+1)++XE x))))
  (hend:∀ D,w₀.heap.size<=D->End ⟨none,[{ target:=.collected D,args:=#[] }]⟩ w₀ n ((vD,recD D (.deferred (some [])) 0)::(V N++S)) (Q .normal)):
  A ⟨none,[]⟩ P w₀ n (.rangeFunc g #[tp] assign body) E Q:=fun a w hb hst=>by
 show(Code.rangeFunc g #[tp] assign body).wpIn (FR none) 0 P Q a w
 refine wpIn_rangeFunc fun fn _=>?_
 obtain⟨rec,hrec⟩:∃ rec:LoopState->Option Code->Loop,rec=fun st pe=>{ state:=st,pending:=pe,fn,tmps:=a.tmps,params:=#[tp],assign,body,defers:=w.heap.size }:=⟨_,rfl⟩
 obtain⟨W1,hW1⟩:∃ W1,(w.alloc (.deferred (some []))).alloc (.loop (rec .ready none))=W1:=⟨_,rfl⟩
 have hg':a.eval g = .func (.func gf) #[] lb.toArray:=hst.at_ g _ hg
 obtain⟨gfn,hf1,hf2,hf3⟩:=hgf
 have eg:∀ args w,(callFunc gf args).run P w = .ok (.enter gf args) w:=fun args w=>by
  have h2':¬ gfn.name = "runtime.NumGoroutine":=by simpa using hf2
  have h3':¬ gfn.body=none:=by intro h; rw[h] at hf3; cases hf3
  simp[callFunc,hf1,h2',h3']
 have hgr:Grow w W1:=by
  rw[<- hW1]; exact(Grow.alloc w _).trans (Grow.alloc _ _)
 have hL1:W1.heap[w.heap.size+1]?=some (.loop (rec .ready none)):=by
  rw[<- hW1]; have:=World.alloc_heap_new (w.alloc (.deferred (some []))) (.loop (rec .ready none)); rwa [World.size_alloc] at this
 have hK1:W1.heap[w.heap.size]?=some (.deferred (some [])):=by
  rw[<- hW1]; exact(Below.heap_alloc _ _ _ (by simp)).trans (World.alloc_heap_new w _)
 have hund:∀ t,vbase<=t->a.tmps.getD t undef=undef:=fun t ht=>by
  rw[Array.getD_eq_getD_getElem?,Array.getElem?_eq_none (by rw[hst.size]; omega)]; rfl
 have hH0:Holds w₀ (V 0) w:=⟨hb,hst.base,fun p hp=>by
  have h1:=hst.of p.1 p.2 (h0 p (List.mem_append_left _ hp))
  rwa [hund _ (hV 0 p hp)] at h1⟩
 -- what holds between two rounds
 have hstS:∀ (κ':Cx) (i:Nat) (W:World) (a':Act) (E':Env),κ'.df=a'.defers->a'.tmps.size=n->Holds w₀ (V i) W->w.heap.size<=W.heap.size->(∀ t e,E'.look t=some e->e.Of W (a'.tmps.getD t undef)∨((t,e)∈V i++S∧(t<vbase->a'.tmps.getD t undef=a.tmps.getD t undef)))->St κ' n w₀.heap.size E' a' W:=by
  intro κ' i W a' E' hd hsz hH hs hE
  refine⟨hH.2.1,hd.symm,hsz,fun t e he=>?_⟩
  rcases hE t e he with h|⟨hm,hsame⟩
  ·exact h
  ·rcases List.mem_append.1 hm with hm|hm
   ·have h1:=hH.2.2 _ hm
    have ht:=hV i _ hm
    simp only at ht
    rwa [Array.getD_eq_getD_getElem?,Array.getElem?_eq_none (by rw[hsz]; omega)]
   ·obtain⟨ht,hk⟩:=hS _ hm
    rw[hsame ht]
    have h1:=hst.of t e (h0 _ (List.mem_append_right _ hm))
    rcases hk with ⟨x,hx⟩|⟨d,hd'⟩
    ·simp only at hx; subst hx; exact h1
    ·simp only at hd'; subst hd'
     exact⟨hH.2.1,D.OfB.keep h1.2 (below_two hb hH.1 hs)⟩
 refine⟨w.heap.size+1,[{ target:=.collected w.heap.size,args:=#[] }],W1,{ target:=.fn (.func gf) lb.toArray,args:=#[.func (.yield (w.heap.size+1)) #[] #[]] },W1,gf,
  #[.func (.yield (w.heap.size+1)) #[] #[]]++lb.toArray,W1,?_,?_,fun _ _=>trivial,?_,fun e=>absurd e (by simp[FR,Fence.wide]),?_⟩
 ·rw[<- hW1,hrec]; exact run_enterLoop_outer _ _ _ _ _
 ·have hy:a.eval (.const (.func (.yield (w.heap.size+1)) #[] #[])) = .func (.yield (w.heap.size+1)) #[] #[]:=rfl
  simp only[resolve,hg']
  simp[Deferred.ofValue,hy]
 ·simp[invoke,eg]
 ·have harr:(#[.func (.yield (w.heap.size+1)) #[] #[]]++lb.toArray:Array Value)=(.func (.yield (w.heap.size+1)) #[] #[]::lb).toArray:=by simp
  rw[harr]
  refine callsIn_FR.2 ((hseq (fun i W=>Holds w₀ (V i) W∧W.heap[w.heap.size+1]?=some (.loop (rec .ready none))∧W.heap[w.heap.size]?=some (.deferred (some []))) (w.heap.size+1) W1 ⟨?_,fun i W h=>h.1,?_⟩ ⟨hH0.grow hgr,hL1,hK1⟩).mono ?_)
  ·rintro i x y ⟨h1,h2,h3⟩ k
   exact⟨h1.grow k,(k.block _ (Array.getElem?_eq_some_iff.1 h2).1).trans h2,(k.block _ (Array.getElem?_eq_some_iff.1 h3).1).trans h3⟩
  ·-- one round
   rintro i W u x hi ⟨hH,hl,hk⟩ hu hXE
   have hlt:w.heap.size+1<W.heap.size:=(Array.getElem?_eq_some_iff.1 hl).1
   have hBl:w₀.heap.size<=w.heap.size+1:=by have:=hst.base; omega
   have hy:=run_yield (P:=P) (args:=#[u]) hl (by rw[hrec]; rfl)
   rw[hrec] at hy
   refine⟨fn,_,assign,body,hy,roundIn_of_wpIn (F:=FR none) trivial ?_⟩
   have htm:(List.foldl (fun(tmps:Array Value) (x:Tmp×Value)=>tmps.setIfInBounds x.1 x.2) a.tmps ((#[tp].zip #[u]).toList))=a.tmps.setIfInBounds tp u:=by simp
   have hsta:St ⟨some (w.heap.size+1),[]⟩ n w₀.heap.size ((tp,arg i)::(V i++S++XE x)) { tmps:=a.tmps.setIfInBounds tp u,defers:=[] } W:=by
    refine hstS _ i W _ _ rfl (by simp[hst.size]) hH (by omega) fun t e he=>?_
    by_cases hts:tp=t
    ·subst hts
     rw[look_here] at he; injection he with he; subst he
     left
     have:tp<a.tmps.size:=by rw[hst.size]; exact htp
     simpa [this] using hu
    ·rw[look_past _ _ hts] at he
     rcases List.mem_append.1 (look_mem he) with hm|hm
     ·exact .inr ⟨hm,fun _=>by simp[Array.getElem?_setIfInBounds_ne hts]⟩
     ·left
      have h1:=hXE _ hm
      have h2:=hX x _ hm
      simp only at h2 h1
      have h3:({ tmps:=a.tmps.setIfInBounds tp u,defers:=[] }:Act).tmps.getD t undef=undef:=by
       rw[Array.getD_eq_getD_getElem?,Array.getElem?_eq_none (by simp[hst.size]; omega)]; rfl
      rw[h3]; exact h1
   have has:=hassign i (w.heap.size+1) _ W x hi hH.2.1 hsta
   have hrun0:({ tmps:=Array.foldl (fun(tmps:Array Value) (x:Tmp×Value)=>tmps.setIfInBounds x.1 x.2) a.tmps (#[tp].zip #[u]),defers:=[] }:Act)={ tmps:=a.tmps.setIfInBounds tp u,defers:=[] }:=by simp
   show assign.wpIn (FR (some (w.heap.size+1))) 0 P _ _ W
   refine wpIn_mono (F:=FR (some (w.heap.size+1))) (n:=0) (by first|exact has|(rw[<- hrun0] at has; exact has)) ?_
   rintro e a1 W2 ⟨rfl,hg2,hst2⟩
   have hl2:W2.heap[w.heap.size+1]?=some (.loop (rec .ready none)):=(hg2.block _ hlt).trans hl
   have hk2:W2.heap[w.heap.size]?=some (.deferred (some [])):=(hg2.block _ (by omega)).trans hk
   have hH2:=hH.grow hg2
   have hlt2:w.heap.size+1<W2.heap.size:=(Array.getElem?_eq_some_iff.1 hl2).1
   refine⟨_,run_beginRound hl2 (by rw[hrec]),?_⟩
   have hl3:(W2.putObj (w.heap.size+1) (.loop { rec .ready none with state:=.busy })).heap[w.heap.size+1]?=some (.loop { rec .ready none with state:=.busy }):=World.putObj_heap_same hlt2
   have hk3:(W2.putObj (w.heap.size+1) (.loop { rec .ready none with state:=.busy })).heap[w.heap.size]?=some (.deferred (some [])):=(World.putObj_heap_other (by omega)).trans hk2
   have hH3:=hH2.putObj (.loop { rec .ready none with state:=.busy }) hl2 rfl hBl (hfV i _ hBl)
   have hst3:St ⟨some (w.heap.size+1),[]⟩ n w₀.heap.size ((vL,recD (w.heap.size+1) (.loop { rec .ready none with state:=.busy }) W.heap.size)::(vD,recD w.heap.size (.deferred (some [])) 0)::Eb i x) a1 (W2.putObj (w.heap.size+1) (.loop { rec .ready none with state:=.busy })):=by
    refine⟨hH3.2.1,hst2.defers,hst2.size,fun t e he=>?_⟩
    by_cases hts:vL=t
    ·subst hts
     rw[look_here] at he; injection he with he; subst he
     exact⟨by simpa using hlt2,by simpa using hg2.size,hl3⟩
    ·rw[look_past _ _ hts] at he
     by_cases hts':vD=t
     ·subst hts'
      rw[look_here] at he; injection he with he; subst he
      exact⟨by simp; omega,Nat.zero_le _,hk3⟩
     ·rw[look_past _ _ hts'] at he
      exact hfE i x _ hBl _ (look_mem he) W2 _ _ _ hl2 rfl (hst2.of t e he)
   refine wpIn_mono (F:=FR (some (w.heap.size+1))) (n:=0) (hbody i _ _ _ _ x hi a1 _ hH3.1 hst3) ?_
   rintro e a3 W3 hp
   cases e with
   | normal =>
    obtain⟨hb3,hs3,hv3⟩:=hp
    obtain⟨hlt3,hm3,hl4⟩:=hv3 _ List.mem_cons_self
    obtain⟨_,_,hk4⟩:=hv3 _ (List.mem_cons_of_mem _ List.mem_cons_self)
    have hH4:Holds w₀ (V (i+1)) W3:=⟨hb3,hs3,fun p hp=>hv3 p (List.mem_cons_of_mem _ (List.mem_cons_of_mem _ (List.mem_append_left _ hp)))⟩
    have hX4:∀ p∈XE x,p.2.Of W3 undef:=fun p hp=>hv3 p (List.mem_cons_of_mem _ (List.mem_cons_of_mem _ (List.mem_append_right _ hp)))
    have hend:=run_endRound (P:=P) none hl4
    refine⟨_,_,hend,rfl,⟨hH4.putObj _ hl4 rfl hBl (hfV _ _ hBl),?_,(World.putObj_heap_other (by omega)).trans hk4⟩,by simpa using hm3,fun p hp=>hfX x _ hBl p hp W3 _ _ _ hl4 rfl (hX4 p hp)⟩
    have:=World.putObj_heap_same (o:=.loop { { rec .ready none with state:=.busy } with state:=.ready,pending:=none }) hlt3
    rw[hrec] at this ⊢
    exact this
   | _=>exact hp.elim
  ·-- behind it
   rintro e W2 ⟨⟨v,rfl⟩,hH,hl,hk⟩
   have hBl:w₀.heap.size<=w.heap.size+1:=by have:=hst.base; omega
   have hlt2:w.heap.size+1<W2.heap.size:=(Array.getElem?_eq_some_iff.1 hl).1
   have hel:=run_endLoop (P:=P) hl (by rw[hrec]; simp)
   refine⟨none,_,by rw[hrec] at hel; exact hel,?_⟩
   have hH3:=hH.putObj (.loop { state:=.exhausted,pending:=none,fn,tmps:=a.tmps,params:=#[tp],assign,body,defers:=w.heap.size }) hl rfl hBl (hfV N _ hBl)
   refine hend w.heap.size hst.base _ _ hH3.1 (hstS _ N _ _ _ (by simp[hst.defers]) hst.size hH3 (by simp; omega) fun t e he=>?_)
   by_cases hts:vD=t
   ·subst hts
    rw[look_here] at he; injection he with he; subst he
    exact .inl ⟨by simp; omega,Nat.zero_le _,(World.putObj_heap_other (by omega)).trans hk⟩
   ·rw[look_past _ _ hts] at he
    exact .inr ⟨look_mem he,fun _=>rfl⟩
end
end
section
variable {κ:Cx}
def un (n:Nat):Nat->Nat
 | 0=>n
 | k+1=>(un n k+3) / 4
theorem un_lt (n:Nat):∀ (k j:Nat),j<un n k↔j*4^k<n
 | 0,j=>by simp[un]
 | k+1,j=>by
  have h1:j<(un n k+3) / 4↔j*4<un n k:=by omega
  show j<(un n k+3) / 4↔_
  rw[h1,un_lt n k,Nat.mul_assoc,Nat.pow_succ,Nat.mul_comm 4]
theorem un_pos(h:1<=n)(k:Nat): 1<=un n k:=(un_lt n k 0).2 (by omega)
theorem un_le {n:Nat} (h:1<=n):∀ k,un n k<=n
 | 0=>Nat.le_refl _
 | k+1=>by
  have:=un_le h k
  have:=un_pos h k
  show(un n k+3) / 4<=n
  omega
theorem un_succ(n k:Nat): un n (k+1)=(un n k+3) / 4:=rfl
def hg (n:Nat):Nat:=if n<=4 then 0 else if n<=16 then 1 else if n<=64 then 2 else if n<=256 then 3 else if n<=1024 then 4 else 5
theorem hg_le(n:Nat): hg n<=5:=by unfold hg; (repeat' split)<;>omega
theorem hg_up(h:n<=4096): n<=4^(hg n+1):=by
 unfold hg
 split
 ·simpa
 split
 ·simpa
 split
 ·simpa
 split
 ·simpa
 split
 ·simpa
 ·simpa
theorem hg_lo(h0:hg n≠0): 4^hg n<n:=by
 unfold hg at *
 split at h0
 ·exact absurd rfl h0
 rw[if_neg (by omega)]
 split
 ·simp; omega
 split
 ·simp; omega
 split
 ·simp; omega
 split
 ·simp; omega
 ·simp; omega
theorem un_root(h1:1<=n)(h2:n<=4096): un n (hg n+1)=1:=by
 have:=un_pos h1 (hg n+1)
 have h3:=un_lt n (hg n+1) 1
 have:=hg_up h2
 omega
theorem un_big(hk:k<=hg n)(h0:k≠0): 1<un n k:=by
 rw[un_lt,Nat.one_mul]
 exact Nat.lt_of_le_of_lt (Nat.pow_le_pow_right (by decide) hk) (hg_lo (by omega))
theorem un_case(h1:1<=n)(h2:n<=4096)(hk:k<=hg n+1): (1<un n k∧k<=hg n)∨(¬ 1<un n k∧k=0∧k<=hg n)∨(¬ 1<un n k∧k≠0∧k=hg n+1):=by
 by_cases h:k<=hg n
 ·by_cases h0:k=0
  ·by_cases h3:1<un n k
   ·exact .inl ⟨h3,h⟩
   ·exact .inr (.inl ⟨h3,h0,h⟩)
  ·exact .inl ⟨un_big h h0,h⟩
 ·obtain rfl:k=hg n+1:=by omega
  exact .inr (.inr ⟨by rw[un_root h1 h2]; decide,by omega,rfl⟩)
def tot (n:Nat):Nat->Nat
 | 0=>0
 | l+1=>tot n l+un n (l+1)
theorem tot_le {n:Nat} (h:1<=n):∀ l,tot n l<=n*l
 | 0=>Nat.le_refl _
 | l+1=>by
  have:=tot_le h l
  have:=un_le h (l+1)
  show tot n l+un n (l+1)<=n*(l+1)
  rw[Nat.mul_succ]; omega
theorem tot_small{l:Nat}(h1:1<=n)(h2:n<=4096)(hl:l<=6): tot n l<=24576:=Nat.le_trans (tot_le h1 l) (Nat.le_trans (Nat.mul_le_mul h2 hl) (by decide))
theorem tot_succ(n l:Nat): tot n (l+1)=tot n l+un n (l+1):=rfl
theorem tot_mono{a:Nat}(h:a<=b): tot n a<=tot n b:=by
 induction h with
 | refl=>exact Nat.le_refl _
 | step _ ih=>exact Nat.le_trans ih (Nat.le_add_right _ _)
def bs (n l:Nat):Nat:=2*n+2*tot n l
theorem bs_succ(n l:Nat): bs n (l+1)=bs n l+2*un n (l+1):=by unfold bs; rw[tot_succ]; omega
theorem bs_zero(n:Nat): bs n 0=2*n:=rfl
theorem bs_small{l:Nat}(h1:1<=n)(h2:n<=4096)(hl:l<=6): bs n l<=60000:=by have:=tot_small h1 h2 hl; unfold bs; omega
theorem bs_mono{a:Nat}(h:a<=b): bs n a<=bs n b:=by have:=tot_mono (n:=n) h; unfold bs; omega
def pts (n l j:Nat):Nat:=min (un n l-4*j) 4
theorem pts_pos{l:Nat}(h:j<un n (l+1)): 1<=pts n l j∧pts n l j<=4∧4*j<un n l:=by
 rw[un_succ] at h
 unfold pts; omega
theorem pow_small{l:Nat}(h:l<=6): 4^l<=4096:=Nat.le_trans (Nat.pow_le_pow_right (by decide) h) (by decide)
theorem pow_pos4(l:Nat): 1<=4^l:=Nat.pos_of_ne_zero (by simp)
def IsP (n:Nat) (l j:Int):Prop:=∃ a b:Nat,l=(a:Int)∧j=(b:Int)∧a<=hg n∧b<un n (a+1)
theorem isP_nat{a : Nat}: IsP n (a : Int) (b : Int) ↔ a <= hg n ∧ b < un n (a + 1) :=
  ⟨fun ⟨a', b', h1, h2, h3, h4⟩ => by obtain rfl : a = a' := by omega
                                      obtain rfl : b = b' := by omega
                                      exact ⟨h3, h4⟩, fun ⟨h3, h4⟩ => ⟨a, b, rfl, rfl, h3, h4⟩⟩
def rowU (n k:Nat):List Value:=(List.range 6).map fun i=>nI (if i<k then un n (i+1) else 0)
theorem rowU_length(n k:Nat): (rowU n k).length=6:=by simp[rowU]
theorem rowU_get(h:i<k)(hi:i<6): (rowU n k)[i]?=some (nI (un n (i+1))):=by simp[rowU,hi,h]
theorem rowU_zero(n:Nat): (List.replicate 6 (.int .i64 0):List Value)=rowU n 0:=by simp[rowU,List.range,List.range.loop,List.replicate]
theorem rowU_set(h:k<6): (rowU n k).take (k*1)++[nI (un n (k+1))]++(rowU n k).drop (k*1+1)=rowU n (k+1):=by
 apply List.ext_getElem?
 intro i
 rw[Nat.mul_one]
 have hl:((rowU n k).take k).length=k:=by rw[List.length_take,rowU_length]; omega
 rcases Nat.lt_trichotomy i k with hik|rfl|hik
 ·rw[List.append_assoc,List.getElem?_append_left (by omega),List.getElem?_take,if_pos hik,rowU_get hik (by omega),rowU_get (by omega) (by omega)]
 ·rw[List.append_assoc,List.getElem?_append_right (by omega),hl,Nat.sub_self,rowU_get (by omega) (by omega)]; rfl
 ·rw[List.getElem?_append_right (by simp only[List.length_append,hl,List.length_singleton]; omega)]
  simp only[List.length_append,hl,List.length_singleton,List.getElem?_drop,show k+1+(i-(k+1))=i from by omega]
  unfold rowU
  simp only[List.getElem?_map]
  cases hi:(List.range 6)[i]? with
  | none=>rfl
  | some x =>
   have hx:i<6∧x=i:=by
    obtain⟨h1,h2⟩:=List.getElem?_eq_some_iff.1 hi
    simp at h1 h2; exact⟨h1,h2.symm⟩
   obtain⟨_,rfl⟩:=hx
   simp only[Option.map_some]
   rw[if_neg (by omega),if_neg (by omega)]
def shV (n b:Nat):List Value:=[nI n,.slice (some ⟨b,0,none⟩) (hg n+1) 6]
def plV (l j:Nat):List Value:=[nI l,nI j]
def stp (n x i:Nat):List Value:=plV (hg n-i) (x / 4^(hg n-i+1))
def pathV (n x k:Nat):List Value:=(List.range k).flatMap (stp n x)++List.replicate (2*(hg n+1-k)) (.int .i64 0)
theorem steps_length(n x k:Nat): ((List.range k).flatMap (stp n x)).length=2*k:=by
 induction k with
 | zero=>rfl
 | succ k ih=>rw[List.range_succ,List.flatMap_append,List.length_append,ih]; simp[stp,plV]; omega
theorem pathV_length{x:Nat}(h:k<=hg n+1): (pathV n x k).length=2*(hg n+1):=by
 unfold pathV; rw[List.length_append,steps_length,List.length_replicate]; omega
theorem pathV_set{x:Nat}(h:k<hg n+1): (pathV n x k).take (k*2)++stp n x k++(pathV n x k).drop (k*2+2)=pathV n x (k+1):=by
 have hl:=steps_length n x k
 unfold pathV
 rw[List.take_left' (by omega),List.drop_append,List.drop_of_length_le (by omega),List.nil_append,List.drop_replicate,List.range_succ,List.flatMap_append]
 simp only[List.flatMap_cons,List.flatMap_nil,List.append_nil]
 rw[hl,show 2*(hg n+1-k)-(k*2+2-2*k)=2*(hg n+1-(k+1)) from by omega]
theorem pathV_full(n x:Nat): pathV n x (hg n+1)=(List.range (hg n+1)).flatMap (stp n x):=by simp[pathV]
theorem pathV_get{x:Nat}(h:i<hg n+1): ((pathV n x (hg n+1)).drop (i*2)).take 2=stp n x i:=by
 rw[pathV_full]
 generalize hg n+1=m at h
 induction m with
 | zero=>omega
 | succ m ih =>
  have hl:=steps_length n x m
  rw[List.range_succ,List.flatMap_append]
  simp only[List.flatMap_cons,List.flatMap_nil,List.append_nil]
  rcases Nat.lt_or_ge i m with hi|hi
  ·rw[List.drop_append_of_le_length (by omega),List.take_append_of_le_length (by rw[List.length_drop]; omega)]
   exact ih hi
  ·obtain rfl:i=m:=by omega
   rw[List.drop_append,List.drop_of_length_le (by omega),List.nil_append,hl,show i*2-2*i=0 from by omega,List.drop_zero]
   rfl
theorem FnM.key{f:FuncId}{e:D}(k':Nat)(h:FnM P f [(k,e)] ds d): FnM P f [(k',e)] ds d :=
 ⟨h.body,fun vs w hM h1 h2=>h.calls vs w (fun p hp=>by simp only[List.mem_cons,List.not_mem_nil,or_false] at hp; subst hp; exact hM (k',e) List.mem_cons_self) h1 h2⟩
section
variable {P:Program} {B:Nat} {E:Env} {dst:Option Tmp} {ty:TypeId} {pos:String} {after:Array Edge} {guard:Option (Nat×Bool)}
theorem ok_callK{f:FuncId}{args:Array Operand}{argTypes:Array TypeId}{e:D}{k₀:Nat}(k:Nat)(hf:FnM P f [(k₀,e)] ds d)(hk:vbase<=k)(hE:E.look k=some e)(ha:Args E ds args.toList):
  OpOk P B ⟨dst,.call { callee:=.value (.func f),args:=args,argTypes:=argTypes },ty,pos,after,guard⟩ E d :=
 ok_callM (hf.key k) (Sub.cons hE Sub.nil) (fun p hp=>by simp only[List.mem_cons,List.not_mem_nil,or_false] at hp; subst hp; exact hk) ha
theorem ok_indexS{t e:TypeId}{z:Value}{sz:Nat}{x i:Operand}{o c:Nat}{k:IntKind}{j:Int}(m:Nat)(ht:P.underlying t=some (.slice e))(hs:InfoP P e z sz nb)(hx:E.at x=some (.v (.slice (some ⟨b,o,none⟩) n c)))(hi:E.at i=some (.v (.int k j)))
  (h0:j=(m:Int))(hn:m<n): OpOk P B ⟨dst,.indexAddr t x i,ty,pos,after,guard⟩ E (.v (.pointer (some ⟨b,o+m*sz,none⟩))):=fun ρ w _ _ hρ=>by
 have h1:ρ x=_:=hρ x (by simp[Op.operands]) _ hx
 have hi':ρ i = .int k j:=hρ i (by simp[Op.operands]) _ hi
 obtain⟨info,hinfo,_,hsize,_⟩:=hs.get
 subst h0
 refine out_val (w':=w) ?_ ⟨Grow.refl w,rfl⟩
 simp[execOp,h1,hi',Instr.indexAt,asIntOf,run_underlying ht,sizeOf,typeInfo,hinfo,hsize,hn,add_lit0]
theorem ok_makePl{t e:TypeId}{x y:Operand}{k k':IntKind}(c:Nat)(ht:P.underlying t=some (.slice e))(hinfo:InfoP P e (.agg #[.int .i64 0,.int .i64 0]) 2 nb)(hnb:nb<=64)
  (hx:E.at x=some (.v (.int k 0)))(hy:E.at y=some (.v (.int k' (c:Int))))(hc:c<=4398046511104):
  OpOk P B ⟨dst,.makeSlice t x y,ty,pos,after,guard⟩ E (newD B e (fun b=>.slice (some ⟨b,0,none⟩) 0 c) (List.replicate (2*c) (.int .i64 0))):=by
 have h:=ok_make0K (P:=P) (B:=B) (E:=E) (dst:=dst) (ty:=ty) (pos:=pos) (after:=after) (guard:=guard) c ht hinfo hnb hx hy hc
 have hm:(madeCells (Value.agg #[.int .i64 0,.int .i64 0]).cells (c*2)).toList=List.replicate (2*c) (.int .i64 0):=by
  apply List.ext_getElem
  ·simp[madeCells]; omega
  ·intro i h1 h2
   simp only[List.getElem_replicate]
   simp only[madeCells,Value.cells,Array.toList_map,List.getElem_map]
   have:∀ m,(#[Value.int .i64 0,Value.int .i64 0]:Array Value)[m%2]! = .int .i64 0:=fun m=>by
    rcases(show m%2=0∨m%2=1 by omega) with h|h<;>rw[h]<;>rfl
   exact this _
 rwa [hm] at h
theorem ok_build1N{t e:TypeId}{z:Value}{x:Operand}{k:IntKind}{a:Int}(ht:P.underlying t=some (.slice e))(hs:InfoP P e z 1 nb)(hz:z.cells.size=1)(hx:E.at x=some (.v (.int k a))):
  OpOk P B ⟨dst,.buildSlice t 1 #[(0,x)],ty,pos,after,guard⟩ E (oneP [.int k a]):=fun ρ w _ _ hρ=>by
 obtain⟨i,hi,hzv,hsize,_⟩:=hs.get
 have h1:ρ x = .int k a:=hρ x (by simp[Op.operands]) _ hx
 have hfill:Instr.fill (fun j=>some (j*i.size,i.size)) ((Array.range (1*i.size)).map (z.cells[·%z.cells.size]!)) [(0,ρ x)]=some #[.int k a]:=by
  rw[hsize,h1,hz]
  have h2:((Array.range (1*1)).map fun y=>z.cells[y%1]!)=#[z.cells[0]!]:=by
   rw[show Array.range (1*1)=#[0] from by decide]
   simp
  rw[h2]
  simp[Instr.fill,Value.cells]
 have hr:=run_buildSlice (P:=P) w t e 1 #[(0,ρ x)] #[.int k a] i z ht hi hzv (by rw[hsize]; decide) (by rw[hsize]; decide) (by simpa using hfill)
 refine out_val (x:=.slice (some ⟨w.heap.size,0,none⟩) 1 1) (w':=w.alloc (.cells #[.int k a] e)) (by simp[execOp,hr]) ⟨Grow.alloc w _,_,rfl,by simp,fun j u hu=>?_⟩
 have hh:(w.alloc (.cells #[.int k a] e)).heap[w.heap.size]?=some (.cells #[.int k a] e (0,0)):=heap_alloc_new w _
 rw[show(⟨w.heap.size,0,none⟩:Addr).add j=⟨w.heap.size,j,none⟩ from by unfold Addr.add; split<;>simp_all]
 simp only[World.cell?,hh]
 simpa using hu
end
theorem End.newTTC{fn:Func}{D vD r kg:Nat}{e:TypeId}{zs:List Value}{u v:Value}{val:Nat->Value}(hD:E.look vD=some (recD D (.deferred (some [])) m))(hDB:w₀.heap.size<=D)(hr:fn.results=#[.tmp r,.tmp s])
  (h1:E.look r=some (.v u))(h2:E.look s=some (.v v))(h4:E.look kg=some (blk g e zs))(hg:w₀.heap.size<=g)(hv:val g = .tuple #[u,v])(hz:zs=xs): End ⟨none,[{ target:=.collected D,args:=#[] }]⟩ w₀ n E (BP P fn (PostOf w₀ (newD w₀.heap.size e val xs)) .ret):=fun a w gr hs=>by
 subst hz
 obtain⟨hlt,_,hk⟩:=hs.of vD _ hD
 have h5:a.tmps.getD r undef=u:=hs.of r _ h1
 have h6:a.tmps.getD s undef=v:=hs.of s _ h2
 obtain⟨hl',hh⟩:=hs.of kg _ h4
 have hne:g≠D:=fun h=>by subst h; rw[hh] at hk; cases hk
 show LeavesInM (FR none) 0 P fn a.tmps _ a.defers .returning w
 rw[show a.defers=[{ target:=.collected D,args:=#[] }] from hs.defers]
 refine⟨by simp,.inl ⟨D,_,rfl,run_takeDeferred hk,?_⟩⟩
 refine⟨.tuple #[a.tmps.getD r undef,a.tmps.getD s undef],by simp[results,hr],_,rfl,Below.trans gr (below_putObj w _ hDB),g,by rw[h5,h6,hv],hg,by simpa using hl',(World.putObj_heap_other hne).trans hh⟩
theorem tdiv_nat(a b:Nat): (a:Int).tdiv (b:Int)=((a / b:Nat):Int):=(Int.ofNat_tdiv a b).symm
theorem wrap_eq{a:Int}{m:Nat}(h:a=(m:Int))(hm:m<9223372036854775808): Value.int .i64 (IntKind.i64.wrap a)=nI m:=by rw[h,wrapN_i64 hm]
theorem kinP(a b:Int): Kin (fun _ _=>True) [.i64,.i64] [.int .i64 a,.int .i64 b]:=kin_cons (kin_cons kin_nil)
end
abbrev shM (n b:Nat):Env:=[(1900000,blk b 243 (rowU n (hg n+1)))]
theorem info38: InfoIs Tryz.prog 38 (.slice none 0 0) 24:=by unfold InfoIs; kernel_rfl
theorem zero131: ZeroIs Tryz.prog 131 ([.int .i64 0]++[.int .i64 0]):=by unfold ZeroIs; kernel_rfl
theorem size131: SizeIs Tryz.prog 131 2:=by unfold SizeIs; kernel_rfl
theorem field131_0: FieldIs Tryz.prog 131 0 0 1:=by unfold FieldIs; kernel_rfl
theorem field131_1: FieldIs Tryz.prog 131 1 1 1:=by unfold FieldIs; kernel_rfl
theorem zero183: ZeroIs Tryz.prog 183 ([.int .i64 0]++[.slice none 0 0]):=by unfold ZeroIs; kernel_rfl
theorem size183: SizeIs Tryz.prog 183 2:=by unfold SizeIs; kernel_rfl
theorem field183_0: FieldIs Tryz.prog 183 0 0 1:=by unfold FieldIs; kernel_rfl
theorem field183_1: FieldIs Tryz.prog 183 1 1 1:=by unfold FieldIs; kernel_rfl
theorem zero243: ZeroIs Tryz.prog 243 (List.replicate 6 (.int .i64 0)):=by unfold ZeroIs; kernel_rfl
theorem infoPI: InfoP Tryz.prog 3 (.int .i64 0) 1 8:=by unfold InfoP; kernel_rfl
theorem infoPP: InfoP Tryz.prog 131 (.agg #[.int .i64 0,.int .i64 0]) 2 16:=by unfold InfoP; kernel_rfl
theorem buildSh(n b c d:Nat): Tryz.prog.built 183 [(0,nI n),(1,.slice (some ⟨b,0,none⟩) c d)]=some ([nI n,.slice (some ⟨b,0,none⟩) c d]:List Value).toArray:=by kernel_rfl
theorem buildP(a b:Int): Tryz.prog.built 131 [(0,.int .i64 a),(1,.int .i64 b)]=some ([.int .i64 a,.int .i64 b]:List Value).toArray:=by kernel_rfl
theorem flatP: flat Tryz.prog 3 131=some [.i64,.i64]:=by kernel_rfl
theorem within_y(a b:Int)(h0:0<=a)(h:a<b): Fn Tryz.prog 110 [.v (.int .i64 (a)),.v (.int .i64 (b))] (.v (.bool true)):=by
 refine FV Tryz.func110 rfl Tryz.ntmps110 rfl fun w₀=>?_
 refine GV rfl (GT (RV 2 rfl ?_));refine RT ?_;refine RV 4 rfl ?_;refine RT ?_;refine RVN 2 rfl ?_;refine A.ret ?_;exact ER rfl rfl
theorem within_n1(a b:Int)(h0:¬ 0<=a): Fn Tryz.prog 110 [.v (.int .i64 (a)),.v (.int .i64 (b))] (.v (.bool false)):=by
 refine FV Tryz.func110 rfl Tryz.ntmps110 rfl fun w₀=>?_
 refine GV rfl (GT (RV 2 rfl ?_));refine RF ?_;refine RVN 6 rfl ?_;refine A.ret ?_;exact ER rfl rfl
theorem within_n2(a b:Int)(h0:0<=a)(h:¬ a<b): Fn Tryz.prog 110 [.v (.int .i64 (a)),.v (.int .i64 (b))] (.v (.bool false)):=by
 refine FV Tryz.func110 rfl Tryz.ntmps110 rfl fun w₀=>?_
 refine GV rfl (GT (RV 2 rfl ?_));refine RT ?_;refine RV 4 rfl ?_;refine RF ?_;refine RVN 2 rfl ?_;refine A.ret ?_;exact ER rfl rfl
theorem within_n(a b:Int)(h:¬ (0<=a∧a<b)): Fn Tryz.prog 110 [.v (.int .i64 (a)),.v (.int .i64 (b))] (.v (.bool false)):=by
 by_cases h0:0<=a
 ·exact within_n2 a b h0 (by omega)
 ·exact within_n1 a b h0
theorem Check_ok(n:Nat)(h1:1<=n)(h2:n<=4096): Fn Tryz.prog 95 [.v (nI (n))] (.v (.int .i64 (0))):=by
 refine FV Tryz.func95 rfl Tryz.ntmps95 rfl fun w₀=>?_
 refine GV rfl (QS (GT (RV 2 rfl ?_)));refine RF ?_;refine RV 3 rfl ?_;refine RF ?_;refine RVN 1 rfl ?_;refine A.no rfl ?_;refine QK (GV rfl (A.ret ?_));exact ER rfl rfl
theorem Check_lo(m:Int)(h:m<1): Fn Tryz.prog 95 [.v (.int .i64 (m))] (.v (.int .i64 (1))):=by
 refine FV Tryz.func95 rfl Tryz.ntmps95 rfl fun w₀=>?_
 refine GV rfl (QS (GT (RV 2 rfl ?_)));refine RT ?_;refine RVN 4 rfl ?_;refine A.yes rfl ?_;refine GV rfl (A.ret (End.ret_then ?_));exact ER rfl rfl
theorem Check_hi(m:Int)(h:4096<m): Fn Tryz.prog 95 [.v (.int .i64 (m))] (.v (.int .i64 (1))):=by
 refine FV Tryz.func95 rfl Tryz.ntmps95 rfl fun w₀=>?_
 refine GV rfl (QS (GT (RV 2 rfl ?_)));refine RF ?_;refine RV 3 rfl ?_;refine RT ?_;refine RVN 1 rfl ?_;refine A.yes rfl ?_;refine GV rfl (A.ret (End.ret_then ?_));exact ER rfl rfl
theorem Check_bad(m:Int)(hm:¬ (1<=m∧m<=4096)): Fn Tryz.prog 95 [.v (.int .i64 (m))] (.v (.int .i64 (1))):=by
 by_cases h0:m<1
 ·exact Check_lo m h0
 ·exact Check_hi m (by omega)
theorem span_fn(l:Nat)(hl:l<=5): Fn Tryz.prog 125 [.v (nI (l))] (.v (nI (4^(l+1)))):=by
 refine FV Tryz.func125 rfl Tryz.ntmps125 rfl fun w₀=>?_
 refine GV rfl (GV rfl (QS (GV rfl (A.block ?_))));refine A.loop (ι:=Nat) (fun i=>i<=l) (fun i=>[(3,.v (nI (4^(i+1)))),(4,.v (nI (l))),(5,.v (nI (i)))]) (fun i=>l-i) 0 ?_ ?_ ?_
 ·exact Nat.zero_le _
 ·exact(Sv [3,4,5] rfl)
 intro i hi
 refine GV rfl (QS ?_);refine A.cond rfl (fun hc6=>?_) (fun hc6=>?_)
 ·have hlt:i<l:=by simp at hc6; omega
  refine QK (QSB (GTE (RV 2 rfl ?_)));refine RZ (nI (4^(i+1+1))) (wrap_eq (by rw[Nat.pow_succ 4 (i+1)]; omega) (by have:=pow_small (l:=i+1+1) (by omega); omega)) ?_;refine RVN 1 rfl ?_;refine End.normal_block (EN (GTE (RB rfl rfl rfl ?_)));refine Rw (i+1) ?_;refine RVN 1 rfl ?_;refine End.normal_then ?_;refine End.again (i+1) ?_ ?_ ?_
  ·show _<=_; omega
  ·show _-_<_-_; omega
  ·exact(Sv [3,4,5] rfl)
 ·obtain rfl:i=l:=by simp at hc6; omega
  refine A.exit (End.exit_then (End.exit_then (End.exit_here (EN (GV rfl (A.ret ?_))))));exact ER rfl rfl
theorem countsOf_fnB(n:Nat)(h1:1<=n)(h2:n<=4096): FnB Tryz.prog 123 [.v (nI (n))] (fun B=>newD B 243 (fun b=>.slice (some ⟨b,0,none⟩) (hg n+1) 6) (rowU n (hg n+1))):=by
 refine FnB.of Tryz.func123 rfl (by kernel_rfl) Tryz.ntmps123 (by simp) (fun w=>[(0,.v (nI (n)))]) (fun w=>(Start.v rfl Start.nil)) fun w₀=>?_
 refine GV rfl (GS (TN 0 (RN ?_)));refine ZN 1000003 zero243 fun b3 ⟨hBb3,hb3⟩=>?_
 refine TL (RN (GT (RS (ok_sliceX (l:=0) (h:=0) (m:=6) U243 info3 rfl (.inr ⟨rfl,rfl⟩) (.inl ⟨_,_,rfl,rfl⟩) (.inl ⟨_,_,rfl,rfl⟩) (by decide) (by decide) (by decide) (.inl (by decide))) ?_)));refine RZ (.slice (some ⟨b3,0,none⟩) 0 6) (rfl) ?_;refine RVN 1 rfl ?_;refine QS (GV rfl (A.block ?_));refine A.loop (ι:=Nat) (fun k=>k<=hg n+1) (fun k=>[(4,.v (.slice (some ⟨b3,0,none⟩) k 6)),(5,.v (nI (un n k))),(1000003,blk b3 243 (rowU n (k)))]) (fun k=>hg n+1-k) 0 ?_ ?_ ?_
 ·exact Nat.zero_le _
 ·exact(KC 4 rfl (KC 5 rfl (KE 1000003 rfl (congrArg _ (rowU_zero n)) KN)))
 intro k hk
 have hu0:=un_le h1 (k)
 have hv0:=un_pos h1 (k)
 have hu1:=un_le h1 (k+1)
 have hv1:=un_pos h1 (k+1)
 have hh:=hg_le n
 refine QS ?_
 rcases un_case h1 h2 hk with ⟨hA,hA'⟩|⟨hA,hA',hA''⟩|⟨hA,hA',hA''⟩
 ·refine GT (RV 2 rfl ?_);refine RT ?_;refine RVN 5 rfl ?_;refine A.yes rfl ?_;refine QK (A.block (GT (RV 2 rfl ?_)));refine Rw (un n k+4) ?_;refine RB rfl rfl rfl ?_;refine Rw (un n k+3) ?_;refine RS (ok_div rfl rfl (by decide)) ?_;refine RZ (nI (un n (k+1))) (by rw[tdiv_lit _ (by decide)]; exact wrap_eq rfl (by first|omega|(simp only[Int.toNat]; omega))) ?_;refine RVN 1 rfl ?_;refine GE (TF 3 (RV 2 rfl ?_));refine RS (ok_build1N U38 infoPI rfl rfl) ?_;refine RN ?_;refine⟨_,eff_appendRoom (n:=24) (s:=1000003) (k:=k) (c:=6) (us:=[nI (un n (k+1))]) U38 infoPI rfl rfl rfl rfl (by omega) hBb3 rfl (by rw[rowU_length]; decide) (fun q hq=>by rw[U38] at hq; cases hq) (by decide) (LV 5 rfl LN),?_⟩
  refine TL (RVN 1 rfl ?_);refine End.sub (KC 4 rfl (KC 5 rfl (KE 1000003 rfl (show blk b3 243 _=blk b3 243 (rowU n (k+1)) from congrArg _ (rowU_set (by omega))) KN))) ?_;refine End.normal_block (End.normal_then ?_);refine End.again (k+1) ?_ ?_ ?_
  ·show _<=_; omega
  ·show _-_<_-_; omega
  ·exact(Sv [4,5,1000003] rfl)
 ·refine GT (RV 2 rfl ?_);refine RF ?_;refine RV 2 rfl ?_;refine RQ (ok_lenV U38 rfl) ?_;refine RQ (ok_bin rfl rfl rfl) ?_;refine RT ?_;refine RVN 1 rfl ?_;refine A.yes rfl ?_;refine QK (A.block (GT (RV 2 rfl ?_)));refine Rw (un n k+4) ?_;refine RB rfl rfl rfl ?_;refine Rw (un n k+3) ?_;refine RS (ok_div rfl rfl (by decide)) ?_;refine RZ (nI (un n (k+1))) (by rw[tdiv_lit _ (by decide)]; exact wrap_eq rfl (by first|omega|(simp only[Int.toNat]; omega))) ?_;refine RVN 1 rfl ?_;refine GE (TF 3 (RV 2 rfl ?_));refine RS (ok_build1N U38 infoPI rfl rfl) ?_;refine RN ?_;refine⟨_,eff_appendRoom (n:=24) (s:=1000003) (k:=k) (c:=6) (us:=[nI (un n (k+1))]) U38 infoPI rfl rfl rfl rfl (by omega) hBb3 rfl (by rw[rowU_length]; decide) (fun q hq=>by rw[U38] at hq; cases hq) (by decide) (LV 5 rfl LN),?_⟩
  refine TL (RVN 1 rfl ?_);refine End.sub (KC 4 rfl (KC 5 rfl (KE 1000003 rfl (show blk b3 243 _=blk b3 243 (rowU n (k+1)) from congrArg _ (rowU_set (by omega))) KN))) ?_;refine End.normal_block (End.normal_then ?_);refine End.again (k+1) ?_ ?_ ?_
  ·show _<=_; omega
  ·show _-_<_-_; omega
  ·exact(Sv [4,5,1000003] rfl)
 ·refine GT (RV 2 rfl ?_);refine RF ?_;refine RV 2 rfl ?_;refine RQ (ok_lenV U38 rfl) ?_;refine RQ (ok_bin rfl rfl rfl) ?_;refine RF ?_;refine RVN 1 rfl ?_;refine A.no rfl ?_;refine A.exit (End.exit_then (End.exit_then (End.exit_here (EN (GV rfl (A.ret ?_))))));exact End.newF rfl rfl (kg:=1000003) rfl hBb3 (by rw[hA'']) (by rw[hA''])
theorem shapeOf_fnB(n:Nat)(h1:1<=n)(h2:n<=4096): FnB Tryz.prog 90 [.v (nI (n))] (fun B=>newD B 243 (fun b=>aggV (shV n b)) (rowU n (hg n+1))):=by
 refine FnB.of Tryz.func90 rfl (by kernel_rfl) Tryz.ntmps90 (by simp) (fun w=>[(0,.v (nI (n)))]) (fun w=>(Start.v rfl Start.nil)) fun w₀=>?_
 refine GS (TN 0 (RN ?_));refine ZN 1000002 zero183 fun b2 ⟨hBb2,hb2⟩=>?_
 refine TL (RN (QS (GT (RM rfl ?_))));refine RS (ok_call (Check_ok n h1 h2) (A1 rfl)) ?_;refine RB rfl rfl rfl ?_;refine RF ?_;refine RN (A.no rfl ?_);refine QK (GS (TN 2 (RVN 2 rfl ?_)));refine ZM 1000009 (fun B'=>OCB (countsOf_fnB n h1 h2) (A1 rfl)) rfl fun b9 ⟨hBb9,hb9⟩=>?_
 have hlt_b2_b9:=hb9 1000002 b2 _ _ rfl
 refine TF 4 (RS (ok_litS [(0,nI n),(1,.slice (some ⟨b9,0,none⟩) (hg n+1) 6)] (shV n b9) ⟨rfl,rfl,rfl,rfl,trivial⟩ (buildSh _ _ _ _)) ?_);refine RN ?_;refine ZA 1000002 (size183.of rfl) hBb2 rfl rfl rfl (LV 2 rfl (LT 1000009 rfl LN)) ?_;refine TL (RN (A.ret ?_));exact End.new1 rfl U183 rfl (size183.of rfl) rfl (s:=1000002) rfl (kg:=1000009) rfl hBb9 rfl rfl
theorem height_fn(n b:Nat): Fn Tryz.prog 93 [.v (aggV (shV n b))] (.v (nI (hg n))):=by
 have hh:=hg_le n
 refine FV Tryz.func93 rfl Tryz.ntmps93 rfl fun w₀=>?_
 refine GS (TN 0 (RN ?_));refine ZB 1000001 rfl fun b1 ⟨hBb1,hb1⟩=>?_
 refine TL (RVN 1 rfl ?_);refine GT (Rf field183_1 ?_);refine RLV 1000001 U38 rfl rfl rfl ?_;refine RS (ok_lenV U38 rfl) ?_;refine RB rfl rfl rfl ?_;refine Rw (hg n) ?_;refine RVN 1 rfl ?_;refine A.ret ?_;exact ER rfl rfl
theorem hasLevel_y(n b l:Nat)(hl:l<=hg n): Fn Tryz.prog 126 [.v (aggV (shV n b)),.v (nI (l))] (.v (.bool true)):=by
 refine FV Tryz.func126 rfl Tryz.ntmps126 rfl fun w₀=>?_
 refine GS (TN 0 (RN ?_));refine ZB 1000002 rfl fun b2 ⟨hBb2,hb2⟩=>?_
 refine TL (RVN 1 rfl ?_);refine GT (RM rfl ?_);refine Rf field183_1 ?_;refine RLV 1000002 U38 rfl rfl rfl ?_;refine RS (ok_lenV U38 rfl) ?_;refine RS (ok_call (within_y _ _ (by omega) (by omega)) (A2 rfl rfl)) ?_;refine RVN 1 rfl ?_;refine A.ret ?_;exact ER rfl rfl
theorem hasLevel_n(n b:Nat)(l:Int)(hl:¬ (0<=l∧l<=hg n)): Fn Tryz.prog 126 [.v (aggV (shV n b)),.v (.int .i64 (l))] (.v (.bool false)):=by
 refine FV Tryz.func126 rfl Tryz.ntmps126 rfl fun w₀=>?_
 refine GS (TN 0 (RN ?_));refine ZB 1000002 rfl fun b2 ⟨hBb2,hb2⟩=>?_
 refine TL (RVN 1 rfl ?_);refine GT (RM rfl ?_);refine Rf field183_1 ?_;refine RLV 1000002 U38 rfl rfl rfl ?_;refine RS (ok_lenV U38 rfl) ?_;refine RS (ok_call (within_n _ _ (by omega)) (A2 rfl rfl)) ?_;refine RVN 1 rfl ?_;refine A.ret ?_;exact ER rfl rfl
theorem has_y(n b:Nat)(l j:Nat)(hl:l<=hg n)(hj:j<un n (l+1)): FnM Tryz.prog 92 (shM n b) [.v (aggV (shV n b)),.v (aggV (plV l j))] (.v (.bool true)):=by
 have hh:=hg_le n
 refine FnM.of Tryz.func92 rfl (by kernel_rfl) Tryz.ntmps92 (by simp) (by decide) (fun w=>[(0,.v (aggV (shV n b))),(1,.v (aggV (plV l j))),(1900000,blk b 243 (rowU n (hg n+1)))]) (fun w=>(StartM.v rfl (StartM.v rfl (StartM.m (by simp[shM]) (by decide) StartM.nil)))) fun w₀ hM=>?_
 skip
 refine GS (TN 0 (RN ?_));refine ZB 1000002 rfl fun b2 ⟨hBb2,hb2⟩=>?_
 refine TN 1 (RN ?_);refine ZB 1000003 rfl fun b3 ⟨hBb3,hb3⟩=>?_
 refine TL (RVN 1 rfl ?_);refine GTD (RL 1000002 U183 rfl rfl (size183.of rfl) ?_);refine Rf field131_0 ?_;refine RLV 1000003 U3 rfl rfl rfl ?_;refine RS (ok_call (hasLevel_y n b l hl) (A2 rfl rfl)) ?_;refine RM rfl ?_;refine RQ (ok_field field131_1 (by decide) rfl) ?_;refine RQ (ok_loadV (s:=1000003) (by decide) U3 rfl rfl rfl (rfl)) ?_;refine RQ (ok_field field183_1 (by decide) rfl) ?_;refine RQ (ok_loadV (s:=1000002) (by decide) U38 rfl rfl rfl (rfl)) ?_;refine RQ (ok_field field131_0 (by decide) rfl) ?_;refine RQ (ok_loadV (s:=1000003) (by decide) U3 rfl rfl rfl (rfl)) ?_;refine RQ (ok_indexV l U38 info3 rfl rfl rfl (by omega)) ?_;refine RQ (ok_loadV (s:=1900000) (by decide) U3 rfl rfl rfl (by rw[Nat.zero_add]; exact rowU_get (by omega) (by omega))) ?_;refine RQ (ok_call (within_y _ _ (by omega) (by omega)) (A2 rfl rfl)) ?_;refine RVN 2 rfl ?_;refine A.ret ?_;exact ER rfl rfl
theorem has_n1(n b l:Nat)(j:Int)(hl:l<=hg n)(hj:¬ (0<=j∧j<un n (l+1))): FnM Tryz.prog 92 (shM n b) [.v (aggV (shV n b)),.v (aggV [nI l,.int .i64 j])] (.v (.bool false)):=by
 have hh:=hg_le n
 refine FnM.of Tryz.func92 rfl (by kernel_rfl) Tryz.ntmps92 (by simp) (by decide) (fun w=>[(0,.v (aggV (shV n b))),(1,.v (aggV [nI l,.int .i64 j])),(1900000,blk b 243 (rowU n (hg n+1)))]) (fun w=>(StartM.v rfl (StartM.v rfl (StartM.m (by simp[shM]) (by decide) StartM.nil)))) fun w₀ hM=>?_
 skip
 refine GS (TN 0 (RN ?_));refine ZB 1000002 rfl fun b2 ⟨hBb2,hb2⟩=>?_
 refine TN 1 (RN ?_);refine ZB 1000003 rfl fun b3 ⟨hBb3,hb3⟩=>?_
 refine TL (RVN 1 rfl ?_);refine GTD (RL 1000002 U183 rfl rfl (size183.of rfl) ?_);refine Rf field131_0 ?_;refine RLV 1000003 U3 rfl rfl rfl ?_;refine RS (ok_call (hasLevel_y n b l hl) (A2 rfl rfl)) ?_;refine RM rfl ?_;refine RQ (ok_field field131_1 (by decide) rfl) ?_;refine RQ (ok_loadV (s:=1000003) (by decide) U3 rfl rfl rfl (rfl)) ?_;refine RQ (ok_field field183_1 (by decide) rfl) ?_;refine RQ (ok_loadV (s:=1000002) (by decide) U38 rfl rfl rfl (rfl)) ?_;refine RQ (ok_field field131_0 (by decide) rfl) ?_;refine RQ (ok_loadV (s:=1000003) (by decide) U3 rfl rfl rfl (rfl)) ?_;refine RQ (ok_indexV l U38 info3 rfl rfl rfl (by omega)) ?_;refine RQ (ok_loadV (s:=1900000) (by decide) U3 rfl rfl rfl (by rw[Nat.zero_add]; exact rowU_get (by omega) (by omega))) ?_;refine RQ (ok_call (within_n _ _ (by omega)) (A2 rfl rfl)) ?_;refine RVN 2 rfl ?_;refine A.ret ?_;exact ER rfl rfl
theorem has_n2(n b:Nat)(l j:Int)(hl:¬ (0<=l∧l<=hg n)): Fn Tryz.prog 92 [.v (aggV (shV n b)),.v (aggV [.int .i64 l,.int .i64 j])] (.v (.bool false)):=by
 refine FV Tryz.func92 rfl Tryz.ntmps92 rfl fun w₀=>?_
 refine GS (TN 0 (RN ?_));refine ZB 1000002 rfl fun b2 ⟨hBb2,hb2⟩=>?_
 refine TN 1 (RN ?_);refine ZB 1000003 rfl fun b3 ⟨hBb3,hb3⟩=>?_
 refine TL (RVN 1 rfl ?_);refine GTD (RL 1000002 U183 rfl rfl (size183.of rfl) ?_);refine Rf field131_0 ?_;refine RLV 1000003 U3 rfl rfl rfl ?_;refine RS (ok_call (hasLevel_n n b l hl) (A2 rfl rfl)) ?_;refine RVN 12 rfl ?_;refine A.ret ?_;exact ER rfl rfl
theorem has_n(n b:Nat)(l j:Int)(h:¬ IsP n l j): FnM Tryz.prog 92 (shM n b) [.v (aggV (shV n b)),.v (aggV [.int .i64 l,.int .i64 j])] (.v (.bool false)):=by
 by_cases hl:0<=l∧l<=hg n
 ·obtain⟨a,rfl⟩:∃ a:Nat,l=(a:Int):=⟨l.toNat,by omega⟩
  refine has_n1 n b a j (by omega) fun hj=>h ⟨a,j.toNat,rfl,by omega,by omega,by omega⟩
 ·exact(has_n2 n b l j hl).m
theorem parts_fn(n b:Nat)(h1:1<=n)(h2:n<=4096)(l j:Nat)(hl:l<=hg n)(hj:j<un n (l+1)): FnM Tryz.prog 111 (shM n b) [.v (aggV (shV n b)),.v (aggV (plV l j))] (.v (nI (pts n l j))):=by
 have hu0:=un_le h1 (l)
 have hv0:=un_pos h1 (l)
 have hu1:=un_le h1 (l+1)
 have hv1:=un_pos h1 (l+1)
 have hh:=hg_le n
 have hp:=pts_pos hj
 refine FnM.of Tryz.func111 rfl (by kernel_rfl) Tryz.ntmps111 (by simp) (by decide) (fun w=>[(0,.v (aggV (shV n b))),(1,.v (aggV (plV l j))),(1900000,blk b 243 (rowU n (hg n+1)))]) (fun w=>(StartM.v rfl (StartM.v rfl (StartM.m (by simp[shM]) (by decide) StartM.nil)))) fun w₀ hM=>?_
 skip
 refine GS (TN 0 (RN ?_));refine ZB 1000002 rfl fun b2 ⟨hBb2,hb2⟩=>?_
 refine TN 1 (RN ?_);refine ZB 1000003 rfl fun b3 ⟨hBb3,hb3⟩=>?_
 refine TL (RVN 1 rfl ?_);refine GT (Rf field183_0 ?_);refine RLV 1000002 U3 rfl rfl rfl ?_;refine RVN 1 rfl ?_;refine QS (GT (Rf field131_0 ?_));refine RLV 1000003 U3 rfl rfl rfl ?_;refine RVN 1 rfl ?_;refine A.cond rfl (fun hc10=>?_) (fun hc10=>?_)
 ·have hl0:0<l:=by simp at hc10; omega
  refine GTE (Rf field183_1 ?_);refine RLV 1000002 U38 rfl rfl rfl ?_;refine Rf field131_0 ?_;refine RLV 1000003 U3 rfl rfl rfl ?_;refine RB rfl rfl rfl ?_;refine Rw (l-1) ?_;refine RS (ok_indexV (l-1) U38 info3 rfl rfl rfl (by omega)) ?_;refine RS (ok_loadV (s:=1900000) (by decide) U3 rfl rfl rfl (by rw[Nat.zero_add]; exact rowU_get (by omega) (by omega))) ?_;refine RZ (nI (un n l)) (by rw[show l-1+1=l from by omega]) ?_;refine RVN 1 rfl ?_;refine EN (GT (RM rfl ?_));refine RZ (nI (un n l)) (by first|rfl|(rw[hl0]; rfl)) ?_;refine Rf field131_1 ?_;refine RLV 1000003 U3 rfl rfl rfl ?_;refine RB rfl rfl rfl ?_;refine Rw (j*4) ?_;refine RB rfl rfl rfl ?_;refine Rw (un n l-j*4) ?_;refine RS (ok_min rfl rfl) ?_;refine RZ (nI (pts n l j)) (congrArg (Value.int .i64) (by unfold pts; omega)) ?_;refine RVN 1 rfl ?_;refine A.ret ?_;exact ER rfl rfl
 ·have hl0:l=0:=by simp at hc10; omega
  refine QK (GT (RM rfl ?_));refine RZ (nI (un n l)) (by first|rfl|(rw[hl0]; rfl)) ?_;refine Rf field131_1 ?_;refine RLV 1000003 U3 rfl rfl rfl ?_;refine RB rfl rfl rfl ?_;refine Rw (j*4) ?_;refine RB rfl rfl rfl ?_;refine Rw (un n l-j*4) ?_;refine RS (ok_min rfl rfl) ?_;refine RZ (nI (pts n l j)) (congrArg (Value.int .i64) (by unfold pts; omega)) ?_;refine RVN 1 rfl ?_;refine A.ret ?_;exact ER rfl rfl
theorem base_fn(n b:Nat)(h1:1<=n)(h2:n<=4096)(l:Nat)(hl:l<=hg n+1): FnM Tryz.prog 128 (shM n b) [.v (aggV (shV n b)),.v (nI (l))] (.v (nI (bs n l))):=by
 have hh:=hg_le n
 refine FnM.of Tryz.func128 rfl (by kernel_rfl) Tryz.ntmps128 (by simp) (by decide) (fun w=>[(0,.v (aggV (shV n b))),(1,.v (nI (l))),(1900000,blk b 243 (rowU n (hg n+1)))]) (fun w=>(StartM.v rfl (StartM.v rfl (StartM.m (by simp[shM]) (by decide) StartM.nil)))) fun w₀ hM=>?_
 skip
 refine GS (TN 0 (RN ?_));refine ZB 1000002 rfl fun b2 ⟨hBb2,hb2⟩=>?_
 refine TL (RVN 1 rfl ?_);refine GT (Rf field183_0 ?_);refine RLV 1000002 U3 rfl rfl rfl ?_;refine RB rfl rfl rfl ?_;refine RZ (nI (bs n 0)) (wrap_eq (by rw[bs_zero]; omega) (by rw[bs_zero]; omega)) ?_;refine RVN 1 rfl ?_;refine QS (GT (Rf field183_1 ?_));refine RLV 1000002 U38 rfl rfl rfl ?_;refine RM rfl ?_;refine RS (ok_sliceS (l:=0) (h:=l) (m:=6) U38 info3 rfl (.inr ⟨rfl,rfl⟩) (.inl ⟨_,_,rfl,rfl⟩) (.inr ⟨rfl,rfl⟩) (Nat.zero_le _) (by omega) (by decide) (.inl (by decide))) ?_;refine RZ (.slice (some ⟨b,0,none⟩) l 6) (by rfl) ?_;refine RS (ok_lenV U38 rfl) ?_;refine RVN 1 rfl ?_;refine A.block ?_;refine A.loop (ι:=Nat) (fun i=>i<=l) (fun i=>[(5,.v (nI (bs n i))),(14,.v (.slice (some ⟨b,0,none⟩) l 6)),(15,.v (nI (l))),(16,.v (nI (i))),(1900000,blk b 243 (rowU n (hg n+1)))]) (fun i=>l-i) 0 ?_ ?_ ?_
 ·exact Nat.zero_le _
 ·exact(Sv [5,14,15,16,1900000] rfl)
 intro i hi
 have hu0:=un_le h1 (i+1)
 have hv0:=un_pos h1 (i+1)
 refine GV rfl (QS ?_);refine A.cond rfl (fun hc17=>?_) (fun hc17=>?_)
 ·have hlt:i<l:=by simp at hc17; omega
  refine QK (QSB (GT (RS (ok_indexV i U38 info3 rfl rfl rfl (by omega)) ?_)));refine RS (ok_loadV (s:=1900000) (by decide) U3 rfl rfl rfl (by rw[Nat.zero_add]; exact rowU_get (by omega) (by omega))) ?_;refine RVN 1 rfl ?_;refine GTE (RV 3 rfl ?_);refine RZ (nI (un n (i+1)*2)) (wrap_eq (by omega) (by omega)) ?_;refine RB rfl rfl rfl ?_;refine RZ (nI (bs n (i+1))) (wrap_eq (by rw[bs_succ]; omega) (by have:=bs_small h1 h2 (l:=i+1) (by omega); omega)) ?_;refine RVN 1 rfl ?_;refine End.normal_block (EN (GTE (RB rfl rfl rfl ?_)));refine Rw (i+1) ?_;refine RVN 1 rfl ?_;refine End.normal_then ?_;refine End.again (i+1) ?_ ?_ ?_
  ·show _<=_; omega
  ·show _-_<_-_; omega
  ·exact(Sv [5,14,15,16,1900000] rfl)
 ·obtain rfl:i=l:=by simp at hc17; omega
  refine A.exit (End.exit_then (End.exit_then (End.exit_here (EN (GV rfl (A.ret ?_))))));exact ER rfl rfl
theorem sectors_fn(n b:Nat)(h1:1<=n)(h2:n<=4096): FnM Tryz.prog 127 (shM n b) [.v (aggV (shV n b))] (.v (nI (bs n (hg n+1)))):=by
 refine FnM.of Tryz.func127 rfl (by kernel_rfl) Tryz.ntmps127 (by simp) (by decide) (fun w=>[(0,.v (aggV (shV n b))),(1900000,blk b 243 (rowU n (hg n+1)))]) (fun w=>(StartM.v rfl (StartM.m (by simp[shM]) (by decide) StartM.nil))) fun w₀ hM=>?_
 skip
 refine GS (TN 0 (RN ?_));refine ZB 1000001 rfl fun b1 ⟨hBb1,hb1⟩=>?_
 refine TL (RVN 1 rfl ?_);refine GT (RL 1000001 U183 rfl rfl (size183.of rfl) ?_);refine Rf field183_1 ?_;refine RLV 1000001 U38 rfl rfl rfl ?_;refine RS (ok_lenV U38 rfl) ?_;refine RS (ok_callK 1900000 (base_fn n b h1 h2 (hg n+1) (Nat.le_refl _)) (by decide) rfl (A2 rfl rfl)) ?_;refine RVN 1 rfl ?_;refine A.ret ?_;exact ER rfl rfl
theorem hasBlock_y(n:Nat)(h1:1<=n)(h2:n<=4096)(x:Nat)(hx:x<n): Fn Tryz.prog 89 [.v (nI (n)),.v (nI (x))] (.v (.bool true)):=by
 refine FV Tryz.func89 rfl Tryz.ntmps89 rfl fun w₀=>?_
 refine GV rfl (GT (RM rfl ?_));refine RS (ok_call (Check_ok n h1 h2) (A1 rfl)) ?_;refine RB rfl rfl rfl ?_;refine RT ?_;refine RV 3 rfl ?_;refine RQ (ok_call (within_y _ _ (by omega) (by omega)) (A2 rfl rfl)) ?_;refine RVN 2 rfl ?_;refine A.ret ?_;exact ER rfl rfl
theorem hasBlock_n(n:Nat)(h1:1<=n)(h2:n<=4096)(x:Int)(hx:¬ (0<=x∧x<n)): Fn Tryz.prog 89 [.v (nI (n)),.v (.int .i64 (x))] (.v (.bool false)):=by
 refine FV Tryz.func89 rfl Tryz.ntmps89 rfl fun w₀=>?_
 refine GV rfl (GT (RM rfl ?_));refine RS (ok_call (Check_ok n h1 h2) (A1 rfl)) ?_;refine RB rfl rfl rfl ?_;refine RT ?_;refine RV 3 rfl ?_;refine RQ (ok_call (within_n _ _ (by omega)) (A2 rfl rfl)) ?_;refine RVN 2 rfl ?_;refine A.ret ?_;exact ER rfl rfl
section
variable {κ:Cx}
def subs:List Nat->List (List Nat)
 | []=>[[]]
 | x::r=>subs r++(subs r).map (x::·)
theorem filter_subs (f:Nat->Bool):∀ l:List Nat,l.filter f∈subs l
 | []=>by simp[subs]
 | x::r=>by
  have ih:=filter_subs f r
  rw[List.filter_cons,subs,List.mem_append]
  split
  ·exact .inr (List.mem_map.2 ⟨_,ih,rfl⟩)
  ·exact .inl ih
def keeps (ops:Array Oper) (S:List Nat) (t:Nat):Bool:=!(S.any fun i=>((ops[i]?).bind (·.dst))==some t)
def without (ops:Array Oper) (S:List Nat) (E:Env):Env:=E.filter fun q=>keeps ops S q.1
theorem without_look {ops:Array Oper} {S:List Nat} {t:Nat} {d:D}:∀ {E:Env},(without ops S E).look t=some d->E.look t=some d∧keeps ops S t=true
 | [],h=>by simp[without,Env.look] at h
 | (s,e)::E,h=>by
  unfold without at h
  rw[List.filter_cons] at h
  by_cases hst:s=t
  ·subst hst
   by_cases hk:keeps ops S s=true
   ·rw[if_pos hk] at h
    rw[look_here] at h ⊢
    exact⟨h,hk⟩
   ·rw[if_neg hk] at h
    exact absurd (without_look (E:=E) h).2 hk
  ·rw[look_past _ _ hst]
   split at h
   ·rw[look_past _ _ hst] at h; exact without_look (E:=E) h
   ·exact without_look (E:=E) h
theorem look_without {ops:Array Oper} {S:List Nat} {t:Nat} {d:D} (hk:keeps ops S t=true):∀ {E:Env},E.look t=some d->(without ops S E).look t=some d
 | [],h=>by simp[Env.look] at h
 | (s,e)::E,h=>by
  unfold without
  rw[List.filter_cons]
  by_cases hst:s=t
  ·subst hst
   rw[if_pos hk]
   rw[look_here] at h ⊢
   exact h
  ·rw[look_past _ _ hst] at h
   split
   ·rw[look_past _ _ hst]; exact look_without hk h
   ·exact look_without hk h
def listedS (ops:Array Oper) (p:Nat) (S:List Nat):Array Bool:=((List.range ops.size).map fun i=>decide (i<p) && !S.contains i).toArray
theorem listedS_get{p:Nat}{S:List Nat}(h:i<ops.size): (listedS ops p S)[i]?=some (decide (i<p) && !S.contains i):=by simp[listedS,h]
def lateOk (ops:Array Oper) (p:Nat) (late:List Nat):Bool :=
 let b:=(befores ops).map List.eraseDups
 decide (p<ops.size)&&late.all (·<p)&&(List.range ops.size).all fun i=>decide (i<p)||((List.range p).all fun j=>late.contains j||(b.getD i []).contains j)&&(i==p||(b.getD i []).contains p)
theorem AnyT.mono {P:Program} {n B:Nat} {ops:Array Oper} {C:Env->Prop}:∀ {m k:Nat} {listed:Array Bool} {E:Env},m<=k->AnyT P n B ops C m listed E->AnyT P n B ops C k listed E
 | 0,k,_,_,_,⟨hr,hC⟩=>AnyT.last hr hC
 | m+1,0,_,_,h,_=>absurd h (by omega)
 | m+1,k+1,_,_,h,.inl h'=>.inl h'
 | m+1,k+1,_,_,h,.inr ⟨hne,h'⟩=>.inr ⟨hne,fun i hi=>by
  obtain⟨o,ho,ι,G,E₂,he,hn⟩:=h' i hi
  exact⟨o,ho,ι,G,E₂,he,fun j hj=>AnyT.mono (by omega) (hn j hj)⟩⟩
section
variable {P:Program} {n B:Nat} {ops:Array Oper} {Q:Exit->Act->World->Prop}
theorem wp_segL{p : Nat}{late : List Nat}{a₀ : Act}(htied : tied ops = true)(hfits : fits n ops = true)(hlate : lateOk ops p late = true)(ht : Trace P B ops (ops.toList.take p) E ds E')(h₀ : St κ n B E a₀ w₀)
    (hnext : ∀ S ∈ subs late, ∀ fuel a' w', unlisted ops (listedS ops p S) <= fuel + 1 -> Grow w₀ w' -> St κ n B (without ops S E') a' w' -> wpOpIn (FR κ.rd) 0 P ops Q p (wpAnyIn (FR κ.rd) 0 P .any ops Q fuel ((listedS ops p S).setIfInBounds p true)) a' w'):
    ∀ (fuel : Nat) (listed : Array Bool) (a : Act) (w : World), unlisted ops listed <= fuel -> Inv κ n B ops 0 p E ds a₀ w₀ listed a w -> wpAnyIn (FR κ.rd) 0 P .any ops Q fuel listed a w := by
  have hb := hlate
  simp only [lateOk, Bool.and_eq_true, decide_eq_true_eq, List.all_eq_true, List.mem_range, Bool.or_eq_true, beq_iff_eq] at hb
  obtain ⟨⟨hp, hlp⟩, hb⟩ := hb
  have hidx : ∀ (i : Nat) (o : Oper), i < p -> ops[i]? = some o -> (ops.toList.take p)[i]? = some o := fun i o h2 h3 => by
    rw [List.getElem?_take, if_pos h2]; simpa using h3
  have hidx' : ∀ (j : Nat) (o : Oper), (ops.toList.take p)[j]? = some o -> ops[j]? = some o ∧ j < p := fun j o h => by
    rw [List.getElem?_take] at h
    split at h
    · exact ⟨by simpa using h, by assumption⟩
    · cases h
  have hends : ∀ (listed : Array Bool) (a : Act) (w : World), Inv κ n B ops 0 p E ds a₀ w₀ listed a w -> Region.ready .any ops listed = [] -> False := by
    intro listed a w I hr
    have hall : ∀ i, i < ops.size -> listed.getD i false = true := by
      intro i
      induction i using Nat.strongRecOn with
      | _ i ih =>
        intro hi
        rcases hb : listed.getD i false with _ | _
        · exfalso
          have : i ∈ Region.ready .any ops listed := by
            rw [mem_ready]
            refine ⟨?_, ops[i], Array.getElem?_eq_getElem hi, fun e he hbd => ih e.on (tied_edge htied (Array.getElem?_eq_getElem hi) he hbd) (Nat.lt_trans (tied_edge htied (Array.getElem?_eq_getElem hi) he hbd) hi)⟩
            have : i < listed.size := by rw [I.lsize]; exact hi
            simp [this] at hb ⊢
            exact hb
          rw [hr] at this
          cases this
        · rfl
    have h1 := hall p hp
    rw [I.high p (Nat.le_refl _)] at h1
    cases h1
  intro fuel
  induction fuel with
  | zero =>
    intro listed a w hc I
    have hr : Region.ready .any ops listed = [] := by
      rcases hr : Region.ready .any ops listed with _ | ⟨i, l⟩
      · rfl
      · exfalso
        have hi : i ∈ Region.ready .any ops listed := by rw [hr]; exact List.mem_cons_self
        obtain ⟨hu, o, ho, _⟩ := mem_ready.1 hi
        have hpos : 0 < unlisted ops listed := List.countP_pos_iff.2 ⟨i, List.mem_range.2 (Array.getElem?_eq_some_iff.1 ho).1, by simp only [hu]; rfl⟩
        omega
    exact (hends listed a w I hr).elim
  | succ fuel ih =>
    intro listed a w hc I
    refine ⟨fun hr => (hends listed a w I hr).elim, fun i hi => ?_⟩
    obtain ⟨hu, o, ho, hall⟩ := mem_ready.1 hi
    have hlt : i < ops.size := (Array.getElem?_eq_some_iff.1 ho).1
    have huf : listed.getD i false = false := by
      have : i < listed.size := by rw [I.lsize]; exact hlt
      simp [this] at hu ⊢
      exact hu
    have hready : ∀ o', ops[i]? = some o' -> ∀ e ∈ o'.after, Region.binds .any e = true -> listed.getD e.on false = true := fun o' ho' e he hb => by
      rw [ho] at ho'; injection ho' with ho'; subst ho'; exact hall e he hb
    rcases Nat.lt_or_ge i p with hip | hip
    case inr =>
      have hmem : ∀ k l, l ∈ (Array.map List.eraseDups (befores ops)).getD k [] -> l ∈ (befores ops).getD k [] := fun k l h => by
        rw [Array.getD_eq_getD_getElem?, Array.getElem?_map] at h
        rw [Array.getD_eq_getD_getElem?]
        cases hk : (befores ops)[k]? with
        | none => rw [hk] at h; simp at h
        | some v => rw [hk] at h; simpa using h
      obtain ⟨hb1, hb2⟩ := (hb i hlt).resolve_left (by omega)
      have hi : i = p := by
        rcases hb2 with h | h
        · exact h
        · have h2 := I.befores htied i p hready (hmem i p (by simpa using h))
          rw [I.high p (Nat.le_refl _)] at h2
          cases h2
      subst hi
      have hlow : ∀ k, k < i -> k ∉ late -> listed.getD k false = true := fun k hk hnl => by
        have h1 := (hb1 k hk).resolve_left (by simpa using hnl)
        exact I.befores htied i k hready (hmem i k (by simpa using h1))
      have hS := filter_subs (fun j => !listed.getD j false) late
      have hlist : listed = listedS ops i (late.filter fun j => !listed.getD j false) := by
        apply Array.ext_getElem?
        intro k
        rcases Nat.lt_or_ge k ops.size with hk | hk
        · rw [listedS_get hk]
          have hk' : k < listed.size := by rw [I.lsize]; exact hk
          have hg : listed[k]? = some (listed.getD k false) := by simp [hk']
          rw [hg]
          congr 1
          rcases Nat.lt_or_ge k i with h | h
          · by_cases hkl : k ∈ late
            · cases hv : listed.getD k false with
              | true => rw [Array.getD_eq_getD_getElem?] at hv; simp [h, hkl, hv]
              | false => rw [Array.getD_eq_getD_getElem?] at hv; simp [h, hkl, hv]
            · rw [hlow k h hkl]; simp [h, hkl]
          · rw [I.high k h]; simp; omega
        · rw [Array.getElem?_eq_none (by rw [I.lsize]; exact hk), Array.getElem?_eq_none (by simp [listedS]; exact hk)]
      have hst : St κ n B (without ops (late.filter fun j => !listed.getD j false) E') a w := by
        refine ⟨I.base, I.defers, I.size, fun t e he => ?_⟩
        obtain ⟨he, hkeep⟩ := without_look he
        rcases ht.last t e he with ⟨j, o', hj, hd, hds⟩ | ⟨hno, hl⟩
        · obtain ⟨hj', hjp⟩ := hidx' j o' hj
          refine I.facts j o' t e (Nat.zero_le _) hj' ?_ hd (by rw [Nat.sub_zero]; exact hds)
          by_cases hjl : j ∈ late
          · cases hv : listed.getD j false with
            | true => rfl
            | false =>
              exfalso
              simp only [keeps, Bool.not_eq_true', List.any_eq_false, beq_iff_eq] at hkeep
              exact hkeep j (List.mem_filter.2 ⟨hjl, by simp [hv]⟩) (by rw [hj']; exact hd)
          · exact hlow j hjp hjl
        · rw [I.frame t fun j o' _ hj hl' => ?_]
          · exact (h₀.of t e hl).grow I.grow
          · rcases Nat.lt_or_ge j i with hjp | hjp
            · exact hno j o' (hidx j o' hjp hj)
            · rw [I.high j hjp] at hl'; cases hl'
      have := hnext _ hS fuel a w (by rw [<- hlist]; exact hc) I.grow hst
      rw [<- hlist] at this
      exact this
    obtain ⟨t, d, Ei, hdst, hds, hgood, henv⟩ := ht.nth (i := i) (o := o) (hidx i o hip ho)
    have hf := fits_mem hfits (o := o) (by simpa using Array.mem_of_getElem? ho)
    refine wpOpR_step ho fun K hK => good_wp I.base (fun t e hvt he => ?_) hdst hgood (fun r e hs he => ?_) (fun r hs => by rw [I.size]; exact hf.1 r hs) fun x w' g hx => hK _ _ (ih _ _ _ ?_ ?_)
    · have hnb := fits_base hfits
      rcases henv t e he with ⟨j, q, hji, hj, hpd, hpds⟩ | ⟨hno, hl⟩
      · obtain ⟨hj', _⟩ := hidx' j q hj
        have h9 : t < n := (fits_mem hfits (o := q) (by simpa using Array.mem_of_getElem? hj')).2 t hpd
        exact absurd (Nat.lt_of_lt_of_le h9 hnb) (Nat.not_lt.2 hvt)
      · have h1 := (h₀.virt hnb) t e hvt hl
        exact h1.grow I.grow
    · rcases henv r e he with ⟨j, q, hji, hj, hpd, hpds⟩ | ⟨hno, hl⟩
      · obtain ⟨hj', hjp⟩ := hidx' j q hj
        obtain ⟨ed, he1, hb, hon⟩ := ((tied_pair htied ho hj' hpd (by omega)).2 hs).1 (by omega)
        refine I.facts j q r e (Nat.zero_le _) hj' ?_ hpd (by rw [Nat.sub_zero]; exact hpds)
        rw [<- hon]
        exact hall ed he1 hb
      · rw [I.frame r]
        · exact (h₀.of r e hl).grow I.grow
        · intro j q hsj hj hlist hpd
          by_cases hji : j = i
          · subst hji; rw [huf] at hlist; cases hlist
          · rcases Nat.lt_or_ge j i with h | h
            · exact hno j q h (hidx j q (by omega) hj) hpd
            · obtain ⟨ed, he1, hb, hon⟩ := ((tied_pair htied ho hj hpd hji).2 hs).2 (by omega)
              have := I.closed j q hj hlist ed he1 hb
              rw [hon, huf] at this
              cases this
    · have : unlisted ops (listed.setIfInBounds i true) < unlisted ops listed := by
        refine countP_lt (x := i) (fun y hy => ?_) (List.mem_range.2 hlt) (by simp only [hu]; rfl) ?_
        · by_cases hyi : i = y
          · subst hyi
            have : i < listed.size := by rw [I.lsize]; exact hlt
            simp [this] at hy
          · rw [getD_set_ne true hyi] at hy; exact hy
        · have : i < listed.size := by rw [I.lsize]; exact hlt
          simp [this]
      omega
    · have hset : ∀ j, (listed.setIfInBounds i true).getD j false = true -> j = i ∨ listed.getD j false = true := fun j hj => by
        by_cases hji : i = j
        · exact .inl hji.symm
        · rw [getD_set_ne false hji] at hj; exact .inr hj
      refine ⟨I.grow.trans g, Nat.le_trans I.base g.size, by simp [I.lsize], fun j hj hj' => by omega, fun j hj => ?_, I.defers, by simp [Act.put, I.size], ?_, ?_, ?_⟩
      · rw [getD_set_ne false (by omega)]; exact I.high j hj
      · intro j q hj hl e he hb
        rcases hset j hl with rfl | hl
        · rw [ho] at hj; injection hj with hj; subst hj
          exact getD_set_true (hall e he hb)
        · exact getD_set_true (I.closed j q hj hl e he hb)
      · intro j q r e hsj hj hl hpd hpds
        by_cases hji : j = i
        · subst hji
          rw [ho] at hj; injection hj with hj; subst hj
          rw [hdst] at hpd; injection hpd with hpd; subst hpd
          rw [Nat.sub_zero, hds] at hpds; injection hpds with hpds; subst hpds
          rw [getD_put_here _ _ (by rw [I.size]; exact hf.2 _ hdst)]
          exact hx
        · have hl' := (hset j hl).resolve_left hji
          have hne : t ≠ r := fun h => (tied_pair htied ho hj hpd hji).1 (by rw [hdst, h])
          rw [getD_put_past _ _ hne]
          exact (I.facts j q r e hsj hj hl' hpd hpds).grow g
      · intro r hs
        have hne : t ≠ r := fun h => hs i o (Nat.zero_le _) ho (by have : i < listed.size := by rw [I.lsize]; exact hlt
                                                                   simp [this]) (by rw [hdst, h])
        rw [getD_put_past _ _ hne]
        refine I.frame r fun j q hsj hj hl => hs j q hsj hj (getD_set_true hl)
def LateT (P:Program) (n B:Nat) (ops:Array Oper) (C:Env->Prop) (p m:Nat) (S:List Nat) (E:Env):Prop :=
 m+1<=unlisted ops (listedS ops p S)∧∃ E₀,Sub E₀ E∧((E₀.map (·.1)).all (keeps ops S))=true∧∃ o,ops[p]?=some o∧∃ E₂,Eff P n B ops o E₀ E₂∧AnyT P n B ops C m ((listedS ops p S).setIfInBounds p true) E₂
end
end
section
variable {κ:Cx}
section
variable {α β:Type} {v:α->List β} {k:Nat}
theorem flat_length{L:List α}(h:∀ a∈L,(v a).length=k): (L.flatMap v).length=L.length*k:=by
 induction L with
 | nil=>simp
 | cons a L ih =>
  rw[List.flatMap_cons,List.length_append,ih (fun x hx=>h x (List.mem_cons_of_mem _ hx)),h a List.mem_cons_self,List.length_cons,Nat.succ_mul,Nat.add_comm]
theorem flat_drop{L:List α}(h:∀ a∈L,(v a).length=k)(i:Nat): (L.flatMap v).drop (i*k)=(L.drop i).flatMap v:=by
 induction i generalizing L with
 | zero=>simp
 | succ i ih =>
  cases L with
  | nil=>simp
  | cons a L =>
   rw[List.flatMap_cons,List.drop_succ_cons,<- ih (fun x hx=>h x (List.mem_cons_of_mem _ hx)),List.drop_append,h a List.mem_cons_self,Nat.succ_mul,List.drop_eq_nil_of_le (by rw[h a List.mem_cons_self]; omega),List.nil_append]
   congr 1; omega
theorem flatM_at{L:List α}(h:∀ a∈L,(v a).length=k)(hi:i<L.length): ((L.flatMap v).drop (i*k)).take k=v L[i]:=by
 rw[flat_drop h,List.drop_eq_getElem_cons hi,List.flatMap_cons]
 exact List.take_left' (h _ (List.getElem_mem hi))
theorem flat_getD{L:List α}(h:∀ a∈L,(v a).length=k)(hi:i<L.length)(z:α): ((L.flatMap v).drop (i*k)).take k=v (L.getD i z):=by
 rw[flatM_at h hi]; simp[hi]
theorem flat_set{L:List α}(h:∀ a∈L,(v a).length=k)(hi:i<L.length){a:α}(ha:(v a).length=k): (L.flatMap v).take (i*k)++v a++(L.flatMap v).drop (i*k+k)=(L.set i a).flatMap v:=by
 induction i generalizing L with
 | zero =>
  cases L with
  | nil=>cases hi
  | cons b L =>
   simp only[Nat.zero_mul,List.take_zero,List.nil_append,Nat.zero_add,List.set_cons_zero,List.flatMap_cons]
   rw[List.drop_left' (h b List.mem_cons_self)]
 | succ i ih =>
  cases L with
  | nil=>cases hi
  | cons b L =>
   have hb:=h b List.mem_cons_self
   rw[List.set_cons_succ,List.flatMap_cons,List.flatMap_cons,<- ih (fun x hx=>h x (List.mem_cons_of_mem _ hx)) (by simpa using hi),Nat.succ_mul,List.take_append,List.drop_append,List.take_of_length_le (by omega),List.drop_eq_nil_of_le (by omega),hb,
    show i*k+k-k=i*k from by omega,show i*k+k+k-k=i*k+k from by omega]
   simp only[List.append_assoc,List.nil_append]
theorem rmid_at{pre suf:List β}{L:List α}(h:∀ a∈L,(v a).length=k){o:Nat}(ho:pre.length=o)(hi:i<L.length)(z:α): ((pre++(L.flatMap v++suf)).drop (o+i*k)).take k=v (L.getD i z):=by
 have hl:=flat_length h
 have hle:i*k+k<=L.length*k:=by rw[<- Nat.succ_mul]; exact Nat.mul_le_mul_right _ hi
 rw[<- List.drop_drop,List.drop_left' ho,List.drop_append,Nat.sub_eq_zero_of_le (by omega),List.drop_zero,List.take_append_of_le_length (by rw[List.length_drop]; omega),flat_getD h hi z]
theorem rmid_set{pre suf:List β}{L:List α}(h:∀ a∈L,(v a).length=k){o:Nat}(ho:pre.length=o)(hi:i<L.length){a:α}(ha:(v a).length=k):
  (pre++(L.flatMap v++suf)).take (o+i*k)++v a++(pre++(L.flatMap v++suf)).drop (o+i*k+(v a).length)=pre++((L.set i a).flatMap v++suf):=by
 have hl:=flat_length h
 have hle:i*k+k<=L.length*k:=by rw[<- Nat.succ_mul]; exact Nat.mul_le_mul_right _ hi
 rw[<- flat_set h hi ha,ha,Nat.add_assoc,<- List.drop_drop,List.drop_left' ho,<- ho,List.take_length_add_append,List.take_append_of_le_length (by omega),List.drop_append,Nat.sub_eq_zero_of_le (n:=i*k+k) (m:=(L.flatMap v).length) (by omega),List.drop_zero]
 simp only[List.append_assoc]
def pg (z:α) (f:Nat->α) (i:Nat):List α:=(List.range 4).map fun k=>if k<i then f k else z
theorem pg_length(z:α)(f:Nat->α)(i:Nat): (pg z f i).length=4:=by simp[pg]
theorem pg_getD(z:α)(f:Nat->α)(i:Nat)(hj:j<4)(d:α): (pg z f i).getD j d=if j<i then f j else z:=by
 simp[pg,hj]
theorem pg_zero(z:α)(f:Nat->α): pg z f 0=List.replicate 4 z:=by simp[pg,List.range,List.range.loop,List.replicate]
theorem pg_set(z:α)(f:Nat->α)(hi:i<4): (pg z f i).set i (f i)=pg z f (i+1):=by
 apply List.ext_getElem
 ·simp[pg]
 intro j h1 h2
 rw[pg_length] at h2
 simp only[pg,List.getElem_set,List.getElem_map,List.getElem_range]
 by_cases hij:i=j
 ·subst hij; rw[if_pos rfl,if_pos (by omega)]
 ·rw[if_neg hij]
  by_cases hj:j<i
  ·rw[if_pos hj,if_pos (by omega)]
  ·rw[if_neg hj,if_neg (by omega)]
theorem pg_mem{z:α}{f:Nat->α}{a:α}(h:a∈pg z f i): a=z∨∃ k,k<4∧k<i∧a=f k:=by
 simp only[pg,List.mem_map,List.mem_range] at h
 obtain⟨k,hk,rfl⟩:=h
 by_cases h:k<i
 ·rw[if_pos h]; exact .inr ⟨k,hk,h,rfl⟩
 ·rw[if_neg h]; exact .inl rfl
theorem getD_mem4{L:List α}(h:L.length=4)(hi:i<4)(z:α): L.getD i z∈L:=by
 rw[List.getD_eq_getElem?_getD,List.getElem?_eq_getElem (by omega)]
 exact List.getElem_mem _
theorem ext4{L L':List α}(h:L.length=4)(h':L'.length=4)(z:α)(he:∀ i,i<4->L.getD i z=L'.getD i z): L=L':=by
 apply List.ext_getElem (by omega)
 intro i h1 h2
 have:=he i (by omega)
 simpa [h1,h2] using this
end
def fst4 (f:Nat->Int):Int:=if f 0≠0 then f 0 else if f 1≠0 then f 1 else if f 2≠0 then f 2 else f 3
theorem fst4_at{f:Nat->Int}(hi:i<4)(h:∀ k,k<i->f k=0)(h0:f i≠0): f i=fst4 f:=by
 unfold fst4
 match i,hi with
 | 0,_=>rw[if_pos h0]
 | 1,_=>rw[if_neg (by simp[h 0 (by decide)]),if_pos h0]
 | 2,_=>rw[if_neg (by simp[h 0 (by decide)]),if_neg (by simp[h 1 (by decide)]),if_pos h0]
 | 3,_=>rw[if_neg (by simp[h 0 (by decide)]),if_neg (by simp[h 1 (by decide)]),if_neg (by simp[h 2 (by decide)])]
theorem fst4_no{f:Nat->Int}(h:∀ k,k<4->f k=0): fst4 f=0:=by
 unfold fst4
 rw[if_neg (by simp[h 0 (by decide)]),if_neg (by simp[h 1 (by decide)]),if_neg (by simp[h 2 (by decide)]),h 3 (by decide)]
theorem fst4_zero{f:Nat->Int}(h:fst4 f=0): ∀ k,k<4->f k=0:=by
 unfold fst4 at h
 by_cases h0:f 0=0
 ·rw[if_neg (by simp[h0])] at h
  by_cases h1:f 1=0
  ·rw[if_neg (by simp[h1])] at h
   by_cases h2:f 2=0
   ·rw[if_neg (by simp[h2])] at h
    intro k hk
    match k,hk with
    | 0,_=>exact h0
    | 1,_=>exact h1
    | 2,_=>exact h2
    | 3,_=>exact h
   ·rw[if_pos h2] at h; exact absurd h h2
  ·rw[if_pos h1] at h; exact absurd h h1
 ·rw[if_pos h0] at h; exact absurd h h0
theorem fst4_one{f:Nat->Int}(h:∀ k,f k=0∨f k=1): fst4 f=0∨fst4 f=1:=by
 unfold fst4
 split
 ·exact h 0
 ·split
  ·exact h 1
  ·split
   ·exact h 2
   ·exact h 3
structure RecT where
 x:UInt8
 s:Nat
 c:Nat
 t:List UInt8
structure EntT where
 x:UInt8
 t:List UInt8
namespace RecT
def zero:RecT:=⟨0,0,0,zD⟩
def v (r:RecT):List Value:=recV r.x r.s r.c r.t
def l (r:RecT):List UInt8:=recL r.x r.s r.c r.t
structure Fit (r:RecT):Prop where
 t:r.t.length=32
 s:r.s<4294967296
 c:r.c<18446744073709551616
def Bad (r:RecT):Prop:=BadR r.x r.s r.c r.t
def Z (r:RecT):Prop:=r.x.toNat=0∧r.s=0∧r.c=0∧r.t=zD
def ck (r:RecT):Int:=ckR r.x r.s r.c r.t
theorem zero_fit: zero.Fit:=⟨rfl,by decide,by decide⟩
theorem Fit.len{r:RecT}(h:r.Fit): r.v.length=35:=rec_len _ _ _ h.t
theorem Fit.kin{r:RecT}(h:r.Fit): Kin (fun _ _=>True) (.u8 :: .u32 :: .u64::List.replicate 32 .u8) r.v:=kinRec _ _ _ h.t
theorem Fit.lenL{r:RecT}(h:r.Fit): r.l.length=45:=recL_len _ _ _ h.t
theorem one(r:RecT): r.v.all (·.oneCell')=true:=rec_one _ _ _ _
theorem v_inj{r q:RecT}(h:r.v=q.v): r=q:=by
 obtain⟨x,s,c,t⟩:=r
 obtain⟨x',s',c',t'⟩:=q
 simp only[v,recV] at h
 injection h with h1 h
 injection h with h2 h
 injection h with h3 h
 injection h2 with _ h2
 injection h3 with _ h3
 rw[byteV_inj h1,Int.ofNat.inj h2,Int.ofNat.inj h3,bytes_inj h]
theorem z_iff{r:RecT}: r.Z↔r=zero:=⟨fun⟨h1,h2,h3,h4⟩=>by
  obtain⟨x,s,c,t⟩:=r
  simp only at h1 h2 h3 h4
  rw[h2,h3,h4,show x=0 from UInt8.toNat_inj.1 h1]; rfl,fun h=>by rw[h]; exact⟨rfl,rfl,rfl,rfl⟩⟩
theorem z_v{r:RecT}: r.Z↔r.v=zero.v:=z_iff.trans ⟨fun h=>by rw[h],v_inj⟩
theorem zero_ok: ¬ zero.Bad:=by unfold Bad BadR zero; rintro (h|⟨_,h⟩); exact absurd h (by decide); exact h ⟨rfl,rfl,rfl⟩
theorem ck_one(r:RecT): r.ck=0∨r.ck=1:=by unfold ck ckR; split<;>simp
theorem ck_zero{r:RecT}: r.ck=0↔¬ r.Bad:=by unfold ck ckR Bad; split<;>simp_all
theorem ck_bad{r:RecT}(h:r.ck≠0): r.Bad:=Classical.byContradiction fun hb=>h (ck_zero.2 hb)
instance:DecidablePred Z:=fun r=>by unfold Z; infer_instance
end RecT
namespace EntT
def zero:EntT:=⟨0,zD⟩
def v (r:EntT):List Value:=entV r.x r.t
def l (r:EntT):List UInt8:=entL r.x r.t
structure Fit (r:EntT):Prop where
 t:r.t.length=32
def Bad (r:EntT):Prop:=BadE r.x r.t
def Z (r:EntT):Prop:=r.x.toNat=0∧r.t=zD
def ck (r:EntT):Int:=ckE r.x r.t
theorem zero_fit: zero.Fit:=⟨rfl⟩
theorem Fit.len{r:EntT}(h:r.Fit): r.v.length=33:=ent_len _ h.t
theorem Fit.kin{r:EntT}(h:r.Fit): Kin (fun _ _=>True) (.u8::List.replicate 32 .u8) r.v:=kinEnt _ h.t
theorem Fit.lenL{r:EntT}(h:r.Fit): r.l.length=33:=entL_len _ h.t
theorem one(r:EntT): r.v.all (·.oneCell')=true:=ent_one _ _
theorem v_inj{r q:EntT}(h:r.v=q.v): r=q:=by
 obtain⟨x,t⟩:=r
 obtain⟨x',t'⟩:=q
 simp only[v,entV] at h
 injection h with h1 h
 rw[byteV_inj h1,bytes_inj h]
theorem z_iff{r:EntT}: r.Z↔r=zero:=⟨fun⟨h1,h4⟩=>by
  obtain⟨x,t⟩:=r
  simp only at h1 h4
  rw[h4,show x=0 from UInt8.toNat_inj.1 h1]; rfl,fun h=>by rw[h]; exact⟨rfl,rfl⟩⟩
theorem z_v{r:EntT}: r.Z↔r.v=zero.v:=z_iff.trans ⟨fun h=>by rw[h],v_inj⟩
theorem zero_ok: ¬ zero.Bad:=by unfold Bad BadE zero; rintro (h|⟨_,h⟩); exact absurd h (by decide); exact h rfl
theorem ck_one(r:EntT): r.ck=0∨r.ck=1:=by unfold ck ckE; split<;>simp
theorem ck_zero{r:EntT}: r.ck=0↔¬ r.Bad:=by unfold ck ckE Bad; split<;>simp_all
theorem ck_bad{r:EntT}(h:r.ck≠0): r.Bad:=Classical.byContradiction fun hb=>h (ck_zero.2 hb)
instance:DecidablePred Z:=fun r=>by unfold Z; infer_instance
end EntT
abbrev recsV (R:List RecT):List Value:=R.flatMap RecT.v
abbrev entsV (R:List EntT):List Value:=R.flatMap EntT.v
theorem RecT.lens{R:List RecT}(h:∀ r∈R,r.Fit): ∀ r∈R,r.v.length=35:=fun r hr=>(h r hr).len
theorem EntT.lens{R:List EntT}(h:∀ r∈R,r.Fit): ∀ r∈R,r.v.length=33:=fun r hr=>(h r hr).len
theorem RecT.lensL{R:List RecT}(h:∀ r∈R,r.Fit): ∀ r∈R,r.l.length=45:=fun r hr=>(h r hr).lenL
theorem EntT.lensL{R:List EntT}(h:∀ r∈R,r.Fit): ∀ r∈R,r.l.length=33:=fun r hr=>(h r hr).lenL
theorem RecT.all1(R:List RecT): (recsV R).all (·.oneCell')=true:=by
 rw[List.all_flatMap]; simp only[List.all_eq_true]; exact fun r _=>List.all_eq_true.1 r.one
theorem EntT.all1(R:List EntT): (entsV R).all (·.oneCell')=true:=by
 rw[List.all_flatMap]; simp only[List.all_eq_true]; exact fun r _=>List.all_eq_true.1 r.one
theorem RecT.kins{R:List RecT}(h:∀ r∈R,r.Fit): Kin (fun _ _=>True) (List.replicate R.length (.u8 :: .u32 :: .u64::List.replicate 32 .u8)).flatten (recsV R):=by
 induction R with
 | nil=>exact kin_nil
 | cons r R ih=>rw[List.length_cons,List.replicate_succ,List.flatten_cons,recsV,List.flatMap_cons]; exact Kin.join (h r List.mem_cons_self).kin (ih fun q hq=>h q (List.mem_cons_of_mem _ hq))
theorem EntT.kins{R:List EntT}(h:∀ r∈R,r.Fit): Kin (fun _ _=>True) (List.replicate R.length (.u8::List.replicate 32 .u8)).flatten (entsV R):=by
 induction R with
 | nil=>exact kin_nil
 | cons r R ih=>rw[List.length_cons,List.replicate_succ,List.flatten_cons,entsV,List.flatMap_cons]; exact Kin.join (h r List.mem_cons_self).kin (ih fun q hq=>h q (List.mem_cons_of_mem _ hq))
theorem flatMap_inj {α β:Type} {v:α->List β} {k:Nat} (hv:∀ a b,v a=v b->a=b):∀ {L L':List α},(∀ a∈L,(v a).length=k)->(∀ a∈L',(v a).length=k)->L.length=L'.length->L.flatMap v=L'.flatMap v->L=L'
 | [],[],_,_,_,_=>rfl
 | a::L,b::L',h,h',hl,he=>by
  rw[List.flatMap_cons,List.flatMap_cons] at he
  obtain⟨h1,h2⟩:=List.append_inj he (by rw[h a List.mem_cons_self,h' b List.mem_cons_self])
  rw[hv a b h1,flatMap_inj hv (fun x hx=>h x (List.mem_cons_of_mem _ hx)) (fun x hx=>h' x (List.mem_cons_of_mem _ hx)) (by simpa using hl) h2]
structure NodT where
 l:UInt8
 j:Nat
 R:List RecT
 E:List EntT
def zerosR:List RecT:=List.replicate 4 RecT.zero
def zerosE:List EntT:=List.replicate 4 EntT.zero
def nodV (l:UInt8) (j:Nat) (R:List RecT) (E:List EntT):List Value:=[byteV l,.int .u32 ((j:Nat):Int)]++(recsV R++entsV E)
theorem nodV_E(l:UInt8)(j:Nat)(R:List RecT)(E:List EntT): nodV l j R E=([byteV l,.int .u32 ((j:Nat):Int)]++recsV R)++(entsV E++[]):=by rw[nodV,List.append_nil,List.append_assoc]
namespace NodT
def v (x:NodT):List Value:=nodV x.l x.j x.R x.E
def r (x:NodT) (i:Nat):RecT:=x.R.getD i RecT.zero
def e (x:NodT) (i:Nat):EntT:=x.E.getD i EntT.zero
structure Fit (x:NodT):Prop where
 j:x.j<4294967296
 lr:x.R.length=4
 le:x.E.length=4
 fr:∀ r∈x.R,r.Fit
 fe:∀ r∈x.E,r.Fit
def emp (l:UInt8) (j:Nat):NodT:=⟨l,j,zerosR,zerosE⟩
theorem zr_fit: ∀ r∈zerosR,r.Fit:=fun r h=>by rw[List.eq_of_mem_replicate h]; exact RecT.zero_fit
theorem ze_fit: ∀ r∈zerosE,r.Fit:=fun r h=>by rw[List.eq_of_mem_replicate h]; exact EntT.zero_fit
theorem emp_fit(l:UInt8)(h:j<4294967296): (emp l j).Fit:=⟨h,rfl,rfl,zr_fit,ze_fit⟩
section
variable {x:NodT}
theorem Fit.r(h:x.Fit)(i:Nat): (x.r i).Fit:=by
 unfold NodT.r
 by_cases hi:i<4
 ·exact h.fr _ (getD_mem4 h.lr hi _)
 ·rw[List.getD_eq_getElem?_getD,List.getElem?_eq_none (by have:=h.lr; omega)]; exact RecT.zero_fit
theorem Fit.e(h:x.Fit)(i:Nat): (x.e i).Fit:=by
 unfold NodT.e
 by_cases hi:i<4
 ·exact h.fe _ (getD_mem4 h.le hi _)
 ·rw[List.getD_eq_getElem?_getD,List.getElem?_eq_none (by have:=h.le; omega)]; exact EntT.zero_fit
theorem Fit.lenR(h:x.Fit): (recsV x.R).length=140:=by rw[recsV,flat_length (RecT.lens h.fr),h.lr]
theorem Fit.lenE(h:x.Fit): (entsV x.E).length=132:=by rw[entsV,flat_length (EntT.lens h.fe),h.le]
theorem Fit.len(h:x.Fit): x.v.length=274:=by unfold NodT.v nodV; rw[List.length_append,List.length_append,h.lenR,h.lenE]; rfl
theorem one(x:NodT): x.v.all (·.oneCell')=true:=by
 unfold NodT.v nodV
 rw[List.all_append,List.all_append,RecT.all1,EntT.all1]; rfl
theorem Fit.getR(h:x.Fit): (x.v.drop 2).take 140=recsV x.R:=by
 show List.take 140 (recsV x.R++entsV x.E)=recsV x.R
 exact List.take_left' h.lenR
theorem Fit.getE(h:x.Fit): (x.v.drop 142).take 132=entsV x.E:=by
 show List.take 132 (List.drop 140 (recsV x.R++entsV x.E))=entsV x.E
 rw[List.drop_left' h.lenR,List.take_of_length_le (Nat.le_of_eq h.lenE)]
theorem Fit.rec_at(h:x.Fit)(hi:i<4): (x.v.drop (2+i*35)).take 35=(x.r i).v:=rmid_at (pre:=[byteV x.l,.int .u32 ((x.j:Nat):Int)]) (suf:=entsV x.E) (RecT.lens h.fr) rfl (by rw[h.lr]; exact hi) _
theorem Fit.ent_at(h:x.Fit)(hi:i<4): (x.v.drop (142+i*33)).take 33=(x.e i).v:=by
 unfold NodT.v
 rw[nodV_E]
 exact rmid_at (EntT.lens h.fe) (by rw[List.length_append,h.lenR]; rfl) (by rw[h.le]; exact hi) _
theorem Fit.set_rec(h:x.Fit)(hi:i<4){r:RecT}(hr:r.Fit): x.v.take (2+i*35)++r.v++x.v.drop (2+i*35+r.v.length)=NodT.v { x with R:=x.R.set i r }:=rmid_set (pre:=[byteV x.l,.int .u32 ((x.j:Nat):Int)]) (suf:=entsV x.E) (RecT.lens h.fr) rfl (by rw[h.lr]; exact hi) hr.len
theorem Fit.set_ent(h:x.Fit)(hi:i<4){r:EntT}(hr:r.Fit): x.v.take (142+i*33)++r.v++x.v.drop (142+i*33+r.v.length)=NodT.v { x with E:=x.E.set i r }:=by
 unfold NodT.v
 rw[nodV_E,nodV_E]
 exact rmid_set (EntT.lens h.fe) (by rw[List.length_append,h.lenR]; rfl) (by rw[h.le]; exact hi) hr.len
theorem Fit.kin(h:x.Fit): Kin (fun _ _=>True) (.u8 :: .u32::((List.replicate 4 (.u8 :: .u32 :: .u64::List.replicate 32 .u8)).flatten++(List.replicate 4 (.u8::List.replicate 32 .u8)).flatten)) x.v:=by
 have h1:=RecT.kins h.fr
 have h2:=EntT.kins h.fe
 rw[h.lr] at h1
 rw[h.le] at h2
 show Kin _ _ (byteV x.l :: .int .u32 ((x.j:Nat):Int)::(recsV x.R++entsV x.E))
 exact kin_cons (kin_cons (Kin.join h1 h2))
theorem v_inj{x y:NodT}(hx:x.Fit)(hy:y.Fit)(h:x.v=y.v): x=y:=by
 have h1:=hx.getR
 have h2:=hx.getE
 rw[h,hy.getR] at h1
 rw[h,hy.getE] at h2
 have h3:=flatMap_inj (fun _ _=>RecT.v_inj) (RecT.lens hy.fr) (RecT.lens hx.fr) (by rw[hx.lr,hy.lr]) h1
 have h4:=flatMap_inj (fun _ _=>EntT.v_inj) (EntT.lens hy.fe) (EntT.lens hx.fe) (by rw[hx.le,hy.le]) h2
 obtain⟨l,j,R,E⟩:=x
 obtain⟨l',j',R',E'⟩:=y
 simp only at h3 h4
 subst h3; subst h4
 unfold NodT.v nodV at h
 simp only[List.cons_append,List.nil_append] at h
 injection h with h5 h
 injection h with h6 _
 injection h6 with _ h6
 rw[byteV_inj h5,Int.ofNat.inj h6]
end
open Classical in
noncomputable def ck (x:NodT):Int:=if 5<x.l.toNat then 1 else if x.l.toNat=0 then (if ∀ i,i<4->(x.e i).Z then fst4 fun i=>(x.r i).ck else 1) else (if ∀ i,i<4->(x.r i).Z then fst4 fun i=>(x.e i).ck else 1)
theorem ck_hi{x:NodT}(h:5<x.l.toNat): x.ck=1:=if_pos h
theorem ck_R{x:NodT}(h:x.l.toNat=0)(hz:∀ i,i<4->(x.e i).Z): x.ck=fst4 fun i=>(x.r i).ck:=by unfold ck; rw[if_neg (by omega),if_pos h,if_pos hz]
theorem ck_Rz{x:NodT}(h:x.l.toNat=0)(hz:¬ ∀ i,i<4->(x.e i).Z): x.ck=1:=by unfold ck; rw[if_neg (by omega),if_pos h,if_neg hz]
theorem ck_E{x:NodT}(h5:¬ 5<x.l.toNat)(h:¬ x.l.toNat=0)(hz:∀ i,i<4->(x.r i).Z): x.ck=fst4 fun i=>(x.e i).ck:=by unfold ck; rw[if_neg h5,if_neg h,if_pos hz]
theorem ck_Ez{x:NodT}(h5:¬ 5<x.l.toNat)(h:¬ x.l.toNat=0)(hz:¬ ∀ i,i<4->(x.r i).Z): x.ck=1:=by unfold ck; rw[if_neg h5,if_neg h,if_neg hz]
theorem ck_one(x:NodT): x.ck=0∨x.ck=1:=by
 unfold ck
 split
 ·exact .inr rfl
 ·split
  ·split
   ·exact fst4_one fun i=>(x.r i).ck_one
   ·exact .inr rfl
  ·split
   ·exact fst4_one fun i=>(x.e i).ck_one
   ·exact .inr rfl
theorem ck_ok{x:NodT}(h:x.ck=0): x.l.toNat<=5∧(x.l.toNat=0->(∀ i,i<4->(x.e i).Z)∧∀ i,i<4->¬ (x.r i).Bad)∧(x.l.toNat≠0->(∀ i,i<4->(x.r i).Z)∧∀ i,i<4->¬ (x.e i).Bad):=by
 by_cases h5:5<x.l.toNat
 ·rw[ck_hi h5] at h; cases h
 refine⟨by omega,fun h0=>?_,fun h0=>?_⟩
 ·by_cases hz:∀ i,i<4->(x.e i).Z
  ·rw[ck_R h0 hz] at h; exact⟨hz,fun i hi=>RecT.ck_zero.1 (fst4_zero h i hi)⟩
  ·rw[ck_Rz h0 hz] at h; cases h
 ·by_cases hz:∀ i,i<4->(x.r i).Z
  ·rw[ck_E h5 h0 hz] at h; exact⟨hz,fun i hi=>EntT.ck_zero.1 (fst4_zero h i hi)⟩
  ·rw[ck_Ez h5 h0 hz] at h; cases h
theorem ok_R{x:NodT}(h:x.l.toNat=0)(hz:∀ i,i<4->(x.e i).Z)(hb:∀ i,i<4->¬ (x.r i).Bad): x.ck=0:=by rw[ck_R h hz]; exact fst4_no fun i hi=>RecT.ck_zero.2 (hb i hi)
theorem ok_E{x:NodT}(h5:¬ 5<x.l.toNat)(h:¬ x.l.toNat=0)(hz:∀ i,i<4->(x.r i).Z)(hb:∀ i,i<4->¬ (x.e i).Bad): x.ck=0:=by rw[ck_E h5 h hz]; exact fst4_no fun i hi=>EntT.ck_zero.2 (hb i hi)
def bl (x:NodT):List UInt8:=x.l::(be 4 x.j++(if x.l.toNat=0 then x.R.flatMap RecT.l else x.E.flatMap EntT.l))
def sz (n:Nat):Nat:=if n=0 then 185 else 137
theorem Fit.bl_length{x:NodT}(h:x.Fit): x.bl.length=sz x.l.toNat:=by
 unfold bl sz
 rw[List.length_cons,List.length_append,be_length]
 split
 ·rw[flat_length (RecT.lensL h.fr),h.lr]
 ·rw[flat_length (EntT.lensL h.fe),h.le]
end NodT
def wrt (N:Nat) (p:List UInt8):List Value:=p.map byteV++List.replicate (N-p.length) (.int .u8 0)
theorem wrt_len{N:Nat}{p:List UInt8}(h:p.length<=N): (wrt N p).length=N:=by simp[wrt]; omega
theorem wrt_zero(N:Nat): wrt N []=List.replicate N (.int .u8 0):=by simp[wrt]
theorem wrt_full{N:Nat}{p:List UInt8}(h:p.length=N): wrt N p=p.map byteV:=by simp[wrt,h]
theorem wrt_step{N:Nat}{p l:List UInt8}(h:p.length+l.length<=N): (wrt N p).take (0+p.length)++(l.take (N-p.length)).map byteV++(wrt N p).drop (0+p.length+min l.length (N-p.length))=wrt N (p++l):=by
 rw[Nat.zero_add,List.take_of_length_le (l:=l) (by omega),show min l.length (N-p.length)=l.length from by omega,wrt,wrt,List.take_left' (by simp),<- List.drop_drop,List.drop_left' (by simp),List.drop_replicate,List.map_append,List.length_append,Nat.sub_sub]
theorem take_all{α:Type}{P:α->Prop}{L:List α}(h:∀ r∈L,P r)(i:Nat): ∀ r∈L.take i,P r:=fun r hr=>h r (List.mem_of_mem_take hr)
theorem take_flat{α β:Type}{v:α->List β}{L:List α}(hL:L.length=4)(hi:i<4){z:α}: (L.take (i+1)).flatMap v=(L.take i).flatMap v++v (L.getD i z):=by
 rw[List.take_add_one,List.getElem?_eq_getElem (by omega),Option.toList_some,List.flatMap_append,List.flatMap_cons,List.flatMap_nil,List.append_nil]
 simp[List.getD_eq_getElem?_getD,hL,hi]
theorem getD_in{α:Type}(L:List α)(hi:i<L.length)(z:α): L.getD i z∈L:=by
 rw[List.getD_eq_getElem?_getD,List.getElem?_eq_getElem hi]
 exact List.getElem_mem _
theorem rows_part{α β:Type}{v:α->List β}{cs:List β}{L:List α}{o:Nat}(hL:∀ a∈L,(v a).length=k)(hc:(cs.drop o).take (L.length*k)=L.flatMap v)(hi:i<L.length)(z:α): (cs.drop (o+i*k)).take k=v (L.getD i z):=by
 have h:=flat_getD hL hi z
 have hle:i*k+k<=L.length*k:=by rw[<- Nat.succ_mul]; exact Nat.mul_le_mul_right _ hi
 rw[<- hc,List.drop_take,List.drop_drop,List.take_take,Nat.min_eq_left (by omega)] at h
 exact h
theorem RecT.dz(r:RecT): decide r.Z=true↔r.v=RecT.zero.v:=by rw[decide_eq_true_iff]; exact RecT.z_v
theorem EntT.dz(r:EntT): decide r.Z=true↔r.v=EntT.zero.v:=by rw[decide_eq_true_iff]; exact EntT.z_v
theorem sz_le(n:Nat): 137<=NodT.sz n∧NodT.sz n<=185:=by unfold NodT.sz; split<;>omega
theorem bl_R{x:NodT}(h:x.l.toNat=0): []++[x.l]++be 4 x.j++x.R.flatMap RecT.l=x.bl:=by unfold NodT.bl; rw[if_pos h]; simp
theorem bl_E{x:NodT}(h:¬ x.l.toNat=0): []++[x.l]++be 4 x.j++x.E.flatMap EntT.l=x.bl:=by unfold NodT.bl; rw[if_neg h]; simp
structure FnMB (P:Program) (f:FuncId) (M:Env) (ds:List D) (d:Nat->D):Prop where
 body:∃ fn,P.funcs[f]?=some fn∧(fn.name == "runtime.NumGoroutine")=false∧fn.body.isNone=false
 calls:∀ (vs:List Value) (w:World),(∀ p∈M,p.2.Of w undef)->vs.length=ds.length->(∀ (j:Nat) (e:D) (u:Value),ds[j]?=some e->vs[j]?=some u->e.Of w u)->Calls P f vs.toArray w (PostOf w (d w.heap.size))
theorem FnMB.fn{f:FuncId}{M:Env}{d:Nat->D}{d':D}(h:FnMB P f M ds d)(hd:∀ B,Le (d B) d'): FnM P f M ds d' :=
 ⟨h.body,fun vs w h0 h1 h2=>(h.calls vs w h0 h1 h2).mono fun _ _ ⟨x,he,g,hx⟩=>⟨x,he,g,(hd _).of hx⟩⟩
theorem FnMB.of{f:FuncId}{fn:Func}{c:Code}{M:Env}{d:Nat->D}(hf:P.funcs[f]?=some fn)(hb:fn.body=some c)(hname:(fn.name == "runtime.NumGoroutine")=false)(hn:fn.ntmps=n)(hds:ds.length<=n)(hnv:n<=vbase)(E:World->Env)
  (hE:∀ w,StartM w.heap.size ds M (E w))(h:∀ w₀,(∀ p∈M,p.2.Of w₀ undef)->A Cx.top P w₀ n c (E w₀) (BP P fn (PostOf w₀ (d w₀.heap.size)))): FnMB P f M ds d:=by
 refine⟨⟨fn,hf,hname,by rw[hb]; rfl⟩,fun vs w hM hl hv=>callsIn_FR.1 (callsIn_of_wp_marks (F:=FR none) (n:=0) hf hb trivial (h w hM _ w (Below.refl _ _) ⟨Nat.le_refl _,rfl,?_,fun t e he=>?_⟩))⟩
 ·simp[hl,hn]; omega
 ·show e.Of w ((vs.toArray++Array.replicate (fn.ntmps-vs.toArray.size) undef).getD t undef)
  rcases hE w _ (look_mem he) with ⟨hm,ht⟩|⟨d',hd',hor⟩
  ·have h1:=hM _ hm
   rwa [Array.getD_eq_getD_getElem?,Array.getElem?_eq_none (by simp[hl,hn]; simp only at ht; omega)]
  ·have hlt:t<vs.length:=by have:=(List.getElem?_eq_some_iff.1 hd').1; simp at this; omega
   have hget:(vs.toArray++Array.replicate (fn.ntmps-vs.toArray.size) undef).getD t undef=vs[t]:=by
    rw[Array.getD_eq_getD_getElem?,Array.getElem?_append_left (by simpa using hlt)]
    simp[hlt]
   rw[hget]
   have h1:=hv t d' vs[t] hd' (List.getElem?_eq_getElem hlt)
   rcases hor with h2|h2
   ·simp only at h2; rw[h2]; exact h1
   ·simp only at h2; rw[h2]; exact⟨Nat.le_refl _,h1⟩
section
variable {P:Program} {B:Nat} {E:Env} {dst:Option Tmp} {ty:TypeId} {pos:String} {after:Array Edge} {guard:Option (Nat×Bool)}
theorem ok_callV0{f:FuncId}{x:Operand}{args:Array Operand}{argTypes:Array TypeId}(hf:Fn P f ds d)(hx:E.at x=some (.v (.func (.func f) #[] #[])))(ha:Args E ds args.toList):
  OpOk P B ⟨dst,.call { callee:=.value x,args:=args,argTypes:=argTypes },ty,pos,after,guard⟩ E d :=
 ok_callVM (us:=[]) (M:=[]) (by rw[List.map_nil,List.append_nil]; exact hf.m) Sub.nil (fun _ h=>by cases h) hx ha
theorem ok_callVB{f:FuncId}{x:Operand}{args:Array Operand}{argTypes:Array TypeId}{d:Nat->D}(hf:FnB P f ds d)(hd:∀ B B',B<=B'->Le (d B') (d B))(hx:E.at x=some (.v (.func (.func f) #[] #[])))(ha:Args E ds args.toList):
  OpOk P B ⟨dst,.call { callee:=.value x,args:=args,argTypes:=argTypes },ty,pos,after,guard⟩ E (d B):=fun ρ w hB hv hρ=>by
 obtain⟨fn,h1,h2,h3⟩:=hf.body
 have hfun:ρ x = .func (.func f) #[] #[]:=hρ x (by simp[Op.operands,Call.operands]) _ hx
 have hrun:(execOp ρ ⟨dst,.call { callee:=.value x,args:=args,argTypes:=argTypes },ty,pos,after,guard⟩).run P w = .ok (.enter f (args.map ρ)) w:=by
  have h2':¬ fn.name = "runtime.NumGoroutine":=by simpa using h2
  have h3':¬ fn.body=none:=by intro h; rw[h] at h3; cases h3
  simp[execOp,resolve,Deferred.ofValue,hfun,invoke,callFunc,h1,h2',h3']
 unfold Out
 rw[hrun]
 have:=hf.calls (args.toList.map ρ) w (by rw[List.length_map,ha.length]) fun j e u he hu=>by
  rw[List.getElem?_map] at hu
  cases hx:args.toList[j]? with
  | none=>rw[hx] at hu; cases hu
  | some x =>
   rw[hx] at hu; injection hu with hu; subst hu
   obtain⟨e',h4,h5⟩:=ha.nth he hx
   exact h5.of (hρ x (by simp[Op.operands,Call.operands]; exact .inr (by simpa using List.mem_of_getElem? hx)) _ h4)
 have harr:(args.toList.map ρ).toArray=args.map ρ:=by apply Array.ext'; simp
 rw[harr] at this
 exact this.mono fun e w' ⟨x,he,g,hx⟩=>⟨x,he,g,(hd _ _ hB).of hx⟩
theorem ok_indexAgg{t e:TypeId}{len sz:Nat}{x i:Operand}{k:IntKind}{j:Int}(m:Nat)(ht:P.underlying t=some (.array len e))(he:P.underlying e=some td)(hp:td.isRow=true)(hs:SizeIs P e sz)
  (hx:E.at x=some (.v (aggV xs)))(hi:E.at i=some (.v (.int k j)))(hj:j=(m:Int))(hm:m<len)(hu:(xs.drop (m*sz)).take sz=ys): OpOk P B ⟨dst,.index t x i,ty,pos,after,guard⟩ E (.v (aggV ys)):=fun ρ w _ _ hρ=>by
 have h1:ρ x=_:=hρ x (by simp[Op.operands]) _ hx
 have h2:ρ i=_:=hρ i (by simp[Op.operands]) _ hi
 obtain⟨info,hinfo,hsize⟩:=hs.get
 subst hj
 have hagg:(isAgg e).run P w = .ok true w:=by
  unfold isAgg
  rw[Sem.run_bind,run_underlying he w]
  cases td<;>simp_all [TypeDesc.isRow]
 refine out_val (w':=w) ?_ ⟨Grow.refl w,rfl⟩
 subst hu
 simp[execOp,h1,h2,aggV,Instr.index,asIntOf,run_underlying ht,hm,sizeOf,typeInfo,hinfo,hsize,part,hagg]
theorem ok_sliceN{t e:TypeId}{len sz:Nat}{x:Operand}{lo hi mx:Option Operand}{o:Nat}(l h:Nat)(ht:P.underlying t=some (.array len e))(hs:SizeIs P e sz)(hx:E.at x=some (.v (.pointer (some ⟨b,o,none⟩))))
  (hlo:Bnd E lo l 0)(hhi:(∃ ho k,hi=some ho∧E.at ho=some (.v (.int k (h:Int))))∨(hi=none∧mx=none∧h=len))(hmx:Bnd E mx m len)(hlh:l<=h)(hhm:h<=m)(hml:m<=len):
  OpOk P B ⟨dst,.slice t x lo hi mx,ty,pos,after,guard⟩ E (.v (.slice (some ⟨b,if m=l then o else o+l*sz,none⟩) (h-l) (m-l))):=fun ρ w _ _ hρ=>by
 have h1:ρ x=_:=hρ x (by simp[Op.operands]) _ hx
 obtain⟨info,hinfo,hsize⟩:=hs.get
 have hlo':=hlo.get (ρ:=ρ) fun o ho u hu=>hρ o (by simp[Op.operands,ho]) _ hu
 have hmx':=hmx.get (ρ:=ρ) fun o ho u hu=>hρ o (by simp[Op.operands,ho]) _ hu
 have hhi':(∃ k,hi.map ρ=some (.int k (h:Int)))∨(hi.map ρ=none∧mx.map ρ=none∧h=len):=by
  rcases hhi with ⟨ho,k,rfl,hh⟩|⟨rfl,rfl,hh⟩
  ·exact .inl ⟨k,by simp[show ρ ho=_ from hρ ho (by simp[Op.operands]) _ hh]⟩
  ·exact .inr ⟨rfl,rfl,hh⟩
 have haddr:(if m=l then (⟨b,o,none⟩:Addr) else (⟨b,o,none⟩:Addr).add (l*sz))=⟨b,if m=l then o else o+l*sz,none⟩:=by
  rw[add_lit0]
  split<;>rfl
 have hr:(Instr.sliceAt t (.pointer (some ⟨b,o,none⟩)) (lo.map ρ) (hi.map ρ) (mx.map ρ)).run P w = .ok (.slice (some ⟨b,if m=l then o else o+l*sz,none⟩) (h-l) (m-l)) w:=by
  rw[<- haddr]
  have hb:=sliceBounds_run (P:=P) (sl:=false) w hlo' hhi' hmx' hlh hhm hml
  simp[Instr.sliceAt,run_underlying ht,Instr.sureAddr,hb,sizeOf,typeInfo,hinfo,hsize]
 exact out_val (w':=w) (by simp only[execOp,h1,Sem.run_bind,hr,Result.andThen_ok,Sem.run_pure]) ⟨Grow.refl w,rfl⟩
theorem ok_buildOwn{t e:TypeId}{ps:Array (Nat×Operand)}{z:Value}(vs:List Value)(ht:P.underlying t=some (.slice e))(hinfo:InfoIs P e z nb)(hz1:z.cells=#[z])
  (hn:0<n)(hn':n<=65536)(hl:vs.length=n)(hp:Parts E (vs.map D.v) ps.toList 0)(h1:∀ u∈vs,u.oneCell'=true):
  OpOk P B ⟨dst,.buildSlice t n ps,ty,pos,after,guard⟩ E (own B e n vs):=fun ρ w hB _ hρ=>by
 obtain⟨i,hi,hz,hs,_⟩:=hinfo.get
 have hpl:ps.toList.length=vs.length:=by rw[<- hp.length,List.length_map]
 have hof:∀ (j:Nat) (hj:j<vs.length),∃ x,ps.toList[j]?=some (0+j,x)∧ρ x=vs[j]:=fun j hj=>by
  obtain⟨x,hx,he⟩:=hp.nth (j:=j) (d:=.v vs[j]) (by simp[hj])
  refine⟨x,hx,hρ x ?_ (.v vs[j]) he⟩
  simp only[Op.operands,List.mem_toArray,List.mem_map]
  exact⟨_,List.mem_of_getElem? hx,rfl⟩
 have hparts:(ps.map fun(i,x)=>(i,ρ x)).toList=(vs.zipIdx 0).map fun x=>(x.2,x.1):=by
  apply List.ext_getElem?
  intro j
  rcases Nat.lt_or_ge j vs.length with hj|hj
  ·obtain⟨x,hx,he⟩:=hof j hj
   have hx':ps[j]?=some (0+j,x):=by simpa using hx
   simp[List.getElem?_zipIdx,hx',he,hj]
  ·rw[List.getElem?_eq_none (by simp at hpl ⊢; omega),List.getElem?_eq_none (by simp; omega)]
 have hz':(Array.range (n*i.size)).map (z.cells[·%z.cells.size]!)=([]++List.replicate n z).toArray:=by
  rw[hs,hz1,Nat.mul_one]
  apply Array.ext
  ·simp
  ·intro j h1 h2; simp[Nat.mod_one]
 have hfill:Instr.fill (fun j=>some (j*i.size,i.size)) ((Array.range (n*i.size)).map (z.cells[·%z.cells.size]!)) (ps.map fun(i,x)=>(i,ρ x)).toList=some vs.toArray:=by
  rw[hz',hparts,hs,fill_dense vs [] (List.replicate n z) 0 h1 rfl (by simp[hl])]
  simp[hl]
 have hr:=run_buildSlice (P:=P) w t e n (ps.map fun(i,x)=>(i,ρ x)) vs.toArray i z ht hi hz (by rw[hs]; omega) (by rw[hs]; omega) hfill
 refine out_val (x:=.slice (some ⟨w.heap.size,0,none⟩) n n) (w':=w.alloc (.cells vs.toArray e)) (by simp[execOp,hr]) ⟨Grow.alloc w _,⟨by omega,.inr ⟨w.heap.size,n,vs.toArray,rfl,hB,heap_alloc_new w _,Nat.le_refl _,by simp only[maxLen]; omega,by simp[hl],?_⟩⟩,fun g hg=>?_⟩
 ·rw[Nat.mul_one]; exact List.take_of_length_le (Nat.le_of_eq hl)
 ·simp[Value.ownBlock] at hg; subst hg; simp
theorem ok_build1B{t e:TypeId}{z:Value}{x:Operand}{a:UInt8}(ht:P.underlying t=some (.slice e))(hs:InfoIs P e z nb)(hz:z.cells.size=1)(hx:E.at x=some (.v (byteV a))):
  OpOk P B ⟨dst,.buildSlice t 1 #[(0,x)],ty,pos,after,guard⟩ E (newD B e (fun b=>.slice (some ⟨b,0,none⟩) 1 1) [byteV a]):=fun ρ w hB hv hρ=>by
 obtain⟨i,hi,hzv,hsize,_⟩:=hs.get
 have h1:ρ x=byteV a:=hρ x (by simp[Op.operands]) _ hx
 have hfill:Instr.fill (fun j=>some (j*i.size,i.size)) ((Array.range (1*i.size)).map (z.cells[·%z.cells.size]!)) [(0,ρ x)]=some #[byteV a]:=by
  rw[hsize,h1,hz]
  have h2:((Array.range (1*1)).map fun y=>z.cells[y%1]!)=#[z.cells[0]!]:=by
   rw[show Array.range (1*1)=#[0] from by decide]
   simp
  rw[h2]
  simp[Instr.fill,byteV,Value.cells]
 have hr:=run_buildSlice (P:=P) w t e 1 #[(0,ρ x)] #[byteV a] i z ht hi hzv (by rw[hsize]; decide) (by rw[hsize]; decide) (by simpa using hfill)
 exact out_val (x:=.slice (some ⟨w.heap.size,0,none⟩) 1 1) (w':=w.alloc (.cells #[byteV a] e)) (by simp[execOp,hr]) ⟨Grow.alloc w _,_,rfl,hB,by simp,heap_alloc_new w _⟩
theorem ok_loadVT{t:TypeId}{x:Operand}{o:Nat}{u:Value}(hsl:vbase<=s)(ht:P.underlying t=some td)(hp:plainTD td=true)(hx:E.at x=some (.v (.pointer (some ⟨b,o,none⟩))))(htab:E.look s=some (tab b xs))(hu:xs[o]?=some u):
  OpOk P B ⟨dst,.load t x,ty,pos,after,guard⟩ E (.v u):=fun ρ w hB hv hρ=>by
 have h1:ρ x=_:=hρ x (by simp[Op.operands]) _ hx
 obtain⟨_,e,hh⟩:=hv s _ hsl htab
 have hc:w.cell? ⟨b,o,none⟩=some u:=by simp[World.cell?,hh,hu]
 exact out_val (x:=u) (w':=w) (by simp[execOp,h1,run_load_plain ht hp hc]) ⟨Grow.refl w,rfl⟩
end
section
variable {P:Program} {n B:Nat} {ops:Array Oper} {E:Env} {ty:TypeId} {pos:String} {after:Array Edge}
theorem eff_newL{o:Oper}{d:Nat}{T:TypeId}(hd:o.dst=some d)(hg:o.guard=none)
  (hrun:∀ (κ:Cx) a w,St κ n B E a w->(execOp a.eval o).run P w = .ok (.value (.pointer (some ⟨w.heap.size,0,none⟩))) (w.alloc (.cells xs.toArray T)))(hdn:d<n):
  EffG P n B ops o E (NewL B E) (fun b=>(d,.v (.pointer (some ⟨b,0,none⟩)))::(k,blk b T xs)::E):=by
 intro κ a w K Q h hK
 rw[if_pos (by simp[Region.wanted,hg])]
 refine opR (not_defer (hrun κ a w h)) ?_
 unfold Oper.wp
 rw[hrun κ a w h,Oper.upon_value,hd]
 have hbel:Below B w (w.alloc (.cells xs.toArray T)):=(Below.refl B w).alloc h.base _
 have hst:=h.grow (Grow.alloc w (.cells xs.toArray T))
 refine hK w.heap.size _ _ ⟨h.base,fun s b' e ys hs=>(h.of s _ hs).1,fun s gs w₁ hs=>(h.of s _ hs).2.size⟩ hbel (St.put (hst.push ?_) hdn rfl)
 exact⟨by simp,heap_alloc_new w _⟩
theorem eff_allocL{T:TypeId}{zs:List Value}{d:Nat}(hz:ZeroIs P T zs)(hdn:d<n):
  EffG P n B ops ⟨some d,.alloc T,ty,pos,after,none⟩ E (NewL B E) (fun b=>(d,.v (.pointer (some ⟨b,0,none⟩)))::(k,blk b T zs)::E) :=
 eff_newL rfl rfl (fun _ a w _=>by
  obtain⟨i,z,hi,hz,hc⟩:=hz.get
  simp[execOp,Instr.alloc,zeroValue,typeInfo,hi,hz,newVar,newRow,hc]) hdn
theorem eff_boxL{T:TypeId}{x:Operand}{d:Nat}(hx:E.at x=some (.v (aggV xs)))(hdn:d<n):
  EffG P n B ops ⟨some d,.box T x,ty,pos,after,none⟩ E (NewL B E) (fun b=>(d,.v (.pointer (some ⟨b,0,none⟩)))::(k,blk b T xs)::E) :=
 eff_newL rfl rfl (fun _ a w h=>by
  have h1:a.eval x=aggV xs:=h.at_ x _ hx
  simp[execOp,Instr.box,newVar,newRow,h1,aggV,Value.cells]) hdn
theorem FnL.rekey{f:FuncId}{gs:List (TypeId×Nat)}{us:List Value}{M M₂:Env}{G:Nat->Nat->Prop}{u:Nat->Value}{M' M₂':Nat->Env}(h:FnL P f B gs us M G u M')(h1:M₂.map Prod.snd=M.map Prod.snd)(h2:∀ i,(M₂' i).map Prod.snd=(M' i).map Prod.snd): FnL P f B gs us M₂ G u M₂' :=
 ⟨h.body,fun w hB hM hw=>(h.calls w hB (fun p hp=>by
  have h3:p.2∈M₂.map Prod.snd:=by rw[h1]; exact List.mem_map_of_mem hp
  obtain⟨q,hq,hqe⟩:=List.mem_map.1 h3
  rw[<- hqe]; exact hM q hq) hw).mono fun e w' ⟨i,h4,h5,h6,h7⟩=>⟨i,h4,h5,h6,fun p hp=>by
  have h3:p.2∈(M' i).map Prod.snd:=by rw[<- h2 i]; exact List.mem_map_of_mem hp
  obtain⟨q,hq,hqe⟩:=List.mem_map.1 h3
  rw[<- hqe]; exact h7 q hq⟩⟩
end
section
variable {P:Program} {n B:Nat} {ops:Array Oper} {Q:Exit->Act->World->Prop}
theorem A.regL0{id:Nat}(p:Nat)(late:List Nat)(hm:P.follows .mixedOrders=true)(hf:fits n ops=true)(htied:tied ops=true)(hlate:lateOk ops p late=true)(Z:Env)
  (h:RunK P w₀.heap.size ops (ops.toList.take p) E (fun E₁=>∀ S∈subs late,∃ m,LateT P n w₀.heap.size ops (fun E₃=>SubL Z E₃) p m S E₁))(hz:End κ w₀ n Z (Q .normal)): A κ P w₀ n (.region id ops true) E Q:=fun a w hg hst=>by
 obtain⟨E₁,hr,hC⟩:=h
 obtain⟨ds,ht⟩:=hr.trace
 have hd:Below w₀.heap.size w w.drew:=(Below.refl _ w).drew
 have hst0:St κ n w₀.heap.size E a w.drew:=hst.grow (Grow.refl w).drew
 refine wpIn_region_any hm (wp_segL htied hf hlate ht hst0 (fun S hS fuel a' w' hfu g h'=>?_) _ _ a w.drew ?_ (start_inv (Nat.zero_le _) htied (by simp) (fun i hi=>by simp[hi]) hst0))
 ·obtain⟨m,hmu,E₀,hsub,hkeep,o,ho,E₂,he,hn⟩:=hC S hS
  have h0:St κ n w₀.heap.size E₀ a' w':=⟨h'.base,h'.defers,h'.size,fun t e he=>by
   have hm:=look_mem he
   exact h'.of t e (look_without (List.all_eq_true.1 hkeep t (List.mem_map.2 ⟨_,hm,rfl⟩)) (hsub _ hm))⟩
  refine wpOpR_step ho fun K hK=>he κ a' w' K _ h0 fun a'' w'' g' h''=>hK _ _ (wp_anyE (hn.mono (k:=fuel) (by omega)) h'' fun E3 a3 w3 hC3 g3 h3=>?_)
  exact hz a3 w3 (Below.trans hg (Below.trans hd (Below.trans (Below.mono g hst.base) (Below.trans g' g3)))) (h3.subL hC3)
 ·refine Nat.le_trans List.countP_le_length ?_
  simp
end
end
end Go.Proofs.YtjigbkamgfidkaaGreatDoor
