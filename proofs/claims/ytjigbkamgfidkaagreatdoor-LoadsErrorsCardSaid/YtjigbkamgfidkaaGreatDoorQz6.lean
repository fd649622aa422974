/- OWN TEXTS. -/
import Derived.Test.YtjigbkamgfidkaaGreatDoorQz5
namespace Go.Proofs.YtjigbkamgfidkaaGreatDoor
set_option linter.unusedVariables false
set_option linter.unusedSimpArgs false
set_option maxRecDepth 20000
open Go Go.RowKit
set_option maxHeartbeats 1000000 in
theorem ref4Expand_fn (prk info:List UInt8) (n:Nat) (hp:prk.length<=1000) (hi:info.length<=1000) (hn:n<=8160):FnB Tryz.prog 86 [byt prk,byt info,.v (.int .i64 ((n:Nat):Int))] (fun B=>own B 5 n ((hkdf prk info n).map byteV)):=by
 refine FnB.of Tryz.func86 rfl (by kernel_rfl) Tryz.ntmps86 (by simp) (fun w=>[(0,old w.heap.size (byt prk)),(1,old w.heap.size (byt info)),(2,.v (.int .i64 ((n:Nat):Int)))]) (fun w=>(Start.old rfl (Start.old rfl (Start.v rfl Start.nil)))) fun w₀=>?_
 refine GV rfl (GV rfl (A.nilV (k:=1000207) w₀.heap.size 5 ?_));refine A.nilV (k:=1000208) w₀.heap.size 5 ?_;refine QS (GV rfl (A.block ?_));refine A.loop (ι:=(Nat×Value×Value)) (fun s=>32*s.1<=n+31∧Disj s.2.1 s.2.2) (fun s=>[(0,old w₀.heap.size (byt prk)),(1,old w₀.heap.size (byt info)),(2,.v (.int .i64 ((n:Nat):Int))),(7,.v s.2.1),(8,.v s.2.2),(9,.v (.int .i64 ((s.1+1:Nat):Int))),(1000207,ownM w₀.heap.size s.2.1 5 (32*s.1) (((hkO prk info s.1)).map byteV)),(1000208,ownM w₀.heap.size s.2.2 5 ((hkT prk info s.1).length) (((hkT prk info s.1)).map byteV))]) (fun s=>n+32-32*s.1) (0,.slice none 0 0,.slice none 0 0) ?_ ?_ ?_
 ·exact⟨by omega,Disj.nil _⟩
 ·exact(Sv [0,1,2,7,8,9,1000207,1000208] rfl)
 intro s hs
 obtain⟨v7,hv7⟩:∃ v,s.2.1=v:=⟨_,rfl⟩
 obtain⟨v8,hv8⟩:∃ v,s.2.2=v:=⟨_,rfl⟩
 rw[hv7,hv8] at hs
 obtain⟨hs1,hd_v7_v8⟩:=hs
 have hd_v8_v7:=hd_v7_v8.symm
 rw[hv7,hv8]
 refine QS (GT (RS (ok_moveV (k:=1000207) (by decide) rfl rfl) ?_));refine RS (ok_lenB (l:=(hkO prk info s.1)) U23 rfl (own_cat rfl (hkO_length _).symm)) ?_;refine RZ (.int .i64 ((32*s.1:Nat):Int)) (by rw[hkO_length]) ?_;refine RVN 2 rfl ?_;refine A.cond rfl (fun hc14=>?_) (fun hc14=>?_)
 ·have hlt:32*s.1<n:=by simp at hc14; omega
  refine QK (QSB ?_);refine A.regsG _ (fun B=>(OldOf.p (t:=0) rfl (OldOf.p (t:=1) rfl (OldOf.v (t:=2) rfl (OldOf.v (t:=7) rfl (OldOf.v (t:=8) rfl (OldOf.v (t:=9) rfl (OldOf.v (t:=14) rfl (OldOf.p (t:=1000207) rfl (OldOf.p (t:=1000208) rfl OldOf.nil)))))))))) (by kernel_rfl) (by kernel_rfl) (.inl rfl) (fun B hB=>?_);refine TF 3 (RM rfl ?_);refine RS (ok_build0own U23 info5) ?_;refine RS ((OpOk.subL (E₁:=[(8,.v v8),(1000208,ownM w₀.heap.size v8 5 (hkT prk info s.1).length ((hkT prk info s.1).map byteV))]) (SubL.cons rfl (Le.refl _) (SubL.cons rfl (Le.old _ _) SubL.nil)) (ok_moveV (k:=1000208) (by decide) rfl rfl)).le (d':=byt (hkT prk info s.1)) (own_cat rfl rfl)) ?_;refine RN ?_;refine⟨_,eff_appendS (vs:=(hkT prk info s.1).map byteV) U23 info5 (by decide) rfl rfl rfl (Le.eq (byt_vals _)) (by simp[byteV,Value.oneCell']) (by have:=hkT_le (prk:=prk) (info:=info) s.1; simp; omega) (by decide) (fun g hg=>(LO 0 rfl (LO 1 rfl (LO 17 rfl (LO 1000207 rfl (LO 1000208 rfl (LW [2,7,9] rfl))))))),?_⟩
  refine TF 5 (RVN 1 rfl ?_);refine⟨_,eff_appendS (vs:=info.map byteV) U23 info5 (by decide) rfl rfl rfl ((Le.old _ _).trans ((Le.old _ _).trans (Le.eq (byt_vals info)))) (by simp[byteV,Value.oneCell']) (by have:=hkT_le (prk:=prk) (info:=info) s.1; simp; omega) (by decide) (fun g hg=>(LO 0 rfl (LO 1 rfl (LO 17 rfl (LO 1000207 rfl (LO 1000208 rfl (LW [2,7,9] rfl))))))),?_⟩
  refine TF 9 (RM rfl ?_);refine RS (ok_conv U3 U5 rfl) ?_;refine RZ (byteV (UInt8.ofNat (s.1+1))) (by rw[wrap_u8_nat]; rfl) ?_;refine RS (ok_build [byteD (UInt8.ofNat (s.1+1))] U23 info5 rfl (by decide) (by decide) rfl ⟨rfl,rfl,trivial⟩ (fun d hd w x h=>by simp only[List.mem_cons,List.not_mem_nil,or_false] at hd; rcases hd with rfl; exact v_one rfl h)) ?_;refine RN ?_;refine⟨_,eff_appendS (vs:=[byteV (UInt8.ofNat (s.1+1))]) U23 info5 (by decide) rfl rfl rfl (le_lst _ _) (by simp[byteV,Value.oneCell']) (by have:=hkT_le (prk:=prk) (info:=info) s.1; simp; omega) (by decide) (fun g hg=>(LO 0 rfl (LO 1 rfl (LO 17 rfl (LO 1000207 rfl (LO 1000208 rfl (LW [2,7,9] rfl))))))),?_⟩
  refine TN 11 (RS (ok_call (ref3Sum_fn prk ((hkT prk info s.1)++info++[UInt8.ofNat (s.1+1)]) (by omega) (by have:=hkT_le (prk:=prk) (info:=info) s.1; simp only[List.length_append,List.length_cons,List.length_nil]; omega)) (Args.cons rfl ((Le.old _ _).trans (Le.old _ _)) (Args.cons rfl (own_cat (by simp) (by simp; omega)) Args.nil))) ?_);refine RN ?_;refine ZN 1000010 zero32 fun b10 ⟨hBb10,hb10⟩=>?_
  refine TF 12 (RN ?_);refine⟨_,eff_storeA (n:=37) (s:=1000010) (size32.of (by rw[List.length_map,hmac_length])) rfl rfl (all_bytes _) hBb10 rfl (by rw[List.length_map,hmac_length,List.length_replicate]) (LO 0 rfl (LO 1 rfl (LO 1000207 rfl (LO 1000208 rfl (LW [2,7,9,10] rfl))))),?_⟩
  refine TL (RN (A.sub (Sv [0,1,2,7,9,10,1000010,1000207,1000208] rfl) ?_));refine A.subL (QX 0 rfl (Le.old _ _) (QX 1 rfl (Le.old _ _) (QC 2 rfl (QC 7 rfl (QC 9 rfl (QC 10 rfl (QC 1000010 rfl (QX 1000207 rfl (Le.old _ _) (QX 1000208 rfl (Le.old _ _) SubL.nil))))))))) ?_;refine A.regsG _ (fun B=>(OldOf.p (t:=0) rfl (OldOf.p (t:=1) rfl (OldOf.v (t:=2) rfl (OldOf.v (t:=7) rfl (OldOf.v (t:=9) rfl (OldOf.v (t:=10) rfl (OldOf.p (t:=1000010) rfl (OldOf.p (t:=1000207) rfl (OldOf.p (t:=1000208) rfl OldOf.nil)))))))))) (by kernel_rfl) (by kernel_rfl) (.inl rfl) (fun B hB=>?_);refine TF 2 (RS (ok_build0own U23 info5) ?_);refine RS ((OpOk.subL (E₁:=[(10,.v (.pointer (some ⟨b10,0,none⟩))),(1000010,blk b10 32 ((hmac prk ((hkT prk info s.1)++info++[UInt8.ofNat (s.1+1)])).map byteV))]) (SubL.cons rfl (Le.refl _) (SubL.cons rfl (Le.old _ _) SubL.nil)) (ok_sliceA (s:=1000010) 0 32 (by decide) U32 info5 rfl rfl (.inr ⟨rfl,rfl⟩) (.inr ⟨rfl,rfl⟩) (by omega) (by omega) (by rw[List.length_map,hmac_length]) (by decide))).le (d':=byt (hkT prk info (s.1+1))) (Le.eq (by rw[byt_vals]; congr 2<;>rw[List.drop_zero,List.take_of_length_le (by rw[List.length_map,hmac_length]; exact Nat.le_refl _)]<;>rfl))) ?_;refine RN ?_;refine⟨_,eff_appendS (vs:=(hkT prk info (s.1+1)).map byteV) U23 info5 (by decide) rfl rfl rfl (Le.eq (byt_vals _)) (by simp[byteV,Value.oneCell']) (by simp only[List.length_map,hkT_length]; omega) (by decide) (fun g hg=>(LO 0 rfl (LO 1 rfl (LO 1000010 rfl (LO 1000207 rfl (LO 1000208 rfl (LW [2,7,9] rfl))))))),?_⟩
  refine TL (RVN 1 rfl ?_);refine A.sub (Sv [0,1,2,7,8,9,1000010,1000207,1000208] rfl) ?_;refine A.openVD (t:=8) (k:=1000208) (j:=1000207) rfl rfl fun v8a hd_v8a_v7=>?_
  have hd_v7_v8a:=hd_v8a_v7.symm
  refine A.subL (QX 0 rfl (Le.old _ _) (QX 1 rfl (Le.old _ _) (QC 2 rfl (QC 7 rfl (QC 8 rfl (QC 9 rfl (QX 1000010 rfl (Le.old _ _) (QX 1000207 rfl (Le.old _ _) (QX 1000208 rfl (ownM_mono hB) SubL.nil))))))))) ?_;refine GE (RunTK.newv 2 (by decide) rfl (.inl rfl) ?_);refine RM rfl ?_;refine RS ((ok_moveV (k:=1000208) (by decide) rfl rfl).le (d':=byt (hkT prk info (s.1+1))) (own_cat (by simp) (by simp))) ?_;refine RN ?_;refine⟨_,_,eff_appendV (n:=37) (k:=1000207) (vs:=(hkT prk info (s.1+1)).map byteV) U23 info5 (by decide) rfl rfl rfl rfl (Le.eq (byt_vals _)) (by simp[byteV,Value.oneCell']) (by simp only[List.length_map,hkT_length]; omega) (by decide) (fun g hB hg=>(LO 0 rfl (LO 1 rfl (LT 1000010 rfl (LeftS.cons (t:=1000208) rfl (Surv.ownM (by rcases hg with hg|hg; exact hd_v7_v8a g hg; exact hg.2.2 1000208 _ _ _ _ _ rfl)) (LW [2,7,8,9,31] rfl)))))),fun v7a hv7a=>?_⟩
  have hd_v7a_v8a:=Disj.step hv7a hd_v7_v8a (s:=1000208) rfl
  have hd_v8a_v7a:=hd_v7a_v8a.symm
  refine TL (RVN 1 rfl ?_);refine End.normal_block (EN (GTE (RV 2 rfl ?_)));refine RZ (.int .i64 ((s.1+1+1:Nat):Int)) (by rw[wrap_i64 (by omega) (by omega)]; first|rfl|(congr 1; omega)) ?_;refine RVN 1 rfl ?_;refine End.normal_then ?_;refine End.again (s.1+1,v7a,v8a) ?_ ?_ ?_
  ·exact⟨by show 32*(s.1+1)<=_; omega,hd_v7a_v8a⟩
  ·show _-_<_-_; omega
  ·exact(KC 0 rfl (KC 1 rfl (KC 2 rfl (KC 7 rfl (KC 8 rfl (KC 9 rfl (KE 1000207 rfl (by simp only[hkT_length,List.length_map,hkO,List.map_append]; rfl) (KE 1000208 rfl (by simp) KN))))))))
 ·have hge:n<=32*s.1:=by simp at hc14; omega
  refine A.exit (End.exit_then (End.exit_then (End.exit_here (EN (GT (RS (ok_moveV (k:=1000207) (by decide) rfl rfl) ?_))))));refine RM rfl ?_;refine RS ((ok_sliceOwn U23 info5 rfl rfl (by omega)).le (d':=own w₀.heap.size 5 n ((hkdf prk info n).map byteV)) (Le.eq (by rw[<- List.map_take,hkO_hkdf (by omega)]))) ?_;refine RVN 1 rfl ?_;refine A.ret ?_;exact ER rfl rfl
variable {n:Nat} {e:TypeId} {xs:List Value} {w:World} {i:Nat} {b:Nat} {k:Nat} {B:Nat} {l:Nat} {j:Nat} {m:Nat} {s:Nat} {nb:Nat} {E':Env} {fn:Func} {g:Nat} {td:TypeDesc} {w₀:World} {ys:List Value}
theorem zero26: ZeroIs Tryz.prog 26 (List.replicate 16 (.int .u8 0)):=by unfold ZeroIs; kernel_rfl
theorem size26: SizeIs Tryz.prog 26 16:=by unfold SizeIs; kernel_rfl
theorem zero28: ZeroIs Tryz.prog 28 (List.replicate 32 (.int .u8 0)):=by unfold ZeroIs; kernel_rfl
theorem size28: SizeIs Tryz.prog 28 32:=by unfold SizeIs; kernel_rfl
theorem map_getD8{l:List UInt8}(h:i<l.length): (l.map byteD)[i]?=some (byteD (l.getD i 0)):=by
 rw[List.getElem?_map,List.getElem?_eq_getElem h,List.getD_eq_getElem?_getD,List.getElem?_eq_getElem h]; rfl
theorem getD_get{l:List UInt8}(h:i<l.length): l[i]?=some (l.getD i 0):=by
 rw[List.getElem?_eq_getElem h,List.getD_eq_getElem?_getD,List.getElem?_eq_getElem h]; rfl
set_option maxHeartbeats 1000000 in
theorem ref4Keys_fn(mk:List UInt8)(hmk:mk.length=32): Fn Tryz.prog 38 [.v (aggV (mk.map byteV))] (tup [.v (aggV ((hkdf (hmac [99,97,105,115,115,111,110] mk) [101,110,99,114,121,112,116] 16).map byteV)),.v (aggV ((hkdf (hmac [99,97,105,115,115,111,110] mk) [109,97,99] 32).map byteV))]):=by
 refine FV Tryz.func38 rfl Tryz.ntmps38 rfl fun w₀=>?_
 refine GS (TN 0 (RN ?_));refine ZB 1000001 rfl fun b1 ⟨hBb1,hb1⟩=>?_
 refine TN 1 (RN ?_);refine ZN 1000002 zero26 fun b2 ⟨hBb2,hb2⟩=>?_
 refine TN 2 (RN ?_);refine ZN 1000003 zero28 fun b3 ⟨hBb3,hb3⟩=>?_
 have hlt_b1_b3:=hb3 1000001 b1 _ _ rfl
 refine TL (RN (GS (TF 1 (RS (ok_buildT [99,97,105,115,115,111,110] U23 info5 rfl (by decide) (by decide) rfl ⟨rfl,rfl,rfl,rfl,rfl,rfl,rfl,rfl,rfl,rfl,rfl,rfl,rfl,rfl,trivial⟩) ?_))));refine RN ?_;refine⟨_,eff_convN (n:=45) U23 U5 rfl (by decide) (fun g hg=>(LeftM.cons (t:=1) rfl (.of (Surv.v _)) (LeftM.cons (t:=2) rfl (.of (Surv.v _)) (LeftM.cons (t:=3) rfl (.of (Surv.v _)) (LeftM.cons (t:=11) rfl (.stb) (LeftM.cons (t:=1000001) rfl (.of (Surv.blkT (by decide))) (LeftM.cons (t:=1000002) rfl (.of (Surv.blkT (by decide))) (LeftM.cons (t:=1000003) rfl (.of (Surv.blkT (by decide))) LeftM.nil)))))))),?_⟩
 refine TN 4 (RS ((ok_sliceA (s:=1000001) 0 32 (by decide) U28 info5 rfl rfl (.inr ⟨rfl,rfl⟩) (.inr ⟨rfl,rfl⟩) (by omega) (by omega) (by rw[List.length_map,hmk]) (by decide)).le (d':=byt mk) (Le.eq (by rw[byt_vals]; congr 2<;>rw[List.drop_zero,List.take_of_length_le (by rw[List.length_map,hmk]; exact Nat.le_refl _)]))) ?_);refine RS (ok_call (ref3Sum_fn [99,97,105,115,115,111,110] mk (by simp) (by omega)) (Args.cons rfl newT_byt (A1 rfl))) ?_;refine RN ?_;refine ZN 1000004 zero32 fun b4 ⟨hBb4,hb4⟩=>?_
 refine TF 5 (RN ?_);refine⟨_,eff_storeA (n:=45) (s:=1000004) (size32.of (by rw[List.length_map,hmac_length])) rfl rfl (all_bytes _) hBb4 rfl (by rw[List.length_map,hmac_length,List.length_replicate]) (LT 1000001 rfl (LT 1000002 rfl (LT 1000003 rfl (LW [2,3,4] rfl)))),?_⟩
 refine TL (RN (GS (TN 0 (RN ?_))));refine ZN 1000005 zero26 fun b5 ⟨hBb5,hb5⟩=>?_
 have hlt_b2_b5:=hb5 1000002 b2 _ _ rfl
 refine TL (RN (GS (TN 0 (RN ?_))));refine ZN 1000006 zero28 fun b6 ⟨hBb6,hb6⟩=>?_
 have hlt_b1_b6:=hb6 1000001 b1 _ _ rfl
 have hlt_b3_b6:=hb6 1000003 b3 _ _ rfl
 refine TL (RN ?_);refine A.regsG _ (fun B=>(OldOf.v (t:=2) rfl (OldOf.v (t:=3) rfl (OldOf.v (t:=4) rfl (OldOf.v (t:=5) rfl (OldOf.v (t:=6) rfl (OldOf.p (t:=1000001) rfl (OldOf.p (t:=1000002) rfl (OldOf.p (t:=1000003) rfl (OldOf.p (t:=1000004) rfl (OldOf.p (t:=1000005) rfl (OldOf.p (t:=1000006) rfl OldOf.nil)))))))))))) (by kernel_rfl) (by kernel_rfl) (.inl rfl) (fun B hB=>?_);refine TF 2 (RS ((OpOk.subL (E₁:=[(4,.v (.pointer (some ⟨b4,0,none⟩))),(1000004,blk b4 32 ((hmac [99,97,105,115,115,111,110] mk).map byteV))]) (SubL.cons rfl (Le.refl _) (SubL.cons rfl (Le.old _ _) SubL.nil)) (ok_sliceA (s:=1000004) 0 32 (by decide) U32 info5 rfl rfl (.inr ⟨rfl,rfl⟩) (.inr ⟨rfl,rfl⟩) (by omega) (by omega) (by rw[List.length_map,hmac_length]) (by decide))).le (d':=byt (hmac [99,97,105,115,115,111,110] mk)) (Le.eq (by rw[byt_vals]; congr 2<;>rw[List.drop_zero,List.take_of_length_le (by rw[List.length_map,hmac_length]; exact Nat.le_refl _)]))) ?_);refine RS (ok_buildT [101,110,99,114,121,112,116] U23 info5 rfl (by decide) (by decide) rfl ⟨rfl,rfl,rfl,rfl,rfl,rfl,rfl,rfl,rfl,rfl,rfl,rfl,rfl,rfl,trivial⟩) ?_;refine RN ?_;refine⟨_,eff_convN (n:=45) U23 U5 rfl (by decide) (fun g hg=>(LeftM.cons (t:=2) rfl (.of (Surv.v _)) (LeftM.cons (t:=3) rfl (.of (Surv.v _)) (LeftM.cons (t:=4) rfl (.of (Surv.v _)) (LeftM.cons (t:=5) rfl (.of (Surv.v _)) (LeftM.cons (t:=6) rfl (.of (Surv.v _)) (LeftM.cons (t:=15) rfl (.stb) (LeftM.cons (t:=16) rfl (.stb) (LeftM.cons (t:=1000001) rfl (.of (Surv.old (by omega))) (LeftM.cons (t:=1000002) rfl (.of (Surv.old (by omega))) (LeftM.cons (t:=1000003) rfl (.of (Surv.old (by omega))) (LeftM.cons (t:=1000004) rfl (.of (Surv.old (by omega))) (LeftM.cons (t:=1000005) rfl (.of (Surv.old (by omega))) (LeftM.cons (t:=1000006) rfl (.of (Surv.old (by omega))) LeftM.nil)))))))))))))),?_⟩
 refine TL (RS ((ok_callB (ref4Expand_fn (hmac [99,97,105,115,115,111,110] mk) [101,110,99,114,121,112,116] 16 (by rw[hmac_length]; decide) (by simp) (by decide)) (fun _ _ h=>own_mono h) (Args.cons rfl (Le.refl _) (Args.cons rfl newT_byt (A1 rfl)))).le (own_mono hB)) ?_);refine RVN 1 rfl ?_;refine A.sub (Sv [2,3,4,5,6,7,1000001,1000002,1000003,1000004,1000005,1000006] rfl) ?_;refine A.subL (QC 2 rfl (QC 3 rfl (QC 4 rfl (QC 5 rfl (QC 6 rfl (QC 7 rfl (QX 1000001 rfl (Le.old _ _) (QX 1000002 rfl (Le.old _ _) (QX 1000003 rfl (Le.old _ _) (QX 1000004 rfl (Le.old _ _) (QX 1000005 rfl (Le.old _ _) (QX 1000006 rfl (Le.old _ _) SubL.nil)))))))))))) ?_;refine A.regsG _ (fun B=>(OldOf.v (t:=2) rfl (OldOf.v (t:=3) rfl (OldOf.v (t:=4) rfl (OldOf.v (t:=5) rfl (OldOf.v (t:=6) rfl (OldOf.p (t:=7) rfl (OldOf.p (t:=1000001) rfl (OldOf.p (t:=1000002) rfl (OldOf.p (t:=1000003) rfl (OldOf.p (t:=1000004) rfl (OldOf.p (t:=1000005) rfl (OldOf.p (t:=1000006) rfl OldOf.nil))))))))))))) (by kernel_rfl) (by kernel_rfl) (.inl rfl) (fun B hB=>?_);refine TF 2 (RS ((OpOk.subL (E₁:=[(4,.v (.pointer (some ⟨b4,0,none⟩))),(1000004,blk b4 32 ((hmac [99,97,105,115,115,111,110] mk).map byteV))]) (SubL.cons rfl (Le.refl _) (SubL.cons rfl (Le.old _ _) SubL.nil)) (ok_sliceA (s:=1000004) 0 32 (by decide) U32 info5 rfl rfl (.inr ⟨rfl,rfl⟩) (.inr ⟨rfl,rfl⟩) (by omega) (by omega) (by rw[List.length_map,hmac_length]) (by decide))).le (d':=byt (hmac [99,97,105,115,115,111,110] mk)) (Le.eq (by rw[byt_vals]; congr 2<;>rw[List.drop_zero,List.take_of_length_le (by rw[List.length_map,hmac_length]; exact Nat.le_refl _)]))) ?_);refine RS (ok_buildT [109,97,99] U23 info5 rfl (by decide) (by decide) rfl ⟨rfl,rfl,rfl,rfl,rfl,rfl,trivial⟩) ?_;refine RN ?_;refine⟨_,eff_convN (n:=45) U23 U5 rfl (by decide) (fun g hg=>(LeftM.cons (t:=2) rfl (.of (Surv.v _)) (LeftM.cons (t:=3) rfl (.of (Surv.v _)) (LeftM.cons (t:=4) rfl (.of (Surv.v _)) (LeftM.cons (t:=5) rfl (.of (Surv.v _)) (LeftM.cons (t:=6) rfl (.of (Surv.v _)) (LeftM.cons (t:=7) rfl (.of (Surv.old (by omega))) (LeftM.cons (t:=19) rfl (.stb) (LeftM.cons (t:=20) rfl (.stb) (LeftM.cons (t:=1000001) rfl (.of (Surv.old (by omega))) (LeftM.cons (t:=1000002) rfl (.of (Surv.old (by omega))) (LeftM.cons (t:=1000003) rfl (.of (Surv.old (by omega))) (LeftM.cons (t:=1000004) rfl (.of (Surv.old (by omega))) (LeftM.cons (t:=1000005) rfl (.of (Surv.old (by omega))) (LeftM.cons (t:=1000006) rfl (.of (Surv.old (by omega))) LeftM.nil))))))))))))))),?_⟩
 refine TL (RS ((ok_callB (ref4Expand_fn (hmac [99,97,105,115,115,111,110] mk) [109,97,99] 32 (by rw[hmac_length]; decide) (by simp) (by decide)) (fun _ _ h=>own_mono h) (Args.cons rfl (Le.refl _) (Args.cons rfl newT_byt (A1 rfl)))).le (own_mono hB)) ?_);refine RVN 1 rfl ?_;refine A.sub (Sv [2,3,5,6,7,8,1000001,1000002,1000003,1000004,1000005,1000006] rfl) ?_;refine A.subL (QC 2 rfl (QC 3 rfl (QC 5 rfl (QC 6 rfl (QX 7 rfl (Le.old _ _) (QC 8 rfl (QX 1000001 rfl (Le.old _ _) (QX 1000002 rfl (Le.old _ _) (QX 1000003 rfl (Le.old _ _) (QX 1000004 rfl (Le.old _ _) (QX 1000005 rfl (Le.old _ _) (QX 1000006 rfl (Le.old _ _) SubL.nil)))))))))))) ?_;refine QS (GV rfl (A.block ?_));refine A.loop (ι:=Nat) (fun i=>i<=16) (fun i=>[(2,.v (.pointer (some ⟨b2,0,none⟩))),(3,.v (.pointer (some ⟨b3,0,none⟩))),(5,.v (.pointer (some ⟨b5,0,none⟩))),(6,.v (.pointer (some ⟨b6,0,none⟩))),(7,own w₀.heap.size 5 16 ((hkdf (hmac [99,97,105,115,115,111,110] mk) [101,110,99,114,121,112,116] 16).map byteV)),(8,own w₀.heap.size 5 32 ((hkdf (hmac [99,97,105,115,115,111,110] mk) [109,97,99] 32).map byteV)),(9,.v (.int .i64 ((i:Nat):Int))),(1000002,blk b2 26 (List.replicate 16 (.int .u8 0))),(1000003,blk b3 28 (List.replicate 32 (.int .u8 0))),(1000005,blk b5 26 ((((hkdf (hmac [99,97,105,115,115,111,110] mk) [101,110,99,114,121,112,116] 16)).take i).map byteV++List.replicate ((hkdf (hmac [99,97,105,115,115,111,110] mk) [101,110,99,114,121,112,116] 16).length-i) (.int .u8 0))),(1000006,blk b6 28 (List.replicate 32 (.int .u8 0)))]) (fun i=>16-i) 0 ?_ ?_ ?_
 ·exact Nat.zero_le _
 ·exact(KC 2 rfl (KC 3 rfl (KC 5 rfl (KC 6 rfl (KC 7 rfl (KC 8 rfl (KC 9 rfl (KC 1000002 rfl (KC 1000003 rfl (KE 1000005 rfl (by simp[hkdf_length]) (KC 1000006 rfl KN)))))))))))
 intro i hi
 refine QS (GV rfl ?_);refine A.cond rfl (fun hc24=>?_) (fun hc24=>?_)
 ·have hlt:i<16:=by simp at hc24; omega
  refine QK (QSB (GE (TF 6 (RV 3 rfl ?_))));refine RS (ok_index (d:=byteD ((hkdf (hmac [99,97,105,115,115,111,110] mk) [101,110,99,114,121,112,116] 16).getD i 0)) U23 info5 rfl (own_cat rfl (hkdf_length _).symm) rfl (by omega) (by rw[Int.toNat_natCast,map_getD8 (by rw[hkdf_length]; exact hlt)])) ?_;refine RS (ok_load U5 rfl rfl) ?_;refine RS (ok_index0 _ U26 info5 rfl rfl (rfl) (by omega)) ?_;refine RN ?_;refine⟨_,eff_storeS (n:=45) (s:=1000005) info5 rfl rfl rfl hBb5 rfl (by simp[hkdf_length]; omega) (LeftS.cons (t:=7) rfl (Surv.own (by decide)) (LeftS.cons (t:=8) rfl (Surv.own (by decide)) (LB 1000002 rfl (LT 1000003 rfl (LT 1000006 rfl (LW [2,3,5,6,9] rfl)))))),?_⟩
  refine TL (RN (End.sub (KC 2 rfl (KC 3 rfl (KC 5 rfl (KC 6 rfl (KC 7 rfl (KC 8 rfl (KC 9 rfl (KC 1000002 rfl (KC 1000003 rfl (KE 1000005 rfl (show blk b5 26 _=blk b5 26 ((((hkdf (hmac [99,97,105,115,115,111,110] mk) [101,110,99,114,121,112,116] 16)).take (i+1)).map byteV++List.replicate ((hkdf (hmac [99,97,105,115,115,111,110] mk) [101,110,99,114,121,112,116] 16).length-(i+1)) (.int .u8 0)) from congrArg _ (by rw[fill_step (getD_get (l:=(hkdf (hmac [99,97,105,115,115,111,110] mk) [101,110,99,114,121,112,116] 16)) (by rw[hkdf_length]; exact hlt))])) (KC 1000006 rfl KN))))))))))) ?_));refine End.normal_block (EN (GTE (RV 2 rfl ?_)));refine RZ (.int .i64 ((i+1:Nat):Int)) (by rw[wrap_i64 (by omega) (by omega)]; first|rfl|(congr 1; omega)) ?_;refine RVN 1 rfl ?_;refine End.normal_then ?_;refine End.again (i+1) ?_ ?_ ?_
  ·show _<=_; omega
  ·show _-_<_-_; omega
  ·exact(Sv [2,3,5,6,7,8,9,1000002,1000003,1000005,1000006] rfl)
 ·obtain rfl:i=16:=by simp at hc24; omega
  refine A.exit (End.exit_then (End.exit_then (End.exit_here (EN (QS (GV rfl (A.block ?_)))))));refine A.loop (ι:=Nat) (fun i=>i<=32) (fun i=>[(2,.v (.pointer (some ⟨b2,0,none⟩))),(3,.v (.pointer (some ⟨b3,0,none⟩))),(5,.v (.pointer (some ⟨b5,0,none⟩))),(6,.v (.pointer (some ⟨b6,0,none⟩))),(8,own w₀.heap.size 5 32 ((hkdf (hmac [99,97,105,115,115,111,110] mk) [109,97,99] 32).map byteV)),(10,.v (.int .i64 ((i:Nat):Int))),(1000002,blk b2 26 (List.replicate 16 (.int .u8 0))),(1000003,blk b3 28 (List.replicate 32 (.int .u8 0))),(1000005,blk b5 26 ((hkdf (hmac [99,97,105,115,115,111,110] mk) [101,110,99,114,121,112,116] 16).map byteV)),(1000006,blk b6 28 ((((hkdf (hmac [99,97,105,115,115,111,110] mk) [109,97,99] 32)).take i).map byteV++List.replicate ((hkdf (hmac [99,97,105,115,115,111,110] mk) [109,97,99] 32).length-i) (.int .u8 0)))]) (fun i=>32-i) 0 ?_ ?_ ?_
  ·exact Nat.zero_le _
  ·exact(KC 2 rfl (KC 3 rfl (KC 5 rfl (KC 6 rfl (KC 8 rfl (KC 10 rfl (KC 1000002 rfl (KC 1000003 rfl (KE 1000005 rfl (by simp[hkdf_length,List.take_of_length_le]) (KE 1000006 rfl (by simp[hkdf_length]) KN))))))))))
  intro i hi
  refine QS (GV rfl ?_);refine A.cond rfl (fun hc34=>?_) (fun hc34=>?_)
  ·have hlt:i<32:=by simp at hc34; omega
   refine QK (QSB (GE (TF 6 (RV 3 rfl ?_))));refine RS (ok_index (d:=byteD ((hkdf (hmac [99,97,105,115,115,111,110] mk) [109,97,99] 32).getD i 0)) U23 info5 rfl (own_cat rfl (hkdf_length _).symm) rfl (by omega) (by rw[Int.toNat_natCast,map_getD8 (by rw[hkdf_length]; exact hlt)])) ?_;refine RS (ok_load U5 rfl rfl) ?_;refine RS (ok_index0 _ U28 info5 rfl rfl (rfl) (by omega)) ?_;refine RN ?_;refine⟨_,eff_storeS (n:=45) (s:=1000006) info5 rfl rfl rfl hBb6 rfl (by simp[hkdf_length]; omega) (LeftS.cons (t:=8) rfl (Surv.own (by decide)) (LT 1000002 rfl (LB 1000003 rfl (LT 1000005 rfl (LW [2,3,5,6,10] rfl))))),?_⟩
   refine TL (RN (End.sub (KC 2 rfl (KC 3 rfl (KC 5 rfl (KC 6 rfl (KC 8 rfl (KC 10 rfl (KC 1000002 rfl (KC 1000003 rfl (KC 1000005 rfl (KE 1000006 rfl (show blk b6 28 _=blk b6 28 ((((hkdf (hmac [99,97,105,115,115,111,110] mk) [109,97,99] 32)).take (i+1)).map byteV++List.replicate ((hkdf (hmac [99,97,105,115,115,111,110] mk) [109,97,99] 32).length-(i+1)) (.int .u8 0)) from congrArg _ (by rw[fill_step (getD_get (l:=(hkdf (hmac [99,97,105,115,115,111,110] mk) [109,97,99] 32)) (by rw[hkdf_length]; exact hlt))])) KN)))))))))) ?_));refine End.normal_block (EN (GTE (RV 2 rfl ?_)));refine RZ (.int .i64 ((i+1:Nat):Int)) (by rw[wrap_i64 (by omega) (by omega)]; first|rfl|(congr 1; omega)) ?_;refine RVN 1 rfl ?_;refine End.normal_then ?_;refine End.again (i+1) ?_ ?_ ?_
   ·show _<=_; omega
   ·show _-_<_-_; omega
   ·exact(Sv [2,3,5,6,8,10,1000002,1000003,1000005,1000006] rfl)
  ·obtain rfl:i=32:=by simp at hc34; omega
   rw[show((((hkdf (hmac [99,97,105,115,115,111,110] mk) [109,97,99] 32)).take 32).map byteV++List.replicate ((hkdf (hmac [99,97,105,115,115,111,110] mk) [109,97,99] 32).length-32) (.int .u8 0))=(hkdf (hmac [99,97,105,115,115,111,110] mk) [109,97,99] 32).map byteV from by simp[hkdf_length,List.take_of_length_le]]
   refine A.exit (End.exit_then (End.exit_then (End.exit_here (EN (A.regsE (by kernel_rfl) ?_)))));refine AnyT.step 0 [1] (by kernel_rfl) ?_;refine NextT.pure (by kernel_rfl) rfl rfl rfl (ok_loadA (s:=1000005) (by decide) U26 rfl (size26.of (by rw[List.length_map,hkdf_length])) rfl rfl) ?_ ?_
   ·refine AnyT.step 1 [2] (by kernel_rfl) ?_;refine NextT.pure (by kernel_rfl) rfl rfl rfl (ok_loadA (s:=1000006) (by decide) U28 rfl (size28.of (by rw[List.length_map,hkdf_length])) rfl rfl) ?_ ?_
    ·refine AnyT.step 2 [] (by kernel_rfl) ?_;refine NextT.eff rfl (eff_storeA (n:=45) (s:=1000002) (size26.of (by rw[List.length_map,hkdf_length])) rfl rfl (all_bytes _) hBb2 rfl (by rw[List.length_map,hkdf_length,List.length_replicate]) (LV 2 rfl (LV 3 rfl (LV 5 rfl (LV 6 rfl (LeftS.cons (t:=8) rfl (Surv.own (by decide)) (LV 10 rfl (LV 34 rfl (LV 43 rfl (LV 44 rfl (LT 1000003 rfl (LB 1000005 rfl (LT 1000006 rfl LN))))))))))))) ?_ ?_
     ·refine AnyT.step 3 [] (by kernel_rfl) ?_;refine NextT.eff rfl (eff_storeA (n:=45) (s:=1000003) (size28.of (by rw[List.length_map,hkdf_length])) rfl rfl (all_bytes _) hBb3 rfl (by rw[List.length_map,hkdf_length,List.length_replicate]) (LV 2 rfl (LV 3 rfl (LV 5 rfl (LV 6 rfl (LeftS.cons (t:=8) rfl (Surv.own (by decide)) (LV 10 rfl (LV 34 rfl (LV 43 rfl (LV 44 rfl (LT 1000002 rfl (LT 1000005 rfl (LB 1000006 rfl LN))))))))))))) ?_ ?_
      ·refine AnyT.last (by kernel_rfl) ?_;refine A.sub (Sv [2,3,1000002,1000003,1000005,1000006] rfl) ?_;refine A.ret ?_;exact End.cell2 (s:=1000002) (s':=1000003) rfl U26 rfl (size26.of (by rw[List.length_map,hkdf_length])) rfl rfl (Le.refl _) U28 rfl (size28.of (by rw[List.length_map,hkdf_length])) rfl rfl (Le.refl _)
      exact trivial
     exact trivial
    refine NextT.eff rfl (eff_storeA (n:=45) (s:=1000002) (size26.of (by rw[List.length_map,hkdf_length])) rfl rfl (all_bytes _) hBb2 rfl (by rw[List.length_map,hkdf_length,List.length_replicate]) (LV 2 rfl (LV 3 rfl (LV 5 rfl (LV 6 rfl (LeftS.cons (t:=8) rfl (Surv.own (by decide)) (LV 10 rfl (LV 34 rfl (LV 43 rfl (LT 1000003 rfl (LB 1000005 rfl (LT 1000006 rfl LN)))))))))))) ?_ ?_
    ·refine AnyT.step 1 [] (by kernel_rfl) ?_;refine NextT.pure (by kernel_rfl) rfl rfl rfl (ok_loadA (s:=1000006) (by decide) U28 rfl (size28.of (by rw[List.length_map,hkdf_length])) rfl rfl) ?_ ?_
     ·refine AnyT.step 3 [] (by kernel_rfl) ?_;refine NextT.eff rfl (eff_storeA (n:=45) (s:=1000003) (size28.of (by rw[List.length_map,hkdf_length])) rfl rfl (all_bytes _) hBb3 rfl (by rw[List.length_map,hkdf_length,List.length_replicate]) (LV 2 rfl (LV 3 rfl (LV 5 rfl (LV 6 rfl (LeftS.cons (t:=8) rfl (Surv.own (by decide)) (LV 10 rfl (LV 34 rfl (LV 43 rfl (LV 44 rfl (LT 1000002 rfl (LT 1000005 rfl (LB 1000006 rfl LN))))))))))))) ?_ ?_
      ·refine AnyT.last (by kernel_rfl) ?_;refine A.sub (Sv [2,3,1000002,1000003,1000005,1000006] rfl) ?_;refine A.ret ?_;exact End.cell2 (s:=1000002) (s':=1000003) rfl U26 rfl (size26.of (by rw[List.length_map,hkdf_length])) rfl rfl (Le.refl _) U28 rfl (size28.of (by rw[List.length_map,hkdf_length])) rfl rfl (Le.refl _)
      exact trivial
     exact trivial
    exact trivial
   refine NextT.pure (by kernel_rfl) rfl rfl rfl (ok_loadA (s:=1000006) (by decide) U28 rfl (size28.of (by rw[List.length_map,hkdf_length])) rfl rfl) ?_ ?_
   ·refine AnyT.step 0 [] (by kernel_rfl) ?_;refine NextT.pure (by kernel_rfl) rfl rfl rfl (ok_loadA (s:=1000005) (by decide) U26 rfl (size26.of (by rw[List.length_map,hkdf_length])) rfl rfl) ?_ ?_
    ·refine AnyT.step 2 [] (by kernel_rfl) ?_;refine NextT.eff rfl (eff_storeA (n:=45) (s:=1000002) (size26.of (by rw[List.length_map,hkdf_length])) rfl rfl (all_bytes _) hBb2 rfl (by rw[List.length_map,hkdf_length,List.length_replicate]) (LV 2 rfl (LV 3 rfl (LV 5 rfl (LV 6 rfl (LeftS.cons (t:=8) rfl (Surv.own (by decide)) (LV 10 rfl (LV 34 rfl (LV 43 rfl (LV 44 rfl (LT 1000003 rfl (LB 1000005 rfl (LT 1000006 rfl LN))))))))))))) ?_ ?_
     ·refine AnyT.step 3 [] (by kernel_rfl) ?_;refine NextT.eff rfl (eff_storeA (n:=45) (s:=1000003) (size28.of (by rw[List.length_map,hkdf_length])) rfl rfl (all_bytes _) hBb3 rfl (by rw[List.length_map,hkdf_length,List.length_replicate]) (LV 2 rfl (LV 3 rfl (LV 5 rfl (LV 6 rfl (LeftS.cons (t:=8) rfl (Surv.own (by decide)) (LV 10 rfl (LV 34 rfl (LV 43 rfl (LV 44 rfl (LT 1000002 rfl (LT 1000005 rfl (LB 1000006 rfl LN))))))))))))) ?_ ?_
      ·refine AnyT.last (by kernel_rfl) ?_;refine A.sub (Sv [2,3,1000002,1000003,1000005,1000006] rfl) ?_;refine A.ret ?_;exact End.cell2 (s:=1000002) (s':=1000003) rfl U26 rfl (size26.of (by rw[List.length_map,hkdf_length])) rfl rfl (Le.refl _) U28 rfl (size28.of (by rw[List.length_map,hkdf_length])) rfl rfl (Le.refl _)
      exact trivial
     exact trivial
    exact trivial
   exact trivial
theorem zero64: ZeroIs Tryz.prog 64 (List.replicate 16 (.int .u8 0)++List.replicate 32 (.int .u8 0)):=by unfold ZeroIs; kernel_rfl
theorem size64: SizeIs Tryz.prog 64 48:=by unfold SizeIs; kernel_rfl


theorem flat60: flat Tryz.prog 3 60=some (List.replicate 32 .u8):=by kernel_rfl
theorem zero60: ZeroIs Tryz.prog 60 (List.replicate 32 (.int .u8 0)):=by unfold ZeroIs; kernel_rfl
theorem size60: SizeIs Tryz.prog 60 32:=by unfold SizeIs; kernel_rfl
section
abbrev dT:DTy:=⟨164,167,215,5⟩
theorem info164: InfoIs Tryz.prog 164 (.pointer none) 8:=by unfold InfoIs; kernel_rfl
theorem info165: InfoIs Tryz.prog 165 (.pointer none) 8:=by unfold InfoIs; kernel_rfl
theorem zero44: ZeroIs Tryz.prog 44 ([.int .i64 0]++[.int .i64 0]++[.slice none 0 0]):=by unfold ZeroIs; kernel_rfl
theorem size44: SizeIs Tryz.prog 44 3:=by unfold SizeIs; kernel_rfl
theorem field44_0: FieldIs Tryz.prog 44 0 0 1:=by unfold FieldIs; kernel_rfl
theorem field44_1: FieldIs Tryz.prog 44 1 1 1:=by unfold FieldIs; kernel_rfl
theorem field44_2: FieldIs Tryz.prog 44 2 2 1:=by unfold FieldIs; kernel_rfl
theorem zero172: ZeroIs Tryz.prog 172 ([.bool false]++[.slice none 0 0]):=by unfold ZeroIs; kernel_rfl
theorem size172: SizeIs Tryz.prog 172 2:=by unfold SizeIs; kernel_rfl
theorem field172_0: FieldIs Tryz.prog 172 0 0 1:=by unfold FieldIs; kernel_rfl
theorem field172_1: FieldIs Tryz.prog 172 1 1 1:=by unfold FieldIs; kernel_rfl
theorem field215_0: FieldIs Tryz.prog 215 0 0 2:=by unfold FieldIs; kernel_rfl
theorem field215_1: FieldIs Tryz.prog 215 1 2 1:=by unfold FieldIs; kernel_rfl
theorem zero167: ZeroIs Tryz.prog 167 (List.replicate 64 (.pointer none)):=by unfold ZeroIs; kernel_rfl
theorem size167: SizeIs Tryz.prog 167 64:=by unfold SizeIs; kernel_rfl
section
variable {P:Program} {w₀:World} {n:Nat} {c:Code} {E:Env} {Q:Exit->Act->World->Prop} {κ:Cx}
theorem A.nameDsz{t B':Nat}(ht:E.look t=some (old B' (dszD m)))(h:∀ c₁ p₁:Value,c₁.oneCell'=true->p₁.oneCell'=true->A κ P w₀ n c ((t,.v (aggV [nI m,c₁,p₁]))::E) Q): A κ P w₀ n c E Q:=fun a w g hs=>by
 obtain⟨hB,c₁,p₁,h1,h2,h3⟩:=hs.of t _ ht
 exact h c₁ p₁ h1 h2 a w g (hs.push (d:=.v _) h3)
end
theorem dHas_fn(n:Nat)(i:Int): Fn Tryz.prog 80 [dszD n,.v (.int .i64 (i))] (.v (.bool (decide (0<=i∧i<(n:Int))))):=by
 refine Fn.of Tryz.func80 rfl (by kernel_rfl) Tryz.ntmps80 (by simp) (fun w=>[(0,old w.heap.size (dszD n)),(1,.v (.int .i64 (i)))]) (fun w=>(Start.old rfl (Start.v rfl Start.nil))) fun w₀=>?_
 refine A.nameDsz (t:=0) rfl fun c₁ p₁ hc₁ hp₁=>?_
 refine GS (TN 0 (RN ?_));refine ZB 1000002 rfl fun b2 ⟨hBb2,hb2⟩=>?_
 refine TL (RVN 1 rfl ?_)
 rcases Bool.eq_false_or_eq_true (decide (0<=i)) with hsp|hsp
 ·refine GT (RV 2 rfl ?_);refine RZ (.bool true) (congrArg Value.bool hsp) ?_;refine RV 2 rfl ?_;refine RQ (ok_field field44_0 (by decide) rfl) ?_;refine RQ (ok_loadV (s:=1000002) (by decide) U3 rfl rfl rfl (rfl)) ?_;refine RQ (ok_bin rfl rfl rfl) ?_;refine RZ (.bool (decide (i<(n:Int)))) (rfl) ?_;refine RVN 2 rfl ?_;refine A.ret ?_
  first|exact End.ret1 rfl rfl (Le.v (congrArg Value.bool (decide_eq_false (fun h=>of_decide_eq_false hsp h.1)).symm))|exact End.ret1 rfl rfl (Le.v (congrArg Value.bool (decide_eq_decide.2 ⟨fun h=>⟨of_decide_eq_true hsp,h⟩,fun h=>h.2⟩)))
 ·refine GT (RV 2 rfl ?_);refine RZ (.bool false) (congrArg Value.bool hsp) ?_;refine RVN 7 rfl ?_;refine A.ret ?_
  first|exact End.ret1 rfl rfl (Le.v (congrArg Value.bool (decide_eq_false (fun h=>of_decide_eq_false hsp h.1)).symm))|exact End.ret1 rfl rfl (Le.v (congrArg Value.bool (decide_eq_decide.2 ⟨fun h=>⟨of_decide_eq_true hsp,h⟩,fun h=>h.2⟩)))
theorem dSize_fn(n:Nat): Fn Tryz.prog 57 [dszD n] (.v (nI (n))):=by
 refine Fn.of Tryz.func57 rfl (by kernel_rfl) Tryz.ntmps57 (by simp) (fun w=>[(0,old w.heap.size (dszD n))]) (fun w=>(Start.old rfl Start.nil)) fun w₀=>?_
 refine A.nameDsz (t:=0) rfl fun c₁ p₁ hc₁ hp₁=>?_
 refine GS (TN 0 (RN ?_));refine ZB 1000001 rfl fun b1 ⟨hBb1,hb1⟩=>?_
 refine TL (RVN 1 rfl ?_);refine GT (Rf field44_0 ?_);refine RLV 1000001 U3 rfl rfl rfl ?_;refine RVN 1 rfl ?_;refine A.ret ?_;exact ER rfl rfl
theorem dNewest_fn(X:Nat->Prop)(S:Dk)(i:Nat)(hi:i<S.length)(hn:S.length<=10922): Fn Tryz.prog 118 [diskD dT X S,.v (nI (i))] (versD dT X (hisC S i)):=by
 refine Fn.of Tryz.func118 rfl (by kernel_rfl) Tryz.ntmps118 (by simp) (fun w=>[(0,old w.heap.size (diskD dT X S)),(1,.v (nI (i)))]) (fun w=>(Start.old rfl (Start.v rfl Start.nil))) fun w₀=>?_
 refine A.openDk (t:=0) (k:=1000200) (k1:=1000201) (k2:=1000202) (k3:=1000203) rfl hi fun b ps bk cs v hb hbk hps hpk hcs hcv hv1 hpo hco=>?_
 refine GS (TN 0 (RN ?_));refine ZB 1000002 rfl fun b2 ⟨hBb2,hb2⟩=>?_
 refine TL (RVN 1 rfl ?_);refine GT (Rf field44_2 ?_);refine RLV 1000002 U42 rfl rfl rfl ?_;refine RM rfl ?_;refine RS (ok_div rfl rfl (by decide)) ?_;refine RZ (nI ((i) / 64)) (by rw[tdiv_lit _ (by decide)]; exact wrap_eq rfl (by first|omega|(simp only[Int.toNat]; omega))) ?_;refine RS (ok_indexV (i / 64) U42 info164 rfl rfl rfl (by omega)) ?_;refine RS (ok_loadV (s:=1000201) (by decide) U164 rfl rfl rfl (by rw[Nat.zero_add]; exact hpk)) ?_;refine RM rfl ?_;refine RS (ok_rem rfl rfl (by decide)) ?_;refine RZ (nI ((i)%64)) (by rw[tmod_lit _ (by decide)]; rfl) ?_;refine RS (ok_nilCheck rfl) ?_;refine RS (ok_index0 (i%64) U167 info165 rfl rfl (rfl) (Nat.mod_lt _ (by decide))) ?_;refine RS (OpOk.valO (k:=1000203) (ok_loadV (s:=1000202) (by decide) U165 rfl rfl rfl (hcv)) (by decide) rfl) ?_;refine RVN 1 rfl ?_;refine A.ret ?_;exact End.ret1 rfl rfl (Le.old _ _)
theorem vChanges_n(X:Nat->Prop): Fn Tryz.prog 119 [versD dT X []] (.v (nI (0))):=by
 refine Fn.of Tryz.func119 rfl (by kernel_rfl) Tryz.ntmps119 (by simp) (fun w=>[(0,old w.heap.size (versD dT X []))]) (fun w=>(Start.old rfl Start.nil)) fun w₀=>?_
 refine GV rfl (QS (GT (RM rfl ?_)));refine RS (ok_eqNilV U165 (by kernel_rfl) rfl (Le.old _ _)) ?_;refine RZ (.bool true) (rfl) ?_;refine RN (A.yes rfl ?_);refine GV rfl (A.ret (End.ret_then ?_));exact ER rfl rfl
theorem vChanges_c(X:Nat->Prop)(c:Con)(h:List Con): Fn Tryz.prog 119 [versD dT X (c::h)] (.v (nI (h.length+1))):=by
 refine Fn.of Tryz.func119 rfl (by kernel_rfl) Tryz.ntmps119 (by simp) (fun w=>[(0,old w.heap.size (versD dT X (c::h)))]) (fun w=>(Start.old rfl Start.nil)) fun w₀=>?_
 refine GV rfl (QS (GT (RM rfl ?_)));refine RS (ok_eqNilV U165 (by kernel_rfl) rfl (Le.old _ _)) ?_;refine RZ (.bool false) (rfl) ?_;refine RN (A.no rfl ?_);refine QK (GT (RM rfl ?_));refine RS (ok_nilV rfl (Le.old _ _)) ?_;refine RS (ok_versCount field215_1 rfl (Le.refl _)) ?_;refine RS (ok_load U3 rfl rfl) ?_;refine RVN 1 rfl ?_;refine A.ret ?_;exact ER rfl rfl
theorem vChanges_fn(X:Nat->Prop)(h:List Con): Fn Tryz.prog 119 [versD dT X h] (.v (nI (h.length))):=by
 cases h with
 | nil=>exact vChanges_n X
 | cons c h=>exact vChanges_c X c h
theorem vNow_n(X:Nat->Prop): Fn Tryz.prog 144 [versD dT X []] (contD dT X none):=by
 refine Fn.of Tryz.func144 rfl (by kernel_rfl) Tryz.ntmps144 (by simp) (fun w=>[(0,old w.heap.size (versD dT X []))]) (fun w=>(Start.old rfl Start.nil)) fun w₀=>?_
 refine GS (TN 0 (RN ?_));refine ZN 1000002 zero172 fun b2 ⟨hBb2,hb2⟩=>?_
 refine TL (RN (QS (GT (RM rfl ?_))));refine RS (ok_eqNilV U165 (by kernel_rfl) rfl (Le.old _ _)) ?_;refine RZ (.bool true) (rfl) ?_;refine RN (A.yes rfl ?_);refine GS (TF 1 (RS (ok_lit [] ([.bool false]++[.slice none 0 0]) (fun _ _=>rfl) (by kernel_rfl)) ?_));refine RN ?_;refine ZA 1000002 (size172.of rfl) hBb2 rfl rfl rfl (LV 2 rfl LN) ?_;refine TL (RN (A.ret (End.ret_then ?_)));exact End.cell1 (s:=1000002) rfl U172 rfl (size172.of (rfl)) rfl rfl (zero_cont)
theorem vNow_c(X:Nat->Prop)(c:Con)(h:List Con): Fn Tryz.prog 144 [versD dT X (c::h)] (contD dT X c):=by
 refine Fn.of Tryz.func144 rfl (by kernel_rfl) Tryz.ntmps144 (by simp) (fun w=>[(0,old w.heap.size (versD dT X (c::h)))]) (fun w=>(Start.old rfl Start.nil)) fun w₀=>?_
 refine GS (TN 0 (RN ?_));refine ZN 1000002 zero172 fun b2 ⟨hBb2,hb2⟩=>?_
 refine TL (RN (QS (GT (RM rfl ?_))));refine RS (ok_eqNilV U165 (by kernel_rfl) rfl (Le.old _ _)) ?_;refine RZ (.bool false) (rfl) ?_;refine RN (A.no rfl ?_);refine QK (GS (TF 4 (RM rfl ?_)));refine RS (ok_nilV rfl (Le.old _ _)) ?_;refine RS (ok_versContent field215_0 rfl (Le.refl _)) ?_;refine RS (ok_loadK U172 rfl size172 rfl (Le.refl _)) ?_;refine RN ?_;refine⟨_,eff_storeK (n:=10) (s:=1000002) size172 rfl rfl (Le.refl _) (Agg.cont) hBb2 rfl (rfl) (Surv.tl (Surv.conty (.inl (by decide)))) (LV 2 rfl LN),?_⟩
 refine TL (RN (A.ret ?_));exact End.varK1 (s:=1000002) rfl U172 rfl size172 rfl rfl (by first|exact Le.refl _|exact Le.old _ _)
theorem vNow_fn(X:Nat->Prop)(h:List Con): Fn Tryz.prog 144 [versD dT X h] (contD dT X (lastC h)):=by
 cases h with
 | nil=>exact vNow_n X
 | cons c h=>exact vNow_c X c h
theorem dCopied_fn(l:List UInt8)(hl:l.length<=4398046511104): FnB Tryz.prog 82 [byt l] (fun B=>fresh B 5 (l.map byteV) l.length):=by
 refine FnB.of Tryz.func82 rfl (by kernel_rfl) Tryz.ntmps82 (by simp) (fun w=>[(0,old w.heap.size (byt l))]) (fun w=>(Start.old rfl Start.nil)) fun w₀=>?_
 refine GV rfl (GT (RM rfl ?_));refine RS (ok_lenB U23 rfl (Le.old _ _)) ?_;refine RS (ok_make l.length U23 info5 (by decide) rfl rfl rfl rfl rfl hl) ?_;refine RVN 1 rfl ?_;refine A.open (t:=3) (k:=1000003) rfl fun b hb=>?_
 refine GS (TF 2 (RVN 2 rfl ?_));refine⟨_,eff_copy (n:=11) (s:=1000003) U23 info5 rfl rfl (Le.old _ _) (Nat.le_refl _) hb rfl (by simp) (by decide) (Left.cons (t:=3) rfl (Stays.v _ _) Left.nil),?_⟩
 refine TL (RN (GV rfl (A.ret ?_)));exact End.fresh (k:=1000003) rfl hb rfl (by simp) rfl (by simp)
theorem conty_byt{T:DTy}{X:Nat->Prop}{l:List UInt8}: Le (contyD T X (some l)) (byt l):=fun B w x ⟨h0,b,h1,_,h3,h4⟩=>by
 subst h1
 have:=blk_row h3 h4 l.length
 rw[List.take_of_length_le (by simp)] at this
 exact⟨_,bytes_mk (Nat.le_refl _) (by simp only[maxLen]; omega) this⟩
theorem fresh_con{l:List UInt8}(h:l.length<=256): Le (fresh B e (l.map byteV) l.length) (conD B e (some l)):=fun _ _ _ ⟨b,h1,h2,h3,h4⟩=>⟨h,b,by rw[List.length_map] at h1; exact h1,h2,h3,h4⟩
theorem cRead_n(X:Nat->Prop): FnB Tryz.prog 145 [contD dT X none] (fun B=>tup [conD B 5 none,.v (.int .i64 (errC none))]):=by
 refine FnB.of Tryz.func145 rfl (by kernel_rfl) Tryz.ntmps145 (by simp) (fun w=>[(0,old w.heap.size (contD dT X none))]) (fun w=>(Start.old rfl Start.nil)) fun w₀=>?_
 refine A.nameTl (t:=0) (k:=1000200) rfl fun y hy=>?_
 refine GS (TN 0 (RN ?_));refine ZB 1000001 rfl fun b1 ⟨hBb1,hb1⟩=>?_
 refine TL (RVN 2 rfl ?_);refine QS (GT (Rf field172_0 ?_));refine RLV 1000001 U4 rfl rfl rfl ?_;refine RS (ok_not rfl) ?_;refine RZ (.bool true) (rfl) ?_;refine RN (A.yes rfl ?_);refine GV rfl (A.ret (End.ret_then ?_));exact End.ret2 rfl rfl (fun _ _ _ h=>h) rfl (Le.refl _)
theorem cRead_s(X:Nat->Prop)(l:List UInt8): FnB Tryz.prog 145 [contD dT X (some l)] (fun B=>tup [conD B 5 (some l),.v (.int .i64 (errC (some l)))]):=by
 refine FnB.of Tryz.func145 rfl (by kernel_rfl) Tryz.ntmps145 (by simp) (fun w=>[(0,old w.heap.size (contD dT X (some l)))]) (fun w=>(Start.old rfl Start.nil)) fun w₀=>?_
 refine A.nameTl (t:=0) (k:=1000200) rfl fun y hy=>?_
 refine A.know (k:=1000200) (p:=l.length<=256) rfl (fun _ _ _ h=>h.2.1) fun hl=>?_
 refine GS (TN 0 (RN ?_));refine ZB 1000001 rfl fun b1 ⟨hBb1,hb1⟩=>?_
 refine TL (RVN 2 rfl ?_);refine QS (GT (Rf field172_0 ?_));refine RLV 1000001 U4 rfl rfl rfl ?_;refine RS (ok_not rfl) ?_;refine RZ (.bool false) (rfl) ?_;refine RN (A.no rfl ?_);refine QK (GT (Rf field172_1 ?_));refine RS ((OpOk.valO (k:=1000200) (ok_loadV (s:=1000001) (by decide) U23 rfl rfl rfl (rfl)) (by decide) rfl).le ((Le.old _ _).trans conty_byt)) ?_;refine RS (ok_callB (dCopied_fn l (by omega)) (fun B B' h=>fresh_mono B B' h) (A1 rfl)) ?_;refine RVN 2 rfl ?_;refine A.ret ?_;exact End.ret2 rfl rfl (fresh_con hl) rfl (Le.refl _)
theorem cRead_fn(X:Nat->Prop)(c:Con): FnB Tryz.prog 145 [contD dT X c] (fun B=>tup [conD B 5 c,.v (.int .i64 (errC c))]):=by
 cases c with
 | none=>exact cRead_n X
 | some l=>exact cRead_s X l
theorem con_tup_mono{c:Con}{x:Value}(B B':Nat)(h:B<=B'): Le (tup [conD B' e c,.v x]) (tup [conD B e c,.v x]):=tup_mono (conD_mono B B' h) (Le.refl _)
end
section
variable {κ:Cx}
section
variable {P:Program} {n B:Nat} {ops:Array Oper} {E:Env} {dst:Option Tmp} {ty:TypeId} {pos:String} {after:Array Edge} {guard:Option (Nat×Bool)}
theorem ok_boxF{T:TypeId}{x:Operand}(L:List Nat)(hx:E.at x=some (.v (aggV xs)))(hL:Named E L): OpOk P B ⟨dst,.box T x,ty,pos,after,guard⟩ E (freshV B L T xs):=fun ρ w hB hv hρ=>by
 have h1:ρ x=aggV xs:=hρ x (by simp[Op.operands]) _ hx
 refine out_val (x:=.pointer (some ⟨w.heap.size,0,none⟩)) (w':=w.alloc (.cells xs.toArray T)) (by simp[execOp,Instr.box,newVar,newRow,h1,aggV,Value.cells]) ⟨Grow.alloc w _,w.heap.size,rfl,hB,fun b' hb'=>?_,by simp,heap_alloc_new w _⟩
 obtain⟨s,e,ys,hs,hl⟩:=hL b' hb'
 exact(hv s _ hs hl).1
theorem eff_storeV{t:TypeId}{z:Value}{p:Operand}{d o:Nat}{T:TypeId}{L:List Nat}(hinfo:InfoIs P t z nb)(hp:E.at p=some (.v (.pointer (some ⟨b,o,none⟩))))(hx:E.look d=some (freshV B L T ys))(hne:e≠T)
  (hb:B<=b)(hblk:E.look s=some (blk b e xs))(ho:o<xs.length)(hl:LeftS B e b E' E):
  EffG P n B ops ⟨none,.store t p (.tmp d),ty,pos,after,none⟩ E (fun b'=>B<=b') (fun b'=>(s,blk b e (xs.set o (.pointer (some ⟨b',0,none⟩))))::(k,blk b' T ys)::E'):=by
 obtain⟨i,hi,_,hs,_⟩:=hinfo.get
 intro κ a w K Q h hK
 have hp':a.eval p=_:=h.at_ p _ hp
 obtain⟨b',hx',hb',_,hlt',hh'⟩:=h.of d _ hx
 have hx':a.eval (.tmp d) = .pointer (some ⟨b',0,none⟩):=hx'
 obtain⟨hlt,hh⟩:=h.of s _ hblk
 have hbb:b'≠b:=fun hbb=>hne (by subst hbb; rw[hh] at hh'; injection hh' with hh'; injection hh' with _ h2 _)
 have hcell:w.cell? ⟨b,o,none⟩=some xs[o]:=by simp[World.cell?,hh,ho]
 have hfr:w.frozen? ⟨b,o,none⟩=false:=by simp[World.frozen?,hh]
 have hadd:(⟨b,o,none⟩:Addr).add 0=⟨b,o,none⟩:=rfl
 have hset:=setCell_eq_setRow w b o xs.toArray e (0,0) (.pointer (some ⟨b',0,none⟩)) hh
 have hrun:(execOp a.eval ⟨none,.store t p (.tmp d),ty,pos,after,none⟩).run P w = .ok .skip (w.setRow b (xs.toArray.setIfInBounds o (.pointer (some ⟨b',0,none⟩)))):=by
  rw[<- hset]
  simp[execOp,hp',hx',Instr.storeAt,Instr.sureAddr,storeVar,Value.cells,sizeOf,typeInfo,hi,hs,storeCells,hadd,run_store P w ⟨b,o,none⟩ _ .plain (show(Value.pointer (some ⟨b',0,none⟩)).oneCell'=true from rfl),hcell,hfr]
 rw[if_pos (by simp[Region.wanted])]
 refine opR (by nofun) ?_
 unfold Oper.wp
 rw[hrun,Oper.upon_skip]
 have hwr:=Wrote.setRow hb hh (xs.toArray.setIfInBounds o (.pointer (some ⟨b',0,none⟩)))
 have hst:=hl.st h hwr
 refine hK b' _ _ hb' (hwr.below h.base) ⟨hst.base,hst.defers,hst.size,fun t' d hd=>?_⟩
 by_cases hts:s=t'
 ·subst hts
  rw[look_here] at hd; injection hd with hd; subst hd
  exact⟨by simpa using hlt,by rw[setRow_heap w b _ _ e _ hh]; simp⟩
 ·rw[look_past _ _ hts] at hd
  by_cases hks:k=t'
  ·subst hks
   rw[look_here] at hd; injection hd with hd; subst hd
   exact⟨by simpa using hlt',(setRow_other w b b' _ hbb).trans hh'⟩
  ·rw[look_past _ _ hks] at hd
   exact hst.of t' d hd
theorem eff_copyR{t:TypeId}{z:Value}{r x:Operand}{b₀ dc sc dst:Nat}{e' e₀:TypeId}{us:List Value}(ht:P.underlying t=some (.slice e))(hinfo:InfoIs P e z nb)
  (hr:E.at r=some (.v (.slice (some ⟨b,0,none⟩) m dc)))(hx:E.at x=some (.v (.slice (some ⟨b₀,0,none⟩) m sc)))(hk:E.look k=some (blk b₀ e₀ us))(h1:us.all (·.oneCell')=true)(hn:us.length=m)(hb:B<=b)(hblk:E.look s=some (blk b e' xs))(hfit:xs.length=m)(hdst:dst<n)(hl:LeftS B e' b E' E):
  Eff P n B ops ⟨some dst,.call { callee:=.builtin .copy,args:=#[r,x],argTypes:=#[t,t] },ty,pos,after,none⟩ E ((dst,.v (.int .i64 (m:Int)))::(s,blk b e' us)::E'):=by
 obtain⟨i,hi,_,hs,_⟩:=hinfo.get
 intro κ a w K Q h hK
 have hre:a.eval r=_:=h.at_ r _ hr
 have hxe:a.eval x=_:=h.at_ x _ hx
 obtain⟨hlt0,hh0⟩:=h.of k _ hk
 obtain⟨hlt,hh⟩:=h.of s _ hblk
 have hsz:(P.info? e).map (·.size)=some 1:=by rw[hi]; simp[hs]
 have hmin:Nat.min m m=m:=Nat.min_self _
 have hrow:RowIn w.heap.size w (some ⟨b₀,0,none⟩) us:=by
  have:=blk_row hlt0 hh0 us.length
  rwa [List.take_length] at this
 have hr:=run_copy_row (P:=P) w t t ty e b 0 m dc ⟨b₀,0,none⟩ m sc xs.toArray e' us ht hsz hh (by rw[hmin,hn]) hrow.cell (by simp; omega) (fun v hv=>List.all_eq_true.1 h1 v hv)
 have hr:(Builtin.copy_ #[t,t] ty #[.slice (some ⟨b,0,none⟩) m dc,.slice (some ⟨b₀,0,none⟩) m sc]).run P w = .ok (.int .i64 (m:Int)) (w.setRow b us.toArray):=by
  have h2:xs.drop m=[]:=by rw[List.drop_of_length_le (by omega)]
  simpa [goInt,hmin,hn,h2] using hr
 have hexec:(execOp a.eval ⟨some dst,.call { callee:=.builtin .copy,args:=#[r,x],argTypes:=#[t,t] },ty,pos,after,none⟩).run P w = .ok (.value (.int .i64 (m:Int))) (w.setRow b us.toArray):=by
  simp[execOp,resolve,invoke,builtin,hre,hxe,hr]
 rw[if_pos (by simp[Region.wanted])]
 refine opR (by nofun) ?_
 unfold Oper.wp
 rw[hexec,Oper.upon_value]
 have hwr:=Wrote.setRow hb hh us.toArray
 exact hK _ _ (hwr.below h.base) (St.put ((hl.st h hwr).push (d:=blk b e' us) ⟨by simpa using hlt,setRow_heap w b _ _ e' _ hh⟩) hdst rfl)
end
theorem BlkX.of_new{X:Nat->Prop}{B₀:Nat}{cs:List Value}(hX:∀ b,X b->b<B₀)(hb:B₀<=b)(hlt:b<B)(hh:w.heap[b]?=some (.cells cs.toArray e (0,0))): BlkX X B w b e cs:=⟨fun hx=>by have:=hX b hx; omega,hlt,hh⟩
section
variable {P:Program} {n:Nat} {w₀:World} {E:Env}
theorem End.changed{r kr kp k1 k2 ky kz k8 k9 kV b6 bk b8 b9 bV:Nat}{T:DTy}{X:Nat->Prop}{S:Dk}{c:Con}{tD:TypeId}{ps cs:List Value}{y z:Value}(hr:fn.results=#[.cell r tD])(ht:P.underlying tD=some td)(hp:(match td with | .struct _ | .array _ _=>true|_=>false)=true)(hsz:SizeIs P tD 3)
  (h1:E.look r=some (.v (.pointer (some ⟨b6,0,none⟩))))(h2:E.look kr=some (blk b6 tD [nI S.length,nI (totC S+1),.slice (some ⟨b8,0,none⟩) m m]))(hm:m=ps.length)
  (hP:E.look kp=some (old w₀.heap.size (valM (.slice (some ⟨b,0,none⟩) ps.length ps.length) (partsD' T X S))))(hb:E.look k1=some (blk b T.r ps))(hi:i<S.length)(hps:ps[i / 64]?=some (.pointer (some ⟨bk,0,none⟩)))(hbk:E.look k2=some (blk bk T.p cs))
  (hlb:b<w₀.heap.size)(hlk:bk<w₀.heap.size)(h8:E.look k8=some (blk b8 T.r (ps.set (i / 64) (.pointer (some ⟨b9,0,none⟩)))))(h9:E.look k9=some (blk b9 T.p (cs.set (i%64) (.pointer (some ⟨bV,0,none⟩)))))
  (hV:E.look kV=some (blk bV T.v [.bool c.isSome,y,nI ((hisC S i).length+1),z]))(hy:E.look ky=some (old w₀.heap.size (valM y (contyD T X c))))(hz:E.look kz=some (valM z (versD T X (hisC S i))))(g8:w₀.heap.size<=b8)(g9:w₀.heap.size<=b9)(gV:w₀.heap.size<=bV):
  End Cx.top w₀ n E (BP P fn (PostOf w₀ (diskD T X (putC S i c))) .ret):=fun a w g hs=>by
 subst hm
 have h3:a.tmps[r]?.getD undef = .pointer (some ⟨b6,0,none⟩):=by rw[<- Array.getD_eq_getD_getElem?]; exact hs.of r _ h1
 obtain⟨_,hh⟩:=hs.of kr _ h2
 obtain⟨hB,hX,hPA⟩:=hs.of kp _ hP
 have kb:=hs.of k1 _ hb
 have kbk:=hs.of k2 _ hbk
 have k8':=hs.of k8 _ h8
 have k9':=hs.of k9 _ h9
 have kV':=hs.of kV _ hV
 have ky':=hs.of ky _ hy
 have kz':=hs.of kz _ hz
 have hc:ContAt T X w.heap.size w y c:=ContAt.carry (Q:=fun _=>True) ky'.2 (Carry.up hB) trivial
 have hx:VersAt T X w.heap.size w (.pointer (some ⟨bV,0,none⟩)) (c::hisC S i):=⟨bV,y,z,rfl,BlkX.of_new hX gV kV'.1 kV'.2,hc,kz'⟩
 have hPS:=hPA.set hB kb.2 hi hps kbk.2 (BlkX.of_new hX g8 k8'.1 k8'.2) (BlkX.of_new hX g9 k9'.1 k9'.2) hx
 refine BP.ret hs.defers ⟨aggV [nI S.length,nI (totC S+1),.slice (some ⟨b8,0,none⟩) ps.length ps.length],by simp[results,hr,h3,asAddr,load_cell (xs:=[nI S.length,nI (totC S+1),.slice (some ⟨b8,0,none⟩) ps.length ps.length]) ht hp hsz hh],_,rfl,g,.slice (some ⟨b8,0,none⟩) ps.length ps.length,rfl,?_,fun b hb=>Nat.lt_of_lt_of_le (hX b hb) hB,hPS⟩
 rw[putC_length,totC_put c hi]; rfl
end
def nilsM (T:TypeId) (m:Nat) (bs:List Nat):D :=
 .p (fun B w _=>∀ b∈bs,b<B∧w.heap[b]?=some (.cells (List.replicate m (.pointer none)).toArray T (0,0))) (fun _ _ _ _ g h b hb=>⟨(h b hb).1,(g.block b (h b hb).1).trans (h b hb).2⟩) (fun _ _ _ _ g h b hb=>⟨Nat.lt_of_lt_of_le (h b hb).1 g,(h b hb).2⟩)
theorem Surv.nils{e:Nat}{T:TypeId}{bs:List Nat}(h:T≠e): Surv B e g (nilsM T m bs):=fun w w' x k hx b hb=>by
 obtain⟨h1,h2⟩:=hx b hb
 refine⟨Nat.lt_of_lt_of_le h1 k.size,?_⟩
 rw[k.other b h1 fun hbg=>?_]
 ·exact h2
 ·subst hbg; exact h (k.row _ _ _ h2)
def ptrs (bs:List Nat):List Value:=bs.map fun b=>.pointer (some ⟨b,0,none⟩)
theorem ptrs_len(bs:List Nat): (ptrs bs).length=bs.length:=by simp[ptrs]
theorem ptrs_set{bs:List Nat}(h:bs.length<m): (ptrs bs++List.replicate (m-bs.length) (Value.pointer none)).set bs.length (.pointer (some ⟨b,0,none⟩))=ptrs (bs++[b])++List.replicate (m-(bs++[b]).length) (Value.pointer none):=by
 rw[List.set_append_right _ _ (by rw[ptrs_len]; exact Nat.le_refl _),ptrs_len,Nat.sub_self,show m-bs.length=(m-(bs++[b]).length)+1 from by simp; omega,List.replicate_succ,List.set_cons_zero]
 simp[ptrs]
section
variable {P:Program} {n:Nat} {w₀:World} {E:Env} {c:Code} {Q:Exit->Act->World->Prop}
theorem End.addNil{R:Act->World->Prop}{kb:Nat}{T:TypeId}{bs:List Nat}(hk:E.look k=some (nilsM T m bs))(hb:E.look kb=some (blk b T (List.replicate m (.pointer none))))(h:End κ w₀ n ((k,nilsM T m (bs++[b]))::E) R): End κ w₀ n E R:=fun a w g hs=>by
 have h1:=hs.of k _ hk
 have h2:=hs.of kb _ hb
 exact h a w g (hs.push (t:=k) (d:=nilsM T m (bs++[b])) fun x hx=>by
  rcases List.mem_append.1 hx with hx|hx
  ·exact h1 x hx
  ·rw[List.mem_singleton.1 hx]; exact h2)
theorem A.noNil(T:TypeId)(h:A κ P w₀ n c ((k,nilsM T m [])::E) Q): A κ P w₀ n c E Q:=fun a w g hs=>h a w g (hs.push (t:=k) (d:=nilsM T m []) fun x hx=>by cases hx)
theorem End.newDk{r r' kr k1 b2:Nat}{T:DTy}{bs:List Nat}{tD:TypeId}{z:Value}(hr:fn.results=#[.cell r tD,.tmp r'])(ht:P.underlying tD=some td)(hp:(match td with | .struct _ | .array _ _=>true|_=>false)=true)(hsz:SizeIs P tD 3)
  (h1:E.look r=some (.v (.pointer (some ⟨b2,0,none⟩))))(h2:E.look kr=some (blk b2 tD [nI m,nI 0,.slice (some ⟨b,0,none⟩) bs.length bs.length]))(h5:E.look r'=some (.v z))(hb:E.look k1=some (blk b T.r xs))(hxs:xs=ptrs bs)(hk:E.look k=some (nilsM T.p 64 bs))(hm:bs.length=(m+63) / 64):
  End Cx.top w₀ n E (BP P fn (PostOf w₀ (tup [diskD T X0 (List.replicate m []),.v z])) .ret):=fun a w g hs=>by
 subst hxs
 have h3:a.tmps[r]?.getD undef = .pointer (some ⟨b2,0,none⟩):=by rw[<- Array.getD_eq_getD_getElem?]; exact hs.of r _ h1
 have h6:a.tmps[r']?.getD undef=z:=by rw[<- Array.getD_eq_getD_getElem?]; exact hs.of r' _ h5
 obtain⟨_,hh⟩:=hs.of kr _ h2
 have kb:=hs.of k1 _ hb
 have kn:=hs.of k _ hk
 refine BP.ret hs.defers ⟨.tuple #[aggV [nI m,nI 0,.slice (some ⟨b,0,none⟩) bs.length bs.length],z],by simp[results,hr,h3,h6,asAddr,load_cell (xs:=[nI m,nI 0,.slice (some ⟨b,0,none⟩) bs.length bs.length]) ht hp hsz hh],_,rfl,g,_,rfl,rfl,fun j d u hd hu=>?_⟩
 match j,hd,hu with
 | 0,hd,hu =>
  simp only[List.getElem?_cons_zero,Option.some.injEq] at hd hu; subst hd; subst hu
  refine⟨.slice (some ⟨b,0,none⟩) bs.length bs.length,rfl,by rw[totC_rep,List.length_replicate]; rfl,fun b h=>h.elim,.inr ⟨b,ptrs bs,by rw[ptrs_len],by rw[ptrs_len,hm,List.length_replicate],⟨fun h=>h,kb.1,kb.2⟩,fun k u hu=>?_⟩⟩
  simp only[ptrs,List.getElem?_map] at hu
  cases hbk:bs[k]? with
  | none=>rw[hbk] at hu; cases hu
  | some bk =>
   rw[hbk] at hu; injection hu with hu; subst hu
   obtain⟨l1,l2⟩:=kn bk (List.mem_of_getElem? hbk)
   refine⟨bk,_,rfl,by simp,⟨fun h=>h,l1,l2⟩,fun j u hu=>?_⟩
   show VersAt T X0 w.heap.size w u (hisC (List.replicate m []) (64*k+j))
   rw[his_rep]
   rw[List.getElem?_replicate] at hu
   split at hu
   ·injection hu with hu; exact hu.symm
   ·cases hu
 | 1,hd,hu=>simp at hd hu; subst hd; subst hu; rfl
 | j+2,hd,_=>simp at hd
end
end
section
theorem buildDk(n c:Int)(v:Value)(hv:v.oneCell'=true): Tryz.prog.built 44 [(0,.int .i64 n),(1,.int .i64 c),(2,v)]=some ([.int .i64 n,.int .i64 c,v]:List Value).toArray:=by
 cases v<;>first|(exact Bool.noConfusion (show false=true from hv))|kernel_rfl
theorem buildDk0(n:Int)(v:Value)(hv:v.oneCell'=true): Tryz.prog.built 44 [(0,.int .i64 n),(2,v)]=some ([.int .i64 n,.int .i64 0,v]:List Value).toArray:=by
 cases v<;>first|(exact Bool.noConfusion (show false=true from hv))|kernel_rfl
theorem buildVs(a:Bool)(y z:Value)(n:Int)(hy:y.oneCell'=true)(hz:z.oneCell'=true): Tryz.prog.built 215 [(0,aggV [.bool a,y]),(1,.int .i64 n),(2,z)]=some ([.bool a,y,.int .i64 n,z]:List Value).toArray:=by
 cases y<;>first|(exact Bool.noConfusion (show false=true from hy))|(cases z<;>first|(exact Bool.noConfusion (show false=true from hz))|kernel_rfl)
theorem buildCs(b:Nat)(n m:Nat): Tryz.prog.built 172 [(0,.bool true),(1,.slice (some ⟨b,0,none⟩) n m)]=some ([.bool true,.slice (some ⟨b,0,none⟩) n m]:List Value).toArray:=by kernel_rfl
set_option maxHeartbeats 2000000 in
theorem dChange_fn(X:Nat->Prop)(S:Dk)(i:Nat)(hi:i<S.length)(hn:S.length<=10922)(c:Con)(ht:totC S<=1000000): Fn Tryz.prog 81 [diskD dT X S,.v (nI (i)),contD dT X c] (diskD dT X (putC S i c)):=by
 refine Fn.of Tryz.func81 rfl (by kernel_rfl) Tryz.ntmps81 (by simp) (fun w=>[(0,old w.heap.size (diskD dT X S)),(1,.v (nI (i))),(2,old w.heap.size (contD dT X c))]) (fun w=>(Start.old rfl (Start.v rfl (Start.old rfl Start.nil)))) fun w₀=>?_
 refine A.openDk (t:=0) (k:=1000200) (k1:=1000201) (k2:=1000202) (k3:=1000203) rfl hi fun b ps bk cs v hb hbk hps hpk hcs hcv hv1 hpo hco=>?_
 refine A.nameTl (t:=2) (k:=1000204) rfl fun y hy1=>?_
 have hle:=his_le S i
 have hpl:i / 64<ps.length:=by omega
 refine GS (TN 0 (RN ?_));refine ZB 1000003 rfl fun b3 ⟨hBb3,hb3⟩=>?_
 refine TN 1 (RN ?_);refine ZB 1000005 rfl fun b5 ⟨hBb5,hb5⟩=>?_
 refine TN 2 (RN ?_);refine ZN 1000006 zero44 fun b6 ⟨hBb6,hb6⟩=>?_
 have hlt_b3_b6:=hb6 1000003 b3 _ _ rfl
 refine TL (RN (GT (RS (OpOk.tlO (k:=1000200) [nI S.length,nI (totC S)] (ok_loadA (s:=1000003) (by decide) U44 rfl (size44.of (rfl)) rfl rfl) rfl rfl (by decide) rfl) ?_)));refine RM rfl ?_;refine RS (ok_call (dNewest_fn X S i hi hn) (Args.cons rfl (Le.old _ _) (Args.cons rfl LA Args.nil))) ?_;refine RVN 1 rfl ?_;refine A.nameP (t:=7) (k:=1000207) rfl (fun w x h=>VersAt.one h) fun z hz1=>?_
 refine GS (TN 3 (Rf field44_2 ?_));refine RLV 1000003 U42 rfl rfl rfl ?_;refine RS (ok_lenV U42 rfl) ?_;refine RN ?_;refine⟨_,_,eff_nameF (c:=ps.length) (by simp) (n:=49) (d:=16) (k:=1000016) rfl rfl (fun B'=>ok_make ps.length U42 info164 (by decide) rfl rfl rfl rfl rfl (by omega)) (by decide) (by decide),fun b16 hb16=>?_⟩
 have hBb16:=hb16.1
 have hlt_b3_b16:b3<b16:=hb16.2 1000003 _ _ _ rfl
 have hlt_b5_b16:b5<b16:=hb16.2 1000005 _ _ _ rfl
 have hlt_b6_b16:b6<b16:=hb16.2 1000006 _ _ _ rfl
 have hlt_b_b16:b<b16:=hb16.2 1000201 _ _ _ rfl
 have hlt_bk_b16:bk<b16:=hb16.2 1000202 _ _ _ rfl
 refine TL (RVN 1 rfl ?_);refine GS (TF 3 (RM rfl ?_));refine Rf field44_2 ?_;refine RLV 1000003 U42 rfl rfl rfl ?_;refine RN ?_;refine⟨_,eff_copyR (n:=49) (s:=1000016) (k:=1000201) U42 info164 rfl rfl rfl hpo rfl hBb16 rfl (by simp) (by decide) (LT 1000003 rfl (LT 1000005 rfl (LT 1000006 rfl (LO 1000200 rfl (LB 1000201 rfl (LT 1000202 rfl (LO 1000203 rfl (LO 1000204 rfl (LeftS.cons (t:=1000207) rfl (Surv.valM (Surv.vers (.inl (by decide)))) (LW [1,3,5,6,7,8] rfl)))))))))),?_⟩
 refine TL (RN (GS (TN 7 (RV 2 rfl ?_))));refine RS (ok_div rfl rfl (by decide)) ?_;refine RZ (nI ((i) / 64)) (by rw[tdiv_lit _ (by decide)]; exact wrap_eq rfl (by first|omega|(simp only[Int.toNat]; omega))) ?_;refine RS (ok_indexV (i / 64) U42 info164 rfl rfl rfl hpl) ?_;refine RZ (.pointer (some ⟨b16,i / 64,none⟩)) (by rw[Nat.zero_add]) ?_;refine RS (ok_loadV (s:=1000016) (by decide) U164 rfl rfl rfl (hpk)) ?_;refine RS (ok_nilCheck rfl) ?_;refine RL 1000202 U167 rfl rfl (size167.of (hcs)) ?_;refine RN ?_;refine ZN 1000009 zero167 fun b9 ⟨hBb9,hb9⟩=>?_
 have hlt_bk_b9:=hb9 1000202 bk _ _ rfl
 refine TF 8 (RN ?_);refine⟨_,eff_storeA (n:=49) (s:=1000009) (size167.of (hcs)) rfl rfl (hco) hBb9 rfl (by simp[hcs]) (LT 1000003 rfl (LT 1000005 rfl (LT 1000006 rfl (LT 1000016 rfl (LO 1000200 rfl (LT 1000201 rfl (LB 1000202 rfl (LO 1000203 rfl (LO 1000204 rfl (LeftS.cons (t:=1000207) rfl (Surv.valM (Surv.vers (.inl (by decide)))) (LW [1,3,5,6,7,8,9] rfl))))))))))),?_⟩
 refine TL (RN (A.sub (Sv [1,3,5,6,7,8,9,1000003,1000005,1000006,1000009,1000016,1000200,1000201,1000202,1000203,1000204,1000207] rfl) ?_));refine GD (RunTK.new 10 (by decide) rfl (.inr (by kernel_rfl)) ?_);refine RM rfl ?_;refine RS (ok_rem rfl rfl (by decide)) ?_;refine RZ (nI ((i)%64)) (by rw[tmod_lit _ (by decide)]; rfl) ?_;refine RL 1000005 U172 rfl rfl (size172.of rfl) ?_;refine RS (OpOk.valP (k:=1000207) (ok_move rfl) (by decide) rfl) ?_;refine RS (ok_call (vChanges_fn X (hisC S i)) (A1 rfl)) ?_;refine RB rfl rfl rfl ?_;refine RZ (nI ((hisC S i).length+1)) (wrap_eq (by omega) (by omega)) ?_;refine RM rfl ?_;refine RS (ok_litS [(0,aggV [.bool c.isSome,y]),(1,nI ((hisC S i).length+1)),(2,z)] ([.bool c.isSome,y,nI ((hisC S i).length+1),z]) ⟨rfl,rfl,rfl,rfl,rfl,rfl,trivial⟩ (buildVs _ _ _ _ hy1 hz1)) ?_;refine RS (ok_boxF [b3,b5,b6,b9,b16,b,bk] rfl (Named.cons (s:=1000003) (by decide) rfl (Named.cons (s:=1000005) (by decide) rfl (Named.cons (s:=1000006) (by decide) rfl (Named.cons (s:=1000009) (by decide) rfl (Named.cons (s:=1000016) (by decide) rfl (Named.cons (s:=1000201) (by decide) rfl (Named.cons (s:=1000202) (by decide) rfl Named.nil)))))))) ?_;refine RS (ok_index0 (i%64) U167 info165 rfl rfl (rfl) (Nat.mod_lt _ (by decide))) ?_;refine RN ?_;refine⟨_,_,eff_storeV (n:=49) (s:=1000009) (k:=1000036) info165 rfl rfl (by decide) hBb9 rfl (by rw[hcs]; exact Nat.mod_lt _ (by decide)) (LT 1000003 rfl (LT 1000005 rfl (LT 1000006 rfl (LT 1000016 rfl (LO 1000200 rfl (LT 1000201 rfl (LB 1000202 rfl (LO 1000203 rfl (LO 1000204 rfl (LeftS.cons (t:=1000207) rfl (Surv.valM (Surv.vers (.inl (by decide)))) (LW [1,3,6,8,9] rfl))))))))))),fun bV hBbV=>?_⟩
 refine TL (RN (GS (TF 4 (RV 2 rfl ?_))));refine RS (ok_div rfl rfl (by decide)) ?_;refine RZ (nI ((i) / 64)) (by rw[tdiv_lit _ (by decide)]; exact wrap_eq rfl (by first|omega|(simp only[Int.toNat]; omega))) ?_;refine RS (ok_indexV (i / 64) U42 info164 rfl rfl rfl hpl) ?_;refine RZ (.pointer (some ⟨b16,i / 64,none⟩)) (by rw[Nat.zero_add]) ?_;refine RN ?_;refine⟨_,eff_storeS (n:=49) (s:=1000016) info164 rfl rfl rfl hBb16 rfl (hpl) (LT 1000003 rfl (LT 1000005 rfl (LT 1000006 rfl (LT 1000009 rfl (LT 1000036 rfl (LO 1000200 rfl (LB 1000201 rfl (LT 1000202 rfl (LO 1000203 rfl (LO 1000204 rfl (LeftS.cons (t:=1000207) rfl (Surv.valM (Surv.vers (.inl (by decide)))) (LW [3,6,8] rfl)))))))))))),?_⟩
 refine TL (RN (GS (TF 7 (Rf field44_0 ?_))));refine RLV 1000003 U3 rfl rfl rfl ?_;refine Rf field44_1 ?_;refine RLV 1000003 U3 rfl rfl rfl ?_;refine RB rfl rfl rfl ?_;refine Rw (totC S+1) ?_;refine RM rfl ?_;refine RS (ok_litS [(0,nI S.length),(1,nI (totC S+1)),(2,.slice (some ⟨b16,0,none⟩) ps.length ps.length)] ([nI S.length,nI (totC S+1),.slice (some ⟨b16,0,none⟩) ps.length ps.length]) ⟨rfl,rfl,rfl,rfl,rfl,rfl,trivial⟩ (buildDk _ _ _ rfl)) ?_;refine RN ?_;refine ZA 1000006 (size44.of rfl) hBb6 rfl rfl rfl (LV 6 rfl (LB 1000003 rfl (LT 1000005 rfl (LT 1000009 rfl (LT 1000016 rfl (LT 1000036 rfl (LO 1000200 rfl (LT 1000201 rfl (LT 1000202 rfl (LO 1000203 rfl (LO 1000204 rfl (LeftS.cons (t:=1000207) rfl (Surv.valM (Surv.vers (.inl (by decide)))) LN)))))))))))) ?_;refine TL (RN (A.ret ?_));exact End.changed (kr:=1000006) (kp:=1000200) (k1:=1000201) (k2:=1000202) (ky:=1000204) (kz:=1000207) (k8:=1000016) (k9:=1000009) (kV:=1000036) rfl U44 rfl size44 rfl rfl rfl rfl rfl hi hpk rfl hb hbk rfl rfl rfl rfl rfl hBb16 hBb9 hBbV
set_option maxHeartbeats 1000000 in
theorem dNew_ok(m:Nat)(h1:1<=m)(h2:m<=10922): Fn Tryz.prog 33 [.v (nI (m))] (tup [diskD dT X0 (List.replicate m []),.v (.int .i64 0)]):=by
 obtain⟨np,hnp⟩:∃ np,np=(m+63) / 64:=⟨_,rfl⟩
 refine FV Tryz.func33 rfl Tryz.ntmps33 rfl fun w₀=>?_
 refine GS (TN 0 (RN ?_));refine ZN 1000002 zero44 fun b2 ⟨hBb2,hb2⟩=>?_
 refine TL (RVN 1 rfl ?_);refine QS (GT (RV 2 rfl ?_));refine RZ (.bool false) (congrArg Value.bool (by simp; omega)) ?_;refine RV 3 rfl ?_;refine RZ (.bool false) (congrArg Value.bool (by simp; omega)) ?_;refine RVN 1 rfl ?_;refine A.no rfl ?_;refine QK (GS (TN 4 (RV 2 rfl ?_)));refine Rw (m+64) ?_;refine RB rfl rfl rfl ?_;refine Rw (m+63) ?_;refine RS (ok_div rfl rfl (by decide)) ?_;refine RZ (nI (np)) (by rw[hnp,tdiv_lit _ (by decide)]; exact wrap_eq rfl (by first|omega|(simp only[Int.toNat]; omega))) ?_;refine RN ?_;refine⟨_,_,eff_nameF (c:=np) (by simp) (n:=31) (d:=17) (k:=1000017) rfl rfl (fun B'=>ok_make np U42 info164 (by decide) rfl rfl rfl rfl rfl (by omega)) (by decide) (by decide),fun b17 hb17=>?_⟩
 have hBb17:=hb17.1
 have hlt_b2_b17:b2<b17:=hb17.2 1000002 _ _ _ rfl
 refine TL (RVN 1 rfl ?_);refine QS (GT (RM rfl ?_));refine RS (ok_lenV U42 rfl) ?_;refine RVN 1 rfl ?_;refine A.noNil (k:=1000300) (m:=64) 167 ?_;refine A.block ?_;refine A.loop (ι:=List Nat) (fun bs=>bs.length<=np) (fun bs=>[(0,.v (nI (m))),(2,.v (ptr b2)),(4,.v (.slice (some ⟨b17,0,none⟩) np np)),(19,.v (nI (np))),(20,.v (nI (bs.length))),(1000002,blk b2 44 [nI 0,nI 0,.slice none 0 0]),(1000017,blk b17 164 (ptrs bs++List.replicate (np-bs.length) (Value.pointer none))),(1000300,nilsM 167 64 bs)]) (fun bs=>np-bs.length) [] ?_ ?_ ?_
 ·exact Nat.zero_le _
 ·exact(KC 0 rfl (KC 2 rfl (KC 4 rfl (KC 19 rfl (KE 20 rfl (by rfl) (KC 1000002 rfl (KE 1000017 rfl (by simp[ptrs]) (KC 1000300 rfl KN))))))))
 intro bs hG
 refine GV rfl (QS ?_);refine A.cond rfl (fun hc21=>?_) (fun hc21=>?_)
 ·have hi:bs.length<np:=by simp at hc21; omega
  refine QK (QSB (GV rfl (GE (TN 2 (RVN 2 rfl ?_)))));refine ZN 1000025 zero167 fun b25 ⟨hBb25,hb25⟩=>?_
  refine TF 4 (RS (ok_indexV bs.length U42 info164 rfl rfl rfl hi) ?_);refine RZ (.pointer (some ⟨b17,bs.length,none⟩)) (by rw[Nat.zero_add]) ?_;refine RN ?_;refine⟨_,eff_storeS (n:=31) (s:=1000017) info164 rfl rfl rfl hBb17 rfl (by rw[List.length_append,ptrs_len,List.length_replicate]; omega) (LT 1000002 rfl (LT 1000025 rfl (LeftS.cons (t:=1000300) rfl (Surv.nils (by decide)) (LW [0,2,4,19,20] rfl)))),?_⟩
  refine TL (RN (End.sub (KC 0 rfl (KC 2 rfl (KC 4 rfl (KC 19 rfl (KC 20 rfl (KC 1000002 rfl (KE 1000017 rfl (show _=blk b17 164 (ptrs (bs++[b25])++List.replicate (np-(bs++[b25]).length) (Value.pointer none)) from congrArg _ (ptrs_set hi)) (KC 1000025 rfl (KC 1000300 rfl KN))))))))) ?_));refine End.addNil (k:=1000300) (kb:=1000025) rfl rfl ?_;refine End.normal_block (EN (GTE (RB rfl rfl rfl ?_)));refine Rw (bs.length+1) ?_;refine RVN 1 rfl ?_;refine End.normal_then ?_;refine End.again (bs++[b25]) ?_ ?_ ?_
  ·show(bs++[b25]).length<=np; simp; omega
  ·show np-(bs++[b25]).length<np-bs.length; simp; omega
  ·exact(KC 0 rfl (KC 2 rfl (KC 4 rfl (KC 19 rfl (KE 20 rfl (by simp) (KC 1000002 rfl (KC 1000017 rfl (KC 1000300 rfl KN))))))))
 ·have hi2:bs.length=np:=by simp at hc21; omega
  refine A.exit (End.exit_then (End.exit_then (End.exit_here (EN (GS (TF 3 (RV 2 rfl ?_)))))));refine RS (ok_litS [(0,nI m),(2,.slice (some ⟨b17,0,none⟩) np np)] ([nI m,nI 0,.slice (some ⟨b17,0,none⟩) np np]) ⟨rfl,rfl,rfl,rfl,trivial⟩ (buildDk0 _ _ rfl)) ?_;refine RN ?_;refine ZA 1000002 (size44.of rfl) hBb2 rfl rfl rfl (LV 2 rfl (LT 1000017 rfl (LeftS.cons (t:=1000300) rfl (Surv.nils (by decide)) LN))) ?_;refine TL (RVN 1 rfl ?_);refine A.ret ?_
  subst hi2
  exact End.newDk (kr:=1000002) (k:=1000300) (k1:=1000017) rfl U44 rfl size44 rfl rfl rfl rfl (by simp) rfl hnp
end
section
section
variable {P:Program} {B:Nat} {E:Env} {dst:Option Tmp} {ty:TypeId} {pos:String} {after:Array Edge} {guard:Option (Nat×Bool)}
theorem ok_buildCont{t:Nat}{ps:Array (Nat×Operand)}{x:Operand}{T:DTy}{X:Nat->Prop}{S:Dk}{v:Value}{l:List UInt8}(hps:ps.toList=[(0,.const (.bool true)),(1,x)])(hx:E.at x=some (fresh B T.b (l.map byteV) l.length))(hkv:vbase<=k)(hk:E.look k=some (old B (valM v (partsD' T X S))))(hl:l.length<=256)
  (hb:∀ b n m,P.built t [(0,.bool true),(1,.slice (some ⟨b,0,none⟩) n m)]=some ([.bool true,.slice (some ⟨b,0,none⟩) n m]:List Value).toArray): OpOk P B ⟨dst,.build t ps,ty,pos,after,guard⟩ E (contD T X (some l)):=fun ρ w hB hv hρ=>by
 obtain⟨b,h1,h2,h3,h4⟩:=hρ x (by simp[Op.operands,hps]) _ hx
 have h0:ρ (.const (.bool true)) = .bool true:=hρ (.const (.bool true)) (by simp[Op.operands,hps]) _ rfl
 obtain⟨_,hX,_⟩:=hv k _ hkv hk
 rw[List.length_map] at h1
 have h5:(ps.map fun(i,x)=>(i,ρ x)).toList=[(0,.bool true),(1,.slice (some ⟨b,0,none⟩) l.length l.length)]:=by simp[hps,h0,h1]
 have:=run_build (P:=P) w t (ps.map fun(i,x)=>(i,ρ x)) _ (by rw[h5]; exact hb b l.length l.length)
 exact out_val (x:=aggV [.bool true,.slice (some ⟨b,0,none⟩) l.length l.length]) (w':=w) (by simp[execOp,this,aggV]) ⟨Grow.refl w,_,rfl,rfl,hl,b,rfl,BlkX.of_new hX h2 h3 h4⟩
end
theorem dRead_fn(X:Nat->Prop)(S:Dk)(i:Nat)(hi:i<S.length)(hn:S.length<=10922): FnB Tryz.prog 113 [diskD dT X S,.v (nI (i))] (fun B=>tup [conD B 5 (lastC (hisC S i)),.v (.int .i64 (errC (lastC (hisC S i))))]):=by
 refine FnB.of Tryz.func113 rfl (by kernel_rfl) Tryz.ntmps113 (by simp) (fun w=>[(0,old w.heap.size (diskD dT X S)),(1,.v (nI (i)))]) (fun w=>(Start.old rfl (Start.v rfl Start.nil))) fun w₀=>?_
 refine A.nameTl (t:=0) (k:=1000200) rfl fun v hv1=>?_
 refine GS (TN 0 (RN ?_));refine ZB 1000002 rfl fun b2 ⟨hBb2,hb2⟩=>?_
 refine TL (RVN 2 rfl ?_);refine QS (GT (RS (OpOk.tlO (k:=1000200) [nI S.length,nI (totC S)] (ok_loadA (s:=1000002) (by decide) U44 rfl (size44.of (rfl)) rfl rfl) rfl hv1 (by decide) rfl) ?_));refine RM rfl ?_;refine RS (ok_call (dHas_fn S.length (i:Int)) (Args.cons rfl ((Le.old _ _).trans disk_sz) (Args.cons rfl LA Args.nil))) ?_;refine RZ (.bool true) (congrArg Value.bool (decide_eq_true ⟨by omega,by omega⟩)) ?_;refine RS (ok_not rfl) ?_;refine RZ (.bool false) (rfl) ?_;refine RN (A.no rfl ?_);refine QK (GT (RS (OpOk.tlO (k:=1000200) [nI S.length,nI (totC S)] (ok_loadA (s:=1000002) (by decide) U44 rfl (size44.of (rfl)) rfl rfl) rfl hv1 (by decide) rfl) ?_));refine RM rfl ?_;refine RS (ok_call (dNewest_fn X S i hi hn) (Args.cons rfl (Le.old _ _) (Args.cons rfl LA Args.nil))) ?_;refine RS (ok_call (vNow_fn X (hisC S i)) (A1 rfl)) ?_;refine RS (ok_callB (cRead_fn X (lastC (hisC S i))) con_tup_mono (A1 rfl)) ?_;refine RS (ok_extract rfl rfl) ?_;refine RS (ok_extract rfl rfl) ?_;refine RVN 2 rfl ?_;refine A.ret ?_;exact End.ret2 rfl rfl (by first|exact Le.refl _|exact Le.old _ _) rfl (by first|exact Le.refl _|exact Le.old _ _)
theorem dWrite_fn(X:Nat->Prop)(S:Dk)(i:Nat)(hi:i<S.length)(hn:S.length<=10922)(l:List UInt8)(hl:l.length<=256)(ht:totC S<=1000000): Fn Tryz.prog 36 [diskD dT X S,.v (nI (i)),byt l] (tup [diskD dT X (putC S i (some l)),.v (.int .i64 0)]):=by
 refine Fn.of Tryz.func36 rfl (by kernel_rfl) Tryz.ntmps36 (by simp) (fun w=>[(0,old w.heap.size (diskD dT X S)),(1,.v (nI (i))),(2,old w.heap.size (byt l))]) (fun w=>(Start.old rfl (Start.v rfl (Start.old rfl Start.nil)))) fun w₀=>?_
 refine A.nameTl (t:=0) (k:=1000200) rfl fun v hv1=>?_
 refine GS (TN 0 (RN ?_));refine ZB 1000003 rfl fun b3 ⟨hBb3,hb3⟩=>?_
 refine TN 1 (RN ?_);refine ZN 1000006 zero44 fun b6 ⟨hBb6,hb6⟩=>?_
 have hlt_b3_b6:=hb6 1000003 b3 _ _ rfl
 refine TL (RVN 1 rfl ?_);refine QSB (GT (RS (OpOk.tlO (k:=1000200) [nI S.length,nI (totC S)] (ok_loadA (s:=1000003) (by decide) U44 rfl (size44.of (rfl)) rfl rfl) rfl hv1 (by decide) rfl) ?_));refine RM rfl ?_;refine RS (ok_call (dHas_fn S.length (i:Int)) (Args.cons rfl ((Le.old _ _).trans disk_sz) (Args.cons rfl LA Args.nil))) ?_;refine RZ (.bool true) (congrArg Value.bool (decide_eq_true ⟨by omega,by omega⟩)) ?_;refine RS (ok_not rfl) ?_;refine RZ (.bool false) (rfl) ?_;refine RVN 1 rfl ?_;refine A.no rfl ?_;refine GT (RM rfl ?_);refine RS (ok_lenB U23 rfl (Le.old _ _)) ?_;refine RB rfl rfl rfl ?_;refine Rn ?_;refine RVN 1 rfl ?_;refine A.no rfl ?_;refine A.skip (End.normal_block (EN (GD (TD 6 ?_))));refine RS (OpOk.tlO (k:=1000200) [nI S.length,nI (totC S)] (ok_loadA (s:=1000003) (by decide) U44 rfl (size44.of (rfl)) rfl rfl) rfl hv1 (by decide) rfl) ?_;refine RV 2 rfl ?_;refine RS (ok_callB (dCopied_fn l (by omega)) (fun B B' h=>fresh_mono B B' h) (Args.cons rfl (Le.old _ _) Args.nil)) ?_;refine RS (ok_buildCont (k:=1000200) rfl rfl (by decide) rfl hl buildCs) ?_;refine RS (ok_call (dChange_fn X S i hi hn (some l) ht) (Args.cons rfl (Le.old _ _) (Args.cons rfl LA (Args.cons rfl LA Args.nil)))) ?_;refine RN ?_;refine⟨_,eff_storeK (n:=25) (s:=1000006) size44 rfl rfl (Le.refl _) (Agg.disk) hBb6 rfl (rfl) (Surv.disk (.inl (by decide))) (LV 6 rfl (LB 1000003 rfl (LO 1000200 rfl LN))),?_⟩
 refine TL (RVN 1 rfl ?_);refine A.ret ?_;exact End.varK2 (s:=1000006) rfl U44 rfl size44 rfl rfl (by first|exact Le.refl _|exact Le.old _ _) rfl (by first|exact Le.refl _|exact Le.old _ _)
theorem dErase_fn(X:Nat->Prop)(S:Dk)(i:Nat)(hi:i<S.length)(hn:S.length<=10922)(ht:totC S<=1000000): Fn Tryz.prog 58 [diskD dT X S,.v (nI (i))] (tup [diskD dT X (putC S i none),.v (.int .i64 0)]):=by
 refine Fn.of Tryz.func58 rfl (by kernel_rfl) Tryz.ntmps58 (by simp) (fun w=>[(0,old w.heap.size (diskD dT X S)),(1,.v (nI (i)))]) (fun w=>(Start.old rfl (Start.v rfl Start.nil))) fun w₀=>?_
 refine A.nameTl (t:=0) (k:=1000200) rfl fun v hv1=>?_
 refine GS (TN 0 (RN ?_));refine ZB 1000002 rfl fun b2 ⟨hBb2,hb2⟩=>?_
 refine TN 1 (RN ?_);refine ZN 1000004 zero44 fun b4 ⟨hBb4,hb4⟩=>?_
 have hlt_b2_b4:=hb4 1000002 b2 _ _ rfl
 refine TL (RVN 1 rfl ?_);refine QS (GT (RS (OpOk.tlO (k:=1000200) [nI S.length,nI (totC S)] (ok_loadA (s:=1000002) (by decide) U44 rfl (size44.of (rfl)) rfl rfl) rfl hv1 (by decide) rfl) ?_));refine RM rfl ?_;refine RS (ok_call (dHas_fn S.length (i:Int)) (Args.cons rfl ((Le.old _ _).trans disk_sz) (Args.cons rfl LA Args.nil))) ?_;refine RZ (.bool true) (congrArg Value.bool (decide_eq_true ⟨by omega,by omega⟩)) ?_;refine RS (ok_not rfl) ?_;refine RZ (.bool false) (rfl) ?_;refine RN (A.no rfl ?_);refine QK (GS (TF 4 (RS (OpOk.tlO (k:=1000200) [nI S.length,nI (totC S)] (ok_loadA (s:=1000002) (by decide) U44 rfl (size44.of (rfl)) rfl rfl) rfl hv1 (by decide) rfl) ?_)));refine RM rfl ?_;refine RS (ok_lit [] ([.bool false]++[.slice none 0 0]) (fun _ _=>rfl) (by kernel_rfl)) ?_;refine RS (ok_call (dChange_fn X S i hi hn none ht) (Args.cons rfl (Le.old _ _) (Args.cons rfl LA (Args.cons rfl (zero_cont) Args.nil)))) ?_;refine RN ?_;refine⟨_,eff_storeK (n:=15) (s:=1000004) size44 rfl rfl (Le.refl _) (Agg.disk) hBb4 rfl (rfl) (Surv.disk (.inl (by decide))) (LV 4 rfl (LB 1000002 rfl (LO 1000200 rfl LN))),?_⟩
 refine TL (RVN 1 rfl ?_);refine A.ret ?_;exact End.varK2 (s:=1000004) rfl U44 rfl size44 rfl rfl (by first|exact Le.refl _|exact Le.old _ _) rfl (by first|exact Le.refl _|exact Le.old _ _)
end
section
theorem row_getI{S:Dk}{tv:TypeId}(h:i<S.length): (S.map (rowT tv))[((i:Nat):Int).toNat]?=some (rowT tv (hisC S i)):=row_get h
section
variable {P:Program} {B:Nat} {E:Env} {dst:Option Tmp} {ty:TypeId} {pos:String} {after:Array Edge} {guard:Option (Nat×Bool)}
theorem ok_loadC{T:TypeId}{x:Operand}{h:List Con}(ht:P.underlying T=some td)(hp:(match td with | .struct _ | .array _ _=>true|_=>false)=true)(hsz:SizeIs P T 2)(hj:j<=h.length)(hx:E.at x=some (elemP (((rowC h).drop (j*2)).take 2))):
  OpOk P B ⟨dst,.load T x,ty,pos,after,guard⟩ E (.v (aggV (cV (atC h j)))):=by
 rw[rowC_at hj] at hx
 exact ok_loadElemP ht hp (hsz.of rfl) hx
end
end
section
theorem info178: InfoIs Tryz.prog 178 (.slice none 0 0) 24:=by unfold InfoIs; kernel_rfl
theorem info29: InfoIs Tryz.prog 29 (.slice none 0 0) 24:=by unfold InfoIs; kernel_rfl
theorem zero31: ZeroIs Tryz.prog 31 ([.slice none 0 0]):=by unfold ZeroIs; kernel_rfl
theorem size31: SizeIs Tryz.prog 31 1:=by unfold SizeIs; kernel_rfl
theorem field31_0: FieldIs Tryz.prog 31 0 0 1:=by unfold FieldIs; kernel_rfl
theorem zero121: ZeroIs Tryz.prog 121 ([.bool false]++[.string ⟨#[]⟩]):=by unfold ZeroIs; kernel_rfl
theorem size121: SizeIs Tryz.prog 121 2:=by unfold SizeIs; kernel_rfl
theorem field121_0: FieldIs Tryz.prog 121 0 0 1:=by unfold FieldIs; kernel_rfl
theorem field121_1: FieldIs Tryz.prog 121 1 1 1:=by unfold FieldIs; kernel_rfl
theorem infoPW: InfoP Tryz.prog 121 (.agg #[.bool false,.string ⟨#[]⟩]) 2 24:=by unfold InfoP; kernel_rfl
theorem rNew_fn(m:Nat)(hm:m<=10922): Fn Tryz.prog 40 [.v (nI (m))] (refD 178 121 ((List.replicate m []))):=by
 refine FV Tryz.func40 rfl Tryz.ntmps40 rfl fun w₀=>?_
 refine GS (TN 0 (RN ?_));refine ZN 1000002 zero31 fun b2 ⟨hBb2,hb2⟩=>?_
 refine TL (RN (GS (TN 0 (RN ?_))));refine ZN 1000003 zero31 fun b3 ⟨hBb3,hb3⟩=>?_
 have hlt_b2_b3:=hb3 1000002 b2 _ _ rfl
 refine TL (RN (QS (GV rfl (A.block (A.subL (QC 0 rfl (QC 2 rfl (QC 3 rfl (QC 4 rfl (QC 1000002 rfl (QX 1000003 rfl (blk_varD (ownL_nil (base:=w₀.heap.size) (e:=178))) SubL.nil)))))) ?_)))));refine A.loop (ι:=Nat) (fun i=>i<=m) (fun i=>[(0,.v (nI (m))),(2,.v (ptr b2)),(3,.v (ptr b3)),(4,.v (nI (i))),(1000002,blk b2 31 [.slice none 0 0]),(1000003,varD b3 31 (ownL w₀.heap.size 178 (((List.replicate i [])).map (rowT 121))))]) (fun i=>m-i) 0 ?_ ?_ ?_
 ·exact Nat.zero_le _
 ·exact(KC 0 rfl (KC 2 rfl (KC 3 rfl (KE 4 rfl (by rfl) (KC 1000002 rfl (KC 1000003 rfl KN))))))
 intro i hG
 refine QS (GV rfl ?_);refine A.cond rfl (fun hc7=>?_) (fun hc7=>?_)
 ·have hi:i<m:=by simp at hc7; omega
  refine QK (QSB ?_);refine A.openD (k:=1000003) (k':=1000303) rfl ownL_one fun u hu1=>?_
  refine GE (TF 5 (Rf field31_0 ?_));refine RS (OpOk.valP (k:=1000303) (ok_loadV (s:=1000003) (by decide) U29 rfl rfl rfl (rfl)) (by decide) rfl) ?_;refine RS (ok_lit [] ([.bool false]++[.string ⟨#[]⟩]) (fun _ _=>rfl) (by kernel_rfl)) ?_;refine RS ((ok_build1X U178 infoPW rfl (by decide) (by decide) rfl rfl).le (Le.eq (show rowXD 121 1 _=rowT 121 [] from rfl))) ?_;refine RS (ok_build [rowT 121 []] U29 info178 rfl (by decide) (by decide) rfl ⟨rfl,rfl,trivial⟩ (fun d hd w x h=>by rw[List.mem_singleton.1 hd] at h; exact rowXD_one' h)) ?_;refine RN ?_;refine⟨_,eff_appendL (n:=18) U29 info178 (by decide) rfl rfl (Le.refl _) rfl (le_lst _ _) (d:=rowT 121 ([])) (fun w u h=>rowX_one _ w u h) (fun g=>Surv.rows (S:=(List.replicate i [])) (by decide)) (fun g=>Surv.rowT (by decide)) (by rw[List.length_map,List.length_replicate]; omega) (by decide) (fun g hg=>(LT 1000002 rfl (LT 1000003 rfl (LW [0,2,3,4] rfl)))),?_⟩
  refine TF 7 (Rf field31_0 ?_);refine RN ?_;refine⟨_,eff_storeD (n:=18) (s:=1000003) info29 rfl rfl (ownL_one) hBb3 rfl (Surv.ownL (by decide) (Surv.rowsA (by decide))) (LB 1000002 rfl (LW [0,2,3,4] rfl)),?_⟩
  refine TL (RN (End.normal_block (EN (GTE (RV 2 rfl ?_)))));refine Rw (i+1) ?_;refine RVN 1 rfl ?_;refine End.normal_then ?_;refine End.again (i+1) ?_ ?_ ?_
  ·show _<=_; omega
  ·show _-_<_-_; omega
  ·exact(KC 0 rfl (KC 2 rfl (KC 3 rfl (KC 4 rfl (KC 1000002 rfl (KE 1000003 rfl (varD_eq (ownL_eq (rep_next _ i))) KN))))))
 ·have hi2:i=m:=by simp at hc7; omega
  refine A.exit (End.exit_then (End.exit_then (End.exit_here (EN (GS (TF 1 (RS (ok_loadDS (s:=1000003) (by decide) U31 rfl size31 ownL_one rfl rfl) ?_)))))));refine RN ?_;refine⟨_,eff_storeK (n:=18) (s:=1000002) size31 rfl rfl (tl_le ownL_lstT) (Agg.ref) hBb2 rfl (rfl) (Surv.ref (by decide) (by decide)) (LV 2 rfl (LeftS.cons (t:=1000003) rfl (Surv.varD (by omega) (Surv.ownL (by decide) (Surv.rows (by decide)))) LN)),?_⟩
  refine TL (RN (A.ret ?_));exact End.varK1 (s:=1000002) rfl U31 rfl size31 rfl rfl (by subst hi2; exact Le.refl _)
theorem rLast_fn(S:Dk)(hn:S.length<=10922)(ht:totC S<=1000000)(i:Nat)(hi:i<S.length): Fn Tryz.prog 49 [refD 178 121 (S),.v (nI (i))] (.v (aggV (cV (lastC (hisC S i))))):=by
 refine Fn.of Tryz.func49 rfl (by kernel_rfl) Tryz.ntmps49 (by simp) (fun w=>[(0,old w.heap.size (refD 178 121 (S))),(1,.v (nI (i)))]) (fun w=>(Start.old rfl (Start.v rfl Start.nil))) fun w₀=>?_
 refine A.nameTl (t:=0) (k:=1000200) rfl fun v hv1=>?_
 have hle:=his_le S i
 refine GS (TN 0 (RN ?_));refine ZB 1000002 rfl fun b2 ⟨hBb2,hb2⟩=>?_
 refine TN 1 (RN ?_);refine ZN 1000004 zero121 fun b4 ⟨hBb4,hb4⟩=>?_
 refine TL (RN (GD (TD 14 ?_)));refine Rf field31_0 ?_;refine RS (OpOk.valO (k:=1000200) (ok_loadV (s:=1000002) (by decide) U29 rfl rfl rfl (rfl)) (by decide) rfl) ?_;refine RM rfl ?_;refine RS (ok_index (j:=((i:Nat):Int)) U29 info178 rfl ((Le.old _ _).trans lstT_lst) rfl (by omega) (row_getI hi)) ?_;refine RS (ok_load U178 rfl rfl) ?_;refine Rf field31_0 ?_;refine RS (OpOk.valO (k:=1000200) (ok_loadV (s:=1000002) (by decide) U29 rfl rfl rfl (rfl)) (by decide) rfl) ?_;refine RM rfl ?_;refine RS (ok_index (j:=((i:Nat):Int)) U29 info178 rfl ((Le.old _ _).trans lstT_lst) rfl (by omega) (row_getI hi)) ?_;refine RS (ok_load U178 rfl rfl) ?_;refine RS (ok_lenRD U178 rfl rowT_row) ?_;refine RB rfl rfl rfl ?_;refine RZ (nI ((hisC S i).length)) (wrap_eq (by omega) (by omega)) ?_;refine RS (ok_indexRD (hisC S i).length U178 infoPW rfl rowT_row rfl (by omega) (by rw[rowC_length]; omega)) ?_;refine RS (ok_loadC U121 rfl size121 (Nat.le_refl _) rfl) ?_;refine RZ (aggV (cV (lastC (hisC S i)))) (by rw[atC_len]) ?_;refine RN ?_;refine ZA 1000004 (size121.of rfl) hBb4 rfl rfl rfl (LV 4 rfl (LT 1000002 rfl (LO 1000200 rfl LN))) ?_;refine TL (RN (A.ret ?_));exact End.cell1 (s:=1000004) rfl U121 rfl (size121.of (rfl)) rfl rfl (Le.refl _)
set_option maxHeartbeats 1000000 in
theorem rWith_fn(S:Dk)(hn:S.length<=10922)(ht:totC S<=1000000)(k:Nat)(hk:k<S.length)(c:Con): Fn Tryz.prog 42 [refD 178 121 (S),.v (nI (k)),.v (aggV (cV c))] (refD 178 121 (putC S k c)):=by
 refine Fn.of Tryz.func42 rfl (by kernel_rfl) Tryz.ntmps42 (by simp) (fun w=>[(0,old w.heap.size (refD 178 121 (S))),(1,.v (nI (k))),(2,.v (aggV (cV c)))]) (fun w=>(Start.old rfl (Start.v rfl (Start.v rfl Start.nil)))) fun w₀=>?_
 refine A.nameTl (t:=0) (k:=1000200) rfl fun v hv1=>?_
 refine GS (TN 0 (RN ?_));refine ZB 1000003 rfl fun b3 ⟨hBb3,hb3⟩=>?_
 refine TN 1 (RN ?_);refine ZB 1000005 rfl fun b5 ⟨hBb5,hb5⟩=>?_
 refine TN 2 (RN ?_);refine ZN 1000006 zero31 fun b6 ⟨hBb6,hb6⟩=>?_
 have hlt_b3_b6:=hb6 1000003 b3 _ _ rfl
 refine TL (RN (GS (TN 0 (RN ?_))));refine ZN 1000007 zero31 fun b7 ⟨hBb7,hb7⟩=>?_
 have hlt_b3_b7:=hb7 1000003 b3 _ _ rfl
 have hlt_b6_b7:=hb7 1000006 b6 _ _ rfl
 refine TL (RN (QS (GV rfl (A.block (A.subL (QC 1 rfl (QC 3 rfl (QC 5 rfl (QC 6 rfl (QC 7 rfl (QC 8 rfl (QC 1000003 rfl (QC 1000005 rfl (QC 1000006 rfl (QX 1000007 rfl (blk_varD (ownL_nil (base:=w₀.heap.size) (e:=178))) (QC 1000200 rfl SubL.nil))))))))))) ?_)))));refine A.loop (ι:=Nat) (fun i=>i<=S.length) (fun i=>[(1,.v (nI (k))),(3,.v (ptr b3)),(5,.v (ptr b5)),(6,.v (ptr b6)),(7,.v (ptr b7)),(8,.v (nI (i))),(1000003,blk b3 31 [v]),(1000005,blk b5 121 (cV c)),(1000006,blk b6 31 [.slice none 0 0]),(1000007,varD b7 31 (ownL w₀.heap.size 178 (((putC S k c).take i).map (rowT 121)))),(1000200,old w₀.heap.size (valM v (lstT 178 (S.map (rowT 121)))))]) (fun i=>S.length-i) 0 ?_ ?_ ?_
 ·exact Nat.zero_le _
 ·exact(KC 1 rfl (KC 3 rfl (KC 5 rfl (KC 6 rfl (KC 7 rfl (KE 8 rfl (by rfl) (KC 1000003 rfl (KC 1000005 rfl (KC 1000006 rfl (KC 1000007 rfl (KC 1000200 rfl KN)))))))))))
 intro i hG
 have hle:=his_le S i
 refine QS (GT (RM rfl ?_));refine Rf field31_0 ?_;refine RS (OpOk.valO (k:=1000200) (ok_loadV (s:=1000003) (by decide) U29 rfl rfl rfl (rfl)) (by decide) rfl) ?_;refine RS (ok_len U29 rfl ((Le.old _ _).trans lstT_lst)) ?_;refine RZ (nI (S.length)) (by rw[List.length_map]) ?_;refine RVN 1 rfl ?_;refine A.cond rfl (fun hc14=>?_) (fun hc14=>?_)
 ·have hi:i<S.length:=by simp at hc14; omega
  refine QK (QSB (A.dup (k:=1000005) (k':=1000305) rfl (fun _ _ _ _ h=>h) ?_));refine A.dup (k:=1000200) (k':=1000500) rfl (fun _ _ _ _ h=>h) ?_;refine A.raise _ (fun w=>(UpTo.same (t:=1) rfl (UpTo.same (t:=3) rfl (UpTo.same (t:=5) rfl (UpTo.same (t:=6) rfl (UpTo.same (t:=7) rfl (UpTo.same (t:=8) rfl (UpTo.same (t:=14) rfl (UpTo.same (t:=1000003) rfl (UpTo.same (t:=1000005) rfl (UpTo.same (t:=1000006) rfl (UpTo.new (t:=1000007) rfl (UpTo.old (t:=1000200) rfl (UpTo.new (t:=1000305) rfl (UpTo.new (t:=1000500) rfl UpTo.nil))))))))))))))) fun w₁ hg₁=>?_
  have hgs₁:=hg₁.size
  refine GT (Rf field31_0 ?_);refine RS (OpOk.valO (k:=1000200) (ok_loadV (s:=1000003) (by decide) U29 rfl rfl rfl (rfl)) (by decide) rfl) ?_;refine RM rfl ?_;refine RS (ok_index (j:=((i:Nat):Int)) U29 info178 rfl ((Le.old _ _).trans lstT_lst) rfl (by omega) (row_getI hi)) ?_;refine RS (ok_load U178 rfl rfl) ?_;refine RS (ok_appendNil U178 infoPW (by decide) (by decide) rfl rfl rowT_row (rowC_one _) (rowC_length _) (by omega)) ?_;refine RVN 1 rfl ?_;refine QS (GV rfl ?_);refine A.cond rfl (fun hc25=>?_) (fun hc25=>?_)
  ·have hik:i=k:=by simp at hc25; omega
   refine GE (TF 3 (RM rfl ?_));refine RL 1000005 U121 rfl rfl (size121.of rfl) ?_;refine RS (ok_build1P U178 infoPW rfl rfl) ?_;refine RN ?_;refine⟨_,eff_appendP (n:=37) U178 infoPW (by decide) (by decide) rfl rfl rfl rfl rfl (by omega) (by decide) (fun g hg=>(LT 1000003 rfl (LT 1000006 rfl (LO 1000007 rfl (LO 1000200 rfl (LO 1000305 rfl (LO 1000500 rfl (LW [1,3,5,6,7,8] rfl)))))))),?_⟩
   refine TL (RVN 1 rfl ?_);refine EN (A.lower hg₁ ?_);refine A.dup (k:=1000305) (k':=1000005) rfl (fun _ _ _ _ h=>h) ?_;refine A.dup (k:=1000500) (k':=1000200) rfl (fun _ _ _ _ h=>h) ?_;refine A.subL (QC 1 rfl (QC 3 rfl (QC 5 rfl (QC 6 rfl (QC 7 rfl (QC 8 rfl (QC 9 rfl (QC 1000003 rfl (QX 1000005 rfl (Le.old _ _) (QC 1000006 rfl (QX 1000007 rfl (Le.old _ _) (QX 1000200 rfl (Le.old _ _) SubL.nil)))))))))))) ?_;refine A.openD (k:=1000007) (k':=1000307) rfl ownL_one fun u hu1=>?_
   refine GE (TF 4 (Rf field31_0 ?_));refine RS (OpOk.valP (k:=1000307) (ok_loadV (s:=1000007) (by decide) U29 rfl rfl rfl (rfl)) (by decide) rfl) ?_;refine RM rfl ?_;refine RS (ok_build [_] U29 info178 rfl (by decide) (by decide) rfl ⟨rfl,rfl,trivial⟩ (fun d hd w x h=>by rw[List.mem_singleton.1 hd] at h; exact ownP_one h)) ?_;refine RN ?_;refine⟨_,eff_appendL (n:=37) U29 info178 (by decide) rfl rfl (Le.refl _) rfl (list_lst1 (by first|(subst hik; exact put_row1 hi)|exact put_row0 hik)) (d:=rowT 121 (hisC (putC S k c) i)) (fun w u h=>rowX_one _ w u h) (fun g=>Surv.rows (S:=(putC S k c).take i) (by decide)) (fun g=>Surv.rowT (by decide)) (by rw[List.length_map,List.length_take]; omega) (by decide) (fun g hg=>(LT 1000003 rfl (LT 1000005 rfl (LT 1000006 rfl (LT 1000007 rfl (LO 1000200 rfl (LW [1,3,5,6,7,8] rfl))))))),?_⟩
   refine TF 6 (Rf field31_0 ?_);refine RN ?_;refine⟨_,eff_storeD (n:=37) (s:=1000007) info29 rfl rfl (ownL_one) hBb7 rfl (Surv.ownL (by decide) (Surv.rowsA (by decide))) (LB 1000003 rfl (LT 1000005 rfl (LB 1000006 rfl (LO 1000200 rfl (LW [1,3,5,6,7,8] rfl))))),?_⟩
   refine TL (RN (End.sub (Sv [1,3,5,6,7,8,1000003,1000005,1000006,1000007,1000200] rfl) ?_));refine End.normal_block (EN (GTE (RV 2 rfl ?_)));refine Rw (i+1) ?_;refine RVN 1 rfl ?_;refine End.normal_then ?_;refine End.again (i+1) ?_ ?_ ?_
   ·show _<=_; omega
   ·show _-_<_-_; omega
   ·exact(KC 1 rfl (KC 3 rfl (KC 5 rfl (KC 6 rfl (KC 7 rfl (KC 8 rfl (KC 1000003 rfl (KC 1000005 rfl (KC 1000006 rfl (KE 1000007 rfl (varD_eq (ownL_eq (rows_take (by rw[putC_length]; exact hi)))) (KC 1000200 rfl KN)))))))))))
  ·have hik:k≠i:=by simp at hc25; omega
   refine QK (A.lower hg₁ ?_);refine A.dup (k:=1000305) (k':=1000005) rfl (fun _ _ _ _ h=>h) ?_;refine A.dup (k:=1000500) (k':=1000200) rfl (fun _ _ _ _ h=>h) ?_;refine A.subL (QC 1 rfl (QC 3 rfl (QC 5 rfl (QC 6 rfl (QC 7 rfl (QC 8 rfl (QC 9 rfl (QC 25 rfl (QC 1000003 rfl (QX 1000005 rfl (Le.old _ _) (QC 1000006 rfl (QX 1000007 rfl (Le.old _ _) (QX 1000200 rfl (Le.old _ _) SubL.nil))))))))))))) ?_;refine A.openD (k:=1000007) (k':=1000307) rfl ownL_one fun u hu1=>?_
   refine GE (TF 4 (Rf field31_0 ?_));refine RS (OpOk.valP (k:=1000307) (ok_loadV (s:=1000007) (by decide) U29 rfl rfl rfl (rfl)) (by decide) rfl) ?_;refine RM rfl ?_;refine RS (ok_build [_] U29 info178 rfl (by decide) (by decide) rfl ⟨rfl,rfl,trivial⟩ (fun d hd w x h=>by rw[List.mem_singleton.1 hd] at h; exact ownP_one h)) ?_;refine RN ?_;refine⟨_,eff_appendL (n:=37) U29 info178 (by decide) rfl rfl (Le.refl _) rfl (list_lst1 (by first|(subst hik; exact put_row1 hi)|exact put_row0 hik)) (d:=rowT 121 (hisC (putC S k c) i)) (fun w u h=>rowX_one _ w u h) (fun g=>Surv.rows (S:=(putC S k c).take i) (by decide)) (fun g=>Surv.rowT (by decide)) (by rw[List.length_map,List.length_take]; omega) (by decide) (fun g hg=>(LT 1000003 rfl (LT 1000005 rfl (LT 1000006 rfl (LT 1000007 rfl (LO 1000200 rfl (LW [1,3,5,6,7,8] rfl))))))),?_⟩
   refine TF 6 (Rf field31_0 ?_);refine RN ?_;refine⟨_,eff_storeD (n:=37) (s:=1000007) info29 rfl rfl (ownL_one) hBb7 rfl (Surv.ownL (by decide) (Surv.rowsA (by decide))) (LB 1000003 rfl (LT 1000005 rfl (LB 1000006 rfl (LO 1000200 rfl (LW [1,3,5,6,7,8] rfl))))),?_⟩
   refine TL (RN (End.normal_block (EN (GTE (RV 2 rfl ?_)))));refine Rw (i+1) ?_;refine RVN 1 rfl ?_;refine End.sub (Sv [1,3,5,6,7,8,1000003,1000005,1000006,1000007,1000200] rfl) ?_;refine End.normal_then ?_;refine End.again (i+1) ?_ ?_ ?_
   ·show _<=_; omega
   ·show _-_<_-_; omega
   ·exact(KC 1 rfl (KC 3 rfl (KC 5 rfl (KC 6 rfl (KC 7 rfl (KC 8 rfl (KC 1000003 rfl (KC 1000005 rfl (KC 1000006 rfl (KE 1000007 rfl (varD_eq (ownL_eq (rows_take (by rw[putC_length]; exact hi)))) (KC 1000200 rfl KN)))))))))))
 ·have hi2:i=S.length:=by simp at hc14; omega
  refine A.exit (End.exit_then (End.exit_then (End.exit_here (EN (GS (TF 1 (RS (ok_loadDS (s:=1000007) (by decide) U31 rfl size31 ownL_one rfl rfl) ?_)))))));refine RN ?_;refine⟨_,eff_storeK (n:=37) (s:=1000006) size31 rfl rfl (tl_le ownL_lstT) (Agg.ref) hBb6 rfl (rfl) (Surv.ref (by decide) (by decide)) (LV 6 rfl (LB 1000003 rfl (LT 1000005 rfl (LeftS.cons (t:=1000007) rfl (Surv.varD (by omega) (Surv.ownL (by decide) (Surv.rows (by decide)))) (LO 1000200 rfl LN))))),?_⟩
  refine TL (RN (A.ret ?_));exact End.varK1 (s:=1000006) rfl U31 rfl size31 rfl rfl (Le.eq (by rw[hi2,List.take_of_length_le (by rw[putC_length]; exact Nat.le_refl _)]; rfl))
end
theorem zero127: ZeroIs Tryz.prog 127 [.slice none 0 0]:=by unfold ZeroIs; kernel_rfl
theorem info127: InfoIs Tryz.prog 127 (.slice none 0 0) 24:=by unfold InfoIs; kernel_rfl
theorem down_fnB(n b x:Nat): FnB Tryz.prog 91 [.v (aggV (shV n b)),.v (nI (x))] (fun B=>closR B 124 183 (shV n b) 3 [nI x]):=by
 refine FnB.of Tryz.func91 rfl (by kernel_rfl) Tryz.ntmps91 (by simp) (fun w=>[(0,.v (aggV (shV n b))),(1,.v (nI (x)))]) (fun w=>(Start.v rfl (Start.v rfl Start.nil))) fun w₀=>?_
 refine GS (TN 0 (RN ?_));refine ZB 1000002 rfl fun b2 ⟨hBb2,hb2⟩=>?_
 refine TN 1 (RN ?_);refine⟨_,_,eff_box1 (n:=6) (d:=3) (k:=1000003) rfl rfl (by decide),fun b3 hb3=>?_⟩
 have hBb3:=hb3.1
 have hlt_b2_b3:b2<b3:=hb3.2 1000002 _ _ _ rfl
 refine TL (RVN 1 rfl ?_);refine GT (RS (ok_makeFuncN [ptr b2,ptr b3] ⟨rfl,rfl,trivial⟩) ?_);refine RVN 1 rfl ?_;refine A.ret ?_;exact End.closR (.inl rfl) rfl hBb2 hBb3 (by omega) rfl (k₁:=1000002) (k₂:=1000003) rfl rfl
theorem down1_seq{p q x:Nat}{J:Nat->World->Prop}(h1:1<=n)(h2:n<=4096)(hx:x<n)
  (hq:SeqsX Tryz.prog w₀ (hg n+1) l (fun i=>.v (aggV (stp n x i))) (fun _=>[(1000091,blk p 183 (shV n b)),(1000092,blk q 3 [nI x])]) J (fun _:Unit=>[]))(h0:J 0 w):
  Calls Tryz.prog 124 (.func (.yield l) #[] #[]::[ptr p,ptr q]:List Value).toArray w fun e W=>(∃ v,e = .returned v)∧J (hg n+1) W:=by
 have hh:=hg_le n
 obtain⟨hb,hs,hV⟩:=hq.holds 0 w h0
 refine Calls.within (n:=20) (E:=[(0,.v (.func (.yield l) #[] #[])),(1,.v (ptr p)),(2,.v (ptr q)),(1000090,jD (J 0)),(1000091,blk p 183 (shV n b)),(1000092,blk q 3 [nI x])]) Tryz.func124 rfl Tryz.ntmps124 (by simp) (by decide) hb hs ?_ ?_
 ·intro x hx
  simp only[List.mem_cons,List.not_mem_nil,or_false] at hx
  rcases hx with rfl|rfl|rfl|rfl|rfl|rfl
  ·exact .inr ⟨_,rfl,rfl⟩
  ·exact .inr ⟨_,rfl,rfl⟩
  ·exact .inr ⟨_,rfl,rfl⟩
  ·exact .inl ⟨vle rfl,jD_mk h0⟩
  ·exact .inl ⟨vle rfl,hV _ (by simp)⟩
  ·exact .inl ⟨vle rfl,hV _ (by simp)⟩
 refine GT (RL 1000091 U183 rfl rfl (size183.of rfl) ?_);refine RS (ok_call (height_fn n b) (A1 rfl)) ?_;refine RVN 1 rfl ?_;refine A.block ?_;refine A.loop (ι:=Nat) (fun i=>i<=hg n+1) (fun i=>[(0,.v (.func (.yield l) #[] #[])),(2,.v (ptr q)),(4,.v (.int .i64 ((hg n:Int)-((i:Nat):Int)))),(1000090,jD (J i)),(1000091,blk p 183 (shV n b)),(1000092,blk q 3 [nI x])]) (fun i=>hg n+1-i) 0 ?_ ?_ ?_
 ·exact Nat.zero_le _
 ·exact(KC 0 rfl (KC 2 rfl (KE 4 rfl (congrArg (fun z:Int=>D.v (.int .i64 z)) (show(hg n:Int)=_ by omega)) (KC 1000090 rfl (KC 1000091 rfl (KC 1000092 rfl KN))))))
 intro i hi'
 refine QS (GV rfl ?_);refine A.cond rfl (fun hc8=>?_) (fun hc8=>?_)
 ·have hlt:i<hg n+1:=by simp at hc8; omega
  refine QK (QSB (GD (TD 7 ?_)));refine RV 2 rfl ?_;refine RZ (nI (hg n-i)) (congrArg (Value.int .i64) (by omega)) ?_;refine RLV 1000092 U3 rfl rfl rfl ?_;refine RM rfl ?_;refine RZ (nI (hg n-i)) (congrArg (Value.int .i64) (by omega)) ?_;refine RS (ok_call (span_fn (hg n-i) (by omega)) (A1 rfl)) ?_;refine RS (ok_div rfl rfl (by have:=pow_pos4 (hg n-i+1); omega)) ?_;refine RZ (nI (x / 4^(hg n-i+1))) (by rw[tdiv_nat]; exact wrap_eq rfl (by have:=Nat.div_le_self x (4^(hg n-i+1)); omega)) ?_;refine RS (ok_litS [(0,nI (hg n-i)),(1,nI (x / 4^(hg n-i+1)))] (stp n x i) ⟨rfl,rfl,rfl,rfl,trivial⟩ (buildP _ _)) ?_;refine RN ?_;refine⟨_,eff_yieldX (vJ:=1000090) hq () i hlt rfl rfl rfl (Le.refl _) (by decide) (fun p hp=>by simp only[List.mem_cons,List.not_mem_nil,or_false] at hp; rcases hp with rfl|rfl<;>exact vle rfl) (fun p hp=>by cases hp) (fun p hp=>by cases hp) (by decide) (Left.cons (t:=0) rfl (Stays.v _ _) (Left.cons (t:=2) rfl (Stays.v _ _) (Left.cons (t:=4) rfl (Stays.v _ _) Left.nil))),?_⟩
  refine TL (RVN 1 rfl ?_);refine A.no rfl ?_;refine A.skip (End.normal_block (EN (GTE (RV 2 rfl ?_))));refine RZ (.int .i64 ((hg n:Int)-((i+1:Nat):Int))) (by rw[wrap_i64 (by omega) (by omega)]; congr 1; omega) ?_;refine RVN 1 rfl ?_;refine End.normal_then ?_;refine End.again (i+1) ?_ ?_ ?_
  ·show _<=_; omega
  ·show _-_<_-_; omega
  ·exact(Sv [0,2,4,1000090,1000091,1000092] rfl)
 ·obtain rfl:i=hg n+1:=by simp at hc8; omega
  refine A.exit (End.exit_then (End.exit_then (End.exit_here ?_)));exact End.seqX (vJ:=1000090) hq rfl rfl
set_option maxHeartbeats 2000000 in
theorem Path_fnB(n:Nat)(h1:1<=n)(h2:n<=4096)(x:Nat)(hx:x<n): FnB Tryz.prog 51 [.v (nI (n)),.v (nI (x))] (fun B=>newD B 131 (fun b=>.tuple #[.slice (some ⟨b,0,none⟩) (hg n+1) (hg n+1),.int .i64 0]) (pathV n x (hg n+1))):=by
 have hh:=hg_le n
 refine FnB.of Tryz.func51 rfl (by kernel_rfl) Tryz.ntmps51 (by simp) (fun w=>[(0,.v (nI (n))),(1,.v (nI (x)))]) (fun w=>(Start.v rfl (Start.v rfl Start.nil))) fun w₀=>?_
 refine GV rfl (QS (GT (RV 2 rfl ?_)));refine RS (ok_call (hasBlock_y n h1 h2 x hx) (A2 rfl rfl)) ?_;refine RVN 1 rfl ?_;refine A.no rfl ?_;refine QK (GS (TN 1 (RVN 1 rfl ?_)));refine ZM 1000014 (fun B'=>OCB (shapeOf_fnB n h1 h2) (A1 rfl)) rfl fun b14 ⟨hBb14,hb14⟩=>?_
 refine TN 2 (RN ?_);refine ZN 1000006 zero183 fun b6 ⟨hBb6,hb6⟩=>?_
 refine TF 3 (RN ?_);refine ZA 1000006 (size183.of rfl) hBb6 rfl rfl rfl (LT 1000014 rfl (LW [1,6] rfl)) ?_;refine TL (RN (GS (TN 3 (Rf field183_1 ?_))));refine RLV 1000006 U38 rfl rfl rfl ?_;refine RS (ok_lenV U38 rfl) ?_;refine RN ?_;refine ZM 1000018 (fun B'=>ok_makePl (hg n+1) U127 infoPP (by decide) rfl rfl (by omega)) rfl fun b18 ⟨hBb18,hb18⟩=>?_
 have hlt_b6_b18:=hb18 1000006 b6 _ _ rfl
 have hlt_b14_b18:=hb18 1000014 b14 _ _ rfl
 refine TN 4 (RN ?_);refine ZN 1000007 zero127 fun b7 ⟨hBb7,hb7⟩=>?_
 refine TF 5 (RN ?_);refine⟨_,eff_storeS (n:=28) (s:=1000007) info127 rfl rfl rfl hBb7 rfl (by simp) (LT 1000006 rfl (LT 1000014 rfl (LT 1000018 rfl (LW [1,6,7] rfl)))),?_⟩
 refine TL (RN (QS (GT (RL 1000006 U183 rfl rfl (size183.of rfl) ?_))));refine RM rfl ?_;refine RS (ok_callB (down_fnB n b14 x) (fun _ _=>closR_mono _ _) (A2 rfl rfl)) ?_;refine RN ?_;refine A.openClosR (t:=21) (k₁:=1000091) (k₂:=1000092) rfl fun p q hBp hBq hpq=>?_
 refine A.block ?_;refine A.rangeX (X:=Unit) (gf:=124) (N:=hg n+1) (vL:=1000098) (vD:=1000099) (tp:=22) (lb:=[ptr p,ptr q]) (S:=[(7,.v (ptr b7))]) (XE:=fun _:Unit=>[])
  (V:=fun i=>[(1000007,blk b7 127 [.slice (some ⟨b18,0,none⟩) (i) (hg n+1)]),(1000018,blk b18 131 (pathV n x (i))),(1000091,blk p 183 (shV n b14)),(1000092,blk q 3 [nI x])])
  (Eb:=fun i _=>(8,freshV w₀.heap.size [] 131 (stp n x i))::(22,.v (aggV (stp n x i)))::([(1000007,blk b7 127 [.slice (some ⟨b18,0,none⟩) (i) (hg n+1)]),(1000018,blk b18 131 (pathV n x (i))),(1000091,blk p 183 (shV n b14)),(1000092,blk q 3 [nI x])]++[(7,.v (ptr b7))]++[]))
  (arg:=fun i=>.v (aggV (stp n x i))) rfl ⟨_,Tryz.func124,by kernel_rfl,rfl⟩ (by decide) (by decide) (KC 1000007 rfl (KE 1000018 rfl (by rfl) (KC 1000091 rfl (KC 1000092 rfl (KC 7 rfl KN)))))
  (fun x hx=>by simp only[List.mem_cons,List.not_mem_nil,or_false] at hx; rcases hx with rfl; exact⟨vlt rfl,.inl ⟨_,rfl⟩⟩)
  (fun i x hx=>by simp only[List.mem_cons,List.not_mem_nil,or_false] at hx; rcases hx with rfl|rfl|rfl|rfl<;>exact vle rfl)
  (fun z x hx=>by cases hx)
  (fun z l _ x hx=>by cases hx)
  (fun i l' hl x hx=>by simp only[List.mem_cons,List.not_mem_nil,or_false] at hx; rcases hx with rfl|rfl|rfl|rfl<;>first|exact Firm.blk|exact Firm.v _ _|exact Firm.freshV)
  (fun i z l' hl x hx=>by simp only[List.mem_cons,List.mem_append,List.not_mem_nil,or_false] at hx; rcases hx with rfl|rfl|((rfl|rfl|rfl|rfl)|rfl)<;>first|exact Firm.blk|exact Firm.v _ _|exact Firm.freshV)
  (fun J l' w hq h0=>down1_seq (b:=b14) h1 h2 hx (hq.sub fun i x hx=>by simp only[List.mem_cons,List.not_mem_nil,or_false] at hx ⊢; rcases hx with rfl|rfl<;>simp) h0)
  (fun i l' a w z _ hb h=>assign_box zero131 (size131.of rfl) rfl rfl (by decide) (by decide) hb h) ?_ ?_
 ·intro i l' D rr mm z hi'
  refine A.openFresh (t:=8) (k:=1000008) rfl fun b8 hBb8=>?_
  refine A.block (GE (TF 3 (RLV 1000007 U127 rfl rfl rfl ?_)));refine RL 1000008 U131 rfl rfl (size131.of rfl) ?_;refine RS (ok_build1P U127 infoPP rfl rfl) ?_;refine RN ?_;refine⟨_,eff_appendRoom (n:=28) (s:=1000018) (k:=i) (c:=hg n+1) (us:=stp n x i) U127 infoPP rfl rfl rfl rfl (by omega) hBb18 rfl (by rw[pathV_length (by omega)]; omega) (fun q hq=>by rw[U127] at hq; cases hq) (by decide) (LV 7 rfl (LT 1000007 rfl (LT 1000091 rfl (LT 1000092 rfl (LeftS.cons (t:=1000098) rfl (Surv.rec rfl) (LeftS.cons (t:=1000099) rfl (Surv.rec rfl) LN)))))),?_⟩
  refine TF 4 (RN ?_);refine⟨_,eff_storeS (n:=28) (s:=1000007) info127 rfl rfl rfl hBb7 rfl (by simp) (LT 1000018 rfl (LT 1000091 rfl (LT 1000092 rfl (LeftS.cons (t:=1000098) rfl (Surv.rec rfl) (LeftS.cons (t:=1000099) rfl (Surv.rec rfl) LN))))),?_⟩
  refine TL (RN (End.sub (KC 1000007 rfl (KE 1000018 rfl (show blk b18 131 _=blk b18 131 (pathV n x (i+1)) from congrArg _ (pathV_set (by omega))) (KC 1000091 rfl (KC 1000092 rfl (KC 1000098 rfl (KC 1000099 rfl KN)))))) ?_));refine End.normal_block ?_;exact End.round (Sv [1000098,1000099,1000007,1000018,1000091,1000092] rfl) (fun x hx=>by simp only[List.mem_cons,List.mem_append,List.not_mem_nil,or_false] at hx; rcases hx with rfl|rfl|(rfl|rfl|rfl|rfl)<;>exact vle rfl) (by decide)
 ·intro D hD
  refine End.normal_block (EN (GT (RLV 1000007 U127 rfl rfl rfl ?_)));refine RVN 2 rfl ?_;refine A.ret ?_;exact End.newTTC (vD:=1000099) rfl hD rfl rfl rfl (kg:=1000018) rfl hBb18 rfl rfl
theorem un_one{h:Nat}(hh:h<=hg n)(h0:un n (h+1)=1): h=hg n:=by
 rcases Nat.lt_or_ge h (hg n) with h1|h1
 ·have:=un_big (n:=n) (k:=h+1) (by omega) (by omega)
  omega
 ·omega
theorem rCount_fn(n:Nat)(h1:1<=n)(h2:n<=4096)(l:Nat)(hl:l<=hg n): Fn Tryz.prog 45 [.v (nI (n)),.v (nI (l))] (.v (nI (un n (l+1)))):=by
 have hh:=hg_le n
 refine FV Tryz.func45 rfl Tryz.ntmps45 rfl fun w₀=>?_
 refine GV rfl (GV rfl (QS (GV rfl (A.block ?_))));refine A.loop (ι:=Nat) (fun i=>i<=l+1) (fun i=>[(0,.v (nI (n))),(1,.v (nI (l))),(5,.v (nI (un n i))),(6,.v (nI (i)))]) (fun i=>l+1-i) 0 ?_ ?_ ?_
 ·exact Nat.zero_le _
 ·exact(Sv [0,1,5,6] rfl)
 intro i hi
 have hu0:=un_le h1 (i)
 have hv0:=un_pos h1 (i)
 have hu1:=un_le h1 (i+1)
 have hv1:=un_pos h1 (i+1)
 refine QS (GV rfl ?_);refine A.cond rfl (fun hc10=>?_) (fun hc10=>?_)
 ·have hlt:i<=l:=by simp at hc10; omega
  refine QK (QSB (QS ?_))
  by_cases hi0:0<i
  ·refine GT (RV 2 rfl ?_);refine RT ?_;refine RV 3 rfl ?_;refine RZ (.bool false) (by have:=un_big (n:=n) (k:=i) (by omega) (by omega); simp; omega) ?_;refine RVN 1 rfl ?_;refine A.no rfl ?_;refine QK (GTE (RV 2 rfl ?_));refine Rw (un n i+3) ?_;refine RS (ok_div rfl rfl (by decide)) ?_;refine RZ (nI (un n (i+1))) (by rw[tdiv_lit _ (by decide)]; exact wrap_eq rfl (by omega)) ?_;refine RVN 1 rfl ?_;refine End.normal_block (EN (GTE (RV 2 rfl ?_)));refine Rw (i+1) ?_;refine RVN 1 rfl ?_;refine End.normal_then ?_;refine End.again (i+1) ?_ ?_ ?_
   ·show _<=_; omega
   ·show _-_<_-_; omega
   ·exact(Sv [0,1,5,6] rfl)
  ·refine GT (RV 2 rfl ?_);refine RF ?_;refine RVN 4 rfl ?_;refine A.no rfl ?_;refine QK (GTE (RV 2 rfl ?_));refine Rw (un n i+3) ?_;refine RS (ok_div rfl rfl (by decide)) ?_;refine RZ (nI (un n (i+1))) (by rw[tdiv_lit _ (by decide)]; exact wrap_eq rfl (by omega)) ?_;refine RVN 1 rfl ?_;refine End.normal_block (EN (GTE (RV 2 rfl ?_)));refine Rw (i+1) ?_;refine RVN 1 rfl ?_;refine End.normal_then ?_;refine End.again (i+1) ?_ ?_ ?_
   ·show _<=_; omega
   ·show _-_<_-_; omega
   ·exact(Sv [0,1,5,6] rfl)
 ·have hie:i=l+1:=by simp at hc10; omega
  refine A.exit (End.exit_then (End.exit_then (End.exit_here (EN (GT (RM rfl ?_))))));refine RZ (nI (un n (l+1))) (by rw[hie]) ?_;refine RVN 1 rfl ?_;refine A.ret ?_;exact ER rfl rfl
theorem rHeight_fn(n:Nat)(h1:1<=n)(h2:n<=4096): Fn Tryz.prog 15 [.v (nI (n))] (.v (nI (hg n))):=by
 have hh:=hg_le n
 refine FV Tryz.func15 rfl Tryz.ntmps15 rfl fun w₀=>?_
 refine GV rfl (GV rfl (QSB ?_));refine A.loop (ι:=Nat) (fun h=>h<=hg n) (fun h=>[(0,.v (nI (n))),(3,.v (nI (h)))]) (fun h=>hg n-h) 0 ?_ ?_ ?_
 ·exact Nat.zero_le _
 ·exact(Sv [0,3] rfl)
 intro h hle
 refine QS (GT (RV 2 rfl ?_));refine RS (ok_call (rCount_fn n h1 h2 h hle) (A2 rfl rfl)) ?_;refine RVN 1 rfl ?_;refine A.cond rfl (fun hc7=>?_) (fun hc7=>?_)
 ·have hlt:h<hg n:=by
   have h3:=un_root h1 h2
   have h4:un n (h+1)≠1:=by simp at hc7; omega
   rcases Nat.lt_or_ge h (hg n) with h5|h5
   ·exact h5
   ·obtain rfl:h=hg n:=by omega
    exact absurd h3 h4
  refine QK (A.block (GTE (RV 2 rfl ?_)));refine Rw (h+1) ?_;refine RVN 1 rfl ?_;refine End.normal_block (End.normal_then ?_);refine End.again (h+1) ?_ ?_ ?_
  ·show _<=_; omega
  ·show _-_<_-_; omega
  ·exact(Sv [0,3] rfl)
 ·have hie:h=hg n:=un_one hle (by simp at hc7; omega)
  refine A.exit (End.exit_then (End.exit_then (End.exit_here (EN (GT (RM rfl ?_))))));refine RZ (nI (hg n)) (by rw[hie]) ?_;refine RVN 1 rfl ?_;refine A.ret ?_;exact ER rfl rfl
theorem rParts_fn(n:Nat)(h1:1<=n)(h2:n<=4096)(l j:Nat)(hl:l<=hg n)(hj:j<un n (l+1)): Fn Tryz.prog 55 [.v (nI (n)),.v (nI (l)),.v (nI (j))] (.v (nI (pts n l j))):=by
 have hu0:=un_le h1 (l)
 have hv0:=un_pos h1 (l)
 have hu1:=un_le h1 (l+1)
 have hv1:=un_pos h1 (l+1)
 have hh:=hg_le n
 have hp:=pts_pos hj
 refine FV Tryz.func55 rfl Tryz.ntmps55 rfl fun w₀=>?_
 refine GV rfl (GV rfl (QS (GV rfl ?_)));refine A.cond rfl (fun hc12=>?_) (fun hc12=>?_)
 ·have hl0:0<l:=by simp at hc12; omega
  refine GTE (RV 3 rfl ?_);refine Rw (l-1) ?_;refine RS (ok_call (rCount_fn n h1 h2 (l-1) (by omega)) (A2 rfl rfl)) ?_;refine RZ (nI (un n l)) (by rw[show l-1+1=l from by omega]) ?_;refine RVN 1 rfl ?_;refine EN (GV rfl (QS (GV rfl (A.block ?_))));refine A.loop (ι:=Nat) (fun i=>i<=4) (fun i=>[(2,.v (nI (j))),(7,.v (nI (un n l))),(8,.v (nI (min (un n l-4*j) (i)))),(9,.v (nI (i)))]) (fun i=>4-i) 0 ?_ ?_ ?_
  ·exact Nat.zero_le _
  ·exact(KC 2 rfl (KE 7 rfl (by first|rfl|(rw[hl0]; rfl)) (KE 8 rfl (congrArg (fun z:Int=>D.v (.int .i64 z)) (show(0:Int)=_ by omega)) (KC 9 rfl KN))))
  intro i hi
  refine QS (GV rfl ?_);refine A.cond rfl (fun hc18=>?_) (fun hc18=>?_)
  ·have hlt:i<4:=by simp at hc18; omega
   refine QK (QSB (GT (RV 2 rfl ?_)));refine Rw (4*j) ?_;refine RV 2 rfl ?_;refine Rw (4*j+i) ?_;refine RVN 2 rfl ?_;refine A.cond rfl (fun hc26=>?_) (fun hc26=>?_)
   ·have hin:4*j+i<un n l:=by simp at hc26; omega
    refine GTE (RV 2 rfl ?_);refine RZ (nI (min (un n l-4*j) (i+1))) (wrap_eq (by omega) (by omega)) ?_;refine RVN 1 rfl ?_;refine End.normal_block (EN (GTE (RV 2 rfl ?_)));refine Rw (i+1) ?_;refine RVN 1 rfl ?_;refine End.normal_then ?_;refine End.again (i+1) ?_ ?_ ?_
    ·show _<=_; omega
    ·show _-_<_-_; omega
    ·exact(KC 2 rfl (KC 7 rfl (KE 8 rfl (by first|rfl|exact congrArg (fun z:Int=>D.v (.int .i64 z)) (by omega)) (KC 9 rfl KN))))
   ·have hin:¬ 4*j+i<un n l:=by simp at hc26; omega
    refine A.skip (End.normal_block (EN (GTE (RV 2 rfl ?_))));refine Rw (i+1) ?_;refine RVN 1 rfl ?_;refine End.normal_then ?_;refine End.again (i+1) ?_ ?_ ?_
    ·show _<=_; omega
    ·show _-_<_-_; omega
    ·exact(KC 2 rfl (KC 7 rfl (KE 8 rfl (by first|rfl|exact congrArg (fun z:Int=>D.v (.int .i64 z)) (by omega)) (KC 9 rfl KN))))
  ·have hie:i=4:=by simp at hc18; omega
   refine A.exit (End.exit_then (End.exit_then (End.exit_here (EN (GT (RM rfl ?_))))));refine RZ (nI (pts n l j)) (congrArg (Value.int .i64) (by unfold pts; omega)) ?_;refine RVN 1 rfl ?_;refine A.ret ?_;exact ER rfl rfl
 ·have hl0:l=0:=by simp at hc12; omega
  refine QK (GV rfl (QS (GV rfl (A.block ?_))));refine A.loop (ι:=Nat) (fun i=>i<=4) (fun i=>[(2,.v (nI (j))),(7,.v (nI (un n l))),(8,.v (nI (min (un n l-4*j) (i)))),(9,.v (nI (i)))]) (fun i=>4-i) 0 ?_ ?_ ?_
  ·exact Nat.zero_le _
  ·exact(KC 2 rfl (KE 7 rfl (by first|rfl|(rw[hl0]; rfl)) (KE 8 rfl (congrArg (fun z:Int=>D.v (.int .i64 z)) (show(0:Int)=_ by omega)) (KC 9 rfl KN))))
  intro i hi
  refine QS (GV rfl ?_);refine A.cond rfl (fun hc18=>?_) (fun hc18=>?_)
  ·have hlt:i<4:=by simp at hc18; omega
   refine QK (QSB (GT (RV 2 rfl ?_)));refine Rw (4*j) ?_;refine RV 2 rfl ?_;refine Rw (4*j+i) ?_;refine RVN 2 rfl ?_;refine A.cond rfl (fun hc26=>?_) (fun hc26=>?_)
   ·have hin:4*j+i<un n l:=by simp at hc26; omega
    refine GTE (RV 2 rfl ?_);refine RZ (nI (min (un n l-4*j) (i+1))) (wrap_eq (by omega) (by omega)) ?_;refine RVN 1 rfl ?_;refine End.normal_block (EN (GTE (RV 2 rfl ?_)));refine Rw (i+1) ?_;refine RVN 1 rfl ?_;refine End.normal_then ?_;refine End.again (i+1) ?_ ?_ ?_
    ·show _<=_; omega
    ·show _-_<_-_; omega
    ·exact(KC 2 rfl (KC 7 rfl (KE 8 rfl (by first|rfl|exact congrArg (fun z:Int=>D.v (.int .i64 z)) (by omega)) (KC 9 rfl KN))))
   ·have hin:¬ 4*j+i<un n l:=by simp at hc26; omega
    refine A.skip (End.normal_block (EN (GTE (RV 2 rfl ?_))));refine Rw (i+1) ?_;refine RVN 1 rfl ?_;refine End.normal_then ?_;refine End.again (i+1) ?_ ?_ ?_
    ·show _<=_; omega
    ·show _-_<_-_; omega
    ·exact(KC 2 rfl (KC 7 rfl (KE 8 rfl (by first|rfl|exact congrArg (fun z:Int=>D.v (.int .i64 z)) (by omega)) (KC 9 rfl KN))))
  ·have hie:i=4:=by simp at hc18; omega
   refine A.exit (End.exit_then (End.exit_then (End.exit_here (EN (GT (RM rfl ?_))))));refine RZ (nI (pts n l j)) (congrArg (Value.int .i64) (by unfold pts; omega)) ?_;refine RVN 1 rfl ?_;refine A.ret ?_;exact ER rfl rfl
theorem rBase_fn(n:Nat)(h1:1<=n)(h2:n<=4096)(l:Nat)(hl:l<=hg n+1): Fn Tryz.prog 79 [.v (nI (n)),.v (nI (l))] (.v (nI (bs n l))):=by
 have hh:=hg_le n
 refine FV Tryz.func79 rfl Tryz.ntmps79 rfl fun w₀=>?_
 refine GV rfl (GT (RV 2 rfl ?_));refine RZ (nI (bs n 0)) (wrap_eq (by rw[bs_zero]; omega) (by rw[bs_zero]; omega)) ?_;refine RVN 1 rfl ?_;refine QS (GV rfl (A.block ?_));refine A.loop (ι:=Nat) (fun i=>i<=l) (fun i=>[(0,.v (nI (n))),(1,.v (nI (l))),(5,.v (nI (bs n i))),(6,.v (nI (i)))]) (fun i=>l-i) 0 ?_ ?_ ?_
 ·exact Nat.zero_le _
 ·exact(Sv [0,1,5,6] rfl)
 intro i hi
 have hu0:=un_le h1 (i+1)
 have hv0:=un_pos h1 (i+1)
 refine QS (GV rfl ?_);refine A.cond rfl (fun hc11=>?_) (fun hc11=>?_)
 ·have hlt:i<l:=by simp at hc11; omega
  refine QK (QSB (GTE (RV 3 rfl ?_)));refine RS (ok_call (rCount_fn n h1 h2 i (by omega)) (A2 rfl rfl)) ?_;refine RB rfl rfl rfl ?_;refine RZ (nI (2*un n (i+1))) (wrap_eq (by omega) (by omega)) ?_;refine RB rfl rfl rfl ?_;refine RZ (nI (bs n (i+1))) (wrap_eq (by rw[bs_succ]; omega) (by have:=bs_small h1 h2 (l:=i+1) (by omega); omega)) ?_;refine RVN 1 rfl ?_;refine End.normal_block (EN (GTE (RV 2 rfl ?_)));refine Rw (i+1) ?_;refine RVN 1 rfl ?_;refine End.normal_then ?_;refine End.again (i+1) ?_ ?_ ?_
  ·show _<=_; omega
  ·show _-_<_-_; omega
  ·exact(Sv [0,1,5,6] rfl)
 ·obtain rfl:i=l:=by simp at hc11; omega
  refine A.exit (End.exit_then (End.exit_then (End.exit_here (EN (GV rfl (A.ret ?_))))));exact ER rfl rfl
theorem rNode_fn(n:Nat)(h1:1<=n)(h2:n<=4096)(l j:Nat)(hl:l<=hg n)(hj:j<un n (l+1))(s:Nat)(hs:s<2): Fn Tryz.prog 46 [.v (nI (n)),.v (nI (l)),.v (nI (j)),.v (nI (s))] (.v (nI (bs n l+2*j+s))):=by
 have hu0:=un_le h1 (l+1)
 have hv0:=un_pos h1 (l+1)
 have hh:=hg_le n
 have hb:=bs_small h1 h2 (l:=l) (by omega)
 refine FV Tryz.func46 rfl Tryz.ntmps46 rfl fun w₀=>?_
 refine GV rfl (GT (RV 2 rfl ?_));refine RS (ok_call (rBase_fn n h1 h2 l (by omega)) (A2 rfl rfl)) ?_;refine RV 2 rfl ?_;refine Rw (2*j) ?_;refine RB rfl rfl rfl ?_;refine Rw (bs n l+2*j) ?_;refine RV 2 rfl ?_;refine Rw (bs n l+2*j+s) ?_;refine RVN 1 rfl ?_;refine A.ret ?_;exact ER rfl rfl
theorem rData_fn(x s:Nat)(hx:x<4096)(hs:s<2): Fn Tryz.prog 43 [.v (nI (x)),.v (nI (s))] (.v (nI (2*x+s))):=by
 refine FV Tryz.func43 rfl Tryz.ntmps43 rfl fun w₀=>?_
 refine GV rfl (GT (RV 2 rfl ?_));refine Rw (2*x) ?_;refine RV 2 rfl ?_;refine Rw (2*x+s) ?_;refine RVN 1 rfl ?_;refine A.ret ?_;exact ER rfl rfl
theorem rSectors_fn(n:Nat)(h1:1<=n)(h2:n<=4096): Fn Tryz.prog 34 [.v (nI (n))] (.v (nI (bs n (hg n+1)))):=by
 have hh:=hg_le n
 refine FV Tryz.func34 rfl Tryz.ntmps34 rfl fun w₀=>?_
 refine GV rfl (GT (RV 2 rfl ?_));refine RS (ok_call (rHeight_fn n h1 h2) (A1 rfl)) ?_;refine RB rfl rfl rfl ?_;refine Rw (hg n+1) ?_;refine RS (ok_call (rBase_fn n h1 h2 (hg n+1) (Nat.le_refl _)) (A2 rfl rfl)) ?_;refine RVN 1 rfl ?_;refine A.ret ?_;exact ER rfl rfl
theorem rIndex_fn(x l:Nat)(hx:x<4096)(hl:l<=5): Fn Tryz.prog 17 [.v (nI (x)),.v (nI (l))] (.v (nI (x / 4^(l+1)))):=by
 refine FV Tryz.func17 rfl Tryz.ntmps17 rfl fun w₀=>?_
 refine GV rfl (GT (RM rfl ?_));refine RS (ok_div rfl rfl (by decide)) ?_;refine RZ (nI (x / 4^(0+1))) (by rw[tdiv_lit _ (by decide)]; exact wrap_eq (by simp) (by omega)) ?_;refine RVN 1 rfl ?_;refine QS (GV rfl (A.block ?_));refine A.loop (ι:=Nat) (fun i=>i<=l) (fun i=>[(1,.v (nI (l))),(5,.v (nI (x / 4^(i+1)))),(6,.v (nI (i)))]) (fun i=>l-i) 0 ?_ ?_ ?_
 ·exact Nat.zero_le _
 ·exact(Sv [1,5,6] rfl)
 intro i hi
 refine QS (GV rfl ?_);refine A.cond rfl (fun hc11=>?_) (fun hc11=>?_)
 ·have hlt:i<l:=by simp at hc11; omega
  refine QK (QSB (GTE (RM rfl ?_)));refine RS (ok_div rfl rfl (by decide)) ?_;refine RZ (nI (x / 4^(i+1+1))) (by rw[tdiv_lit _ (by decide),show Int.toNat 4=4 from rfl,Nat.div_div_eq_div_mul,<- Nat.pow_succ]; exact wrap_eq rfl (by have:=Nat.div_le_self x (4^(i+1+1)); omega)) ?_;refine RVN 1 rfl ?_;refine End.normal_block (EN (GTE (RV 2 rfl ?_)));refine Rw (i+1) ?_;refine RVN 1 rfl ?_;refine End.normal_then ?_;refine End.again (i+1) ?_ ?_ ?_
  ·show _<=_; omega
  ·show _-_<_-_; omega
  ·exact(Sv [1,5,6] rfl)
 ·obtain rfl:i=l:=by simp at hc11; omega
  refine A.exit (End.exit_then (End.exit_then (End.exit_here (EN (GV rfl (A.ret ?_))))));exact ER rfl rfl
section
theorem be4(v:Nat): be 4 v=[UInt8.ofNat (v / 16777216),UInt8.ofNat (v / 65536),UInt8.ofNat (v / 256),UInt8.ofNat v]:=by simp[be,List.range,List.range.loop]
theorem add_u8(s:UInt8)(n:Nat): Value.int .u8 (IntKind.u8.wrap (((s.toNat:Nat):Int)+(((UInt8.ofNat n).toNat:Nat):Int)))=byteV (UInt8.ofNat (s.toNat+n)):=by
 rw[<- Int.natCast_add,wrap_u8_nat,byteV]
 congr 3
 apply UInt8.toNat_inj.1
 rw[UInt8.toNat_ofNat',UInt8.toNat_ofNat',UInt8.toNat_ofNat',Nat.add_mod_mod]
set_option maxHeartbeats 2000000 in
theorem rBytes_R(x:NodT)(hx:x.Fit)(h0:x.l.toNat=0): Fn Tryz.prog 37 [.v (aggV x.v)] (byt x.bl):=by
 refine FV Tryz.func37 rfl Tryz.ntmps37 rfl fun w₀=>?_
 refine GS (TN 0 (RN ?_));refine ZB 1000001 rfl fun b1 ⟨hBb1,hb1⟩=>?_
 refine TL (RVN 1 rfl ?_);refine GT (Rf field72_0 ?_);refine RLV 1000001 U5 rfl rfl rfl ?_;refine Rf field72_1 ?_;refine RLV 1000001 U53 rfl rfl rfl ?_;refine RS (ok_shr rfl rfl (by decide)) ?_;refine RZ (nW (x.j / 16777216)) (by rw[show min (24:Int).toNat IntKind.u32.bits=24 from rfl,shr_nat]) ?_;refine RS (ok_conv U53 U5 rfl) ?_;refine RZ (byteV (UInt8.ofNat (x.j / 16777216))) (by rw[wrap_u8_nat]; rfl) ?_;refine Rf field72_1 ?_;refine RLV 1000001 U53 rfl rfl rfl ?_;refine RS (ok_shr rfl rfl (by decide)) ?_;refine RZ (nW (x.j / 65536)) (by rw[show min (16:Int).toNat IntKind.u32.bits=16 from rfl,shr_nat]) ?_;refine RS (ok_conv U53 U5 rfl) ?_;refine RZ (byteV (UInt8.ofNat (x.j / 65536))) (by rw[wrap_u8_nat]; rfl) ?_;refine Rf field72_1 ?_;refine RLV 1000001 U53 rfl rfl rfl ?_;refine RS (ok_shr rfl rfl (by decide)) ?_;refine RZ (nW (x.j / 256)) (by rw[show min (8:Int).toNat IntKind.u32.bits=8 from rfl,shr_nat]) ?_;refine RS (ok_conv U53 U5 rfl) ?_;refine RZ (byteV (UInt8.ofNat (x.j / 256))) (by rw[wrap_u8_nat]; rfl) ?_;refine Rf field72_1 ?_;refine RLV 1000001 U53 rfl rfl rfl ?_;refine RS (ok_conv U53 U5 rfl) ?_;refine RZ (byteV (UInt8.ofNat (x.j))) (by rw[wrap_u8_nat]; rfl) ?_;refine RS (ok_buildOwn [byteV x.l,byteV (UInt8.ofNat (x.j / 16777216)),byteV (UInt8.ofNat (x.j / 65536)),byteV (UInt8.ofNat (x.j / 256)),byteV (UInt8.ofNat x.j)] U23 info5 rfl (by decide) (by decide) rfl ⟨rfl,rfl,rfl,rfl,rfl,rfl,rfl,rfl,rfl,rfl,trivial⟩ (fun d hd=>by simp only[List.mem_cons,List.not_mem_nil,or_false] at hd; rcases hd with rfl|rfl|rfl|rfl|rfl<;>rfl)) ?_;refine RVN 1 rfl ?_;refine QS (GV rfl (A.block ?_));refine A.loop (ι:=Nat) (fun i=>i<=4) (fun i=>[(1,.v (ptr b1)),(3,own w₀.heap.size 5 (5+45*i) (((x.l::be 4 x.j)++(x.R.take i).flatMap RecT.l).map byteV)),(4,.v (nI (i))),(1000001,blk b1 72 x.v)]) (fun i=>4-i) 0 ?_ ?_ ?_
 ·exact Nat.zero_le _
 ·exact(KC 1 rfl (KE 3 rfl (show own _ _ _ _=own _ _ _ _ from congrArg _ (by rw[List.take_zero,List.flatMap_nil,List.append_nil,be4]; rfl)) (KE 4 rfl (by rfl) (KC 1000001 rfl KN))))
 intro i hG
 refine QS (GV rfl ?_);refine A.cond rfl (fun hc24=>?_) (fun hc24=>?_)
 ·have hi:i<4:=by simp at hc24; omega
  refine QK (QSB (GT (Rf field72_0 ?_)));refine RLV 1000001 U5 rfl rfl rfl ?_;refine RB rfl rfl rfl ?_;refine RZ (.bool true) (by simp[h0]) ?_;refine RN (A.yes rfl ?_);refine GE (TF 6 (RV 2 rfl ?_));refine Rf field72_2 ?_;refine RS (ok_indexN (i) U67 size57 rfl rfl (rfl) (hi)) ?_;refine RS (ok_loadP (s:=1000001) (by decide) U57 rfl size57 rfl rfl (by rw[hx.len]; omega) (hx.rec_at hi)) ?_;refine RS (ok_call (refRecord_fn (x.r i).x (x.r i).s (x.r i).c (x.r i).t (hx.r i).t (hx.r i).s (hx.r i).c) (A1 rfl)) ?_;refine RN ?_;refine⟨_,eff_appendS (vs:=((x.r i).l.map byteV)) U23 info5 (by decide) rfl rfl rfl (Le.eq (byt_vals _)) (by simp[byteV,Value.oneCell']) (by rw[List.length_map,(hx.r i).lenL]; omega) (by decide) (fun g hg=>(LT 1000001 rfl (LW [1,4] rfl))),?_⟩
  refine TL (RVN 1 rfl ?_);refine End.normal_block (EN (GTE (RV 2 rfl ?_)));refine Rw (i+1) ?_;refine RVN 1 rfl ?_;refine End.normal_then ?_;refine End.again (i+1) ?_ ?_ ?_
  ·show _<=_; omega
  ·show _-_<_-_; omega
  ·exact(KC 1 rfl (KE 3 rfl (show own _ _ _ _=own _ _ _ _ from by rw[List.length_map,(hx.r i).lenL,take_flat hx.lr hi (z:=RecT.zero),<- List.append_assoc,List.map_append (l₁:=(x.l::be 4 x.j)++_),show 5+45*(i+1)=5+45*i+45 from by omega]; rfl) (KC 4 rfl (KC 1000001 rfl KN))))
 ·have hi2:i=4:=by simp at hc24; omega
  refine A.exit (End.exit_then (End.exit_then (End.exit_here (EN (GV rfl (A.ret ?_))))))
  subst hi2
  exact End.ret1 rfl rfl ((own_byt (by rw[List.take_of_length_le (Nat.le_of_eq hx.lr),List.length_append,flat_length (RecT.lensL hx.fr),hx.lr,List.length_cons,be_length])).trans (Le.eq (congrArg byt (by rw[List.take_of_length_le (Nat.le_of_eq hx.lr)]; unfold NodT.bl; rw[if_pos h0]; rfl))))
set_option maxHeartbeats 2000000 in
theorem rBytes_E(x:NodT)(hx:x.Fit)(h0:¬ x.l.toNat=0): Fn Tryz.prog 37 [.v (aggV x.v)] (byt x.bl):=by
 refine FV Tryz.func37 rfl Tryz.ntmps37 rfl fun w₀=>?_
 refine GS (TN 0 (RN ?_));refine ZB 1000001 rfl fun b1 ⟨hBb1,hb1⟩=>?_
 refine TL (RVN 1 rfl ?_);refine GT (Rf field72_0 ?_);refine RLV 1000001 U5 rfl rfl rfl ?_;refine Rf field72_1 ?_;refine RLV 1000001 U53 rfl rfl rfl ?_;refine RS (ok_shr rfl rfl (by decide)) ?_;refine RZ (nW (x.j / 16777216)) (by rw[show min (24:Int).toNat IntKind.u32.bits=24 from rfl,shr_nat]) ?_;refine RS (ok_conv U53 U5 rfl) ?_;refine RZ (byteV (UInt8.ofNat (x.j / 16777216))) (by rw[wrap_u8_nat]; rfl) ?_;refine Rf field72_1 ?_;refine RLV 1000001 U53 rfl rfl rfl ?_;refine RS (ok_shr rfl rfl (by decide)) ?_;refine RZ (nW (x.j / 65536)) (by rw[show min (16:Int).toNat IntKind.u32.bits=16 from rfl,shr_nat]) ?_;refine RS (ok_conv U53 U5 rfl) ?_;refine RZ (byteV (UInt8.ofNat (x.j / 65536))) (by rw[wrap_u8_nat]; rfl) ?_;refine Rf field72_1 ?_;refine RLV 1000001 U53 rfl rfl rfl ?_;refine RS (ok_shr rfl rfl (by decide)) ?_;refine RZ (nW (x.j / 256)) (by rw[show min (8:Int).toNat IntKind.u32.bits=8 from rfl,shr_nat]) ?_;refine RS (ok_conv U53 U5 rfl) ?_;refine RZ (byteV (UInt8.ofNat (x.j / 256))) (by rw[wrap_u8_nat]; rfl) ?_;refine Rf field72_1 ?_;refine RLV 1000001 U53 rfl rfl rfl ?_;refine RS (ok_conv U53 U5 rfl) ?_;refine RZ (byteV (UInt8.ofNat (x.j))) (by rw[wrap_u8_nat]; rfl) ?_;refine RS (ok_buildOwn [byteV x.l,byteV (UInt8.ofNat (x.j / 16777216)),byteV (UInt8.ofNat (x.j / 65536)),byteV (UInt8.ofNat (x.j / 256)),byteV (UInt8.ofNat x.j)] U23 info5 rfl (by decide) (by decide) rfl ⟨rfl,rfl,rfl,rfl,rfl,rfl,rfl,rfl,rfl,rfl,trivial⟩ (fun d hd=>by simp only[List.mem_cons,List.not_mem_nil,or_false] at hd; rcases hd with rfl|rfl|rfl|rfl|rfl<;>rfl)) ?_;refine RVN 1 rfl ?_;refine QS (GV rfl (A.block ?_));refine A.loop (ι:=Nat) (fun i=>i<=4) (fun i=>[(1,.v (ptr b1)),(3,own w₀.heap.size 5 (5+33*i) (((x.l::be 4 x.j)++(x.E.take i).flatMap EntT.l).map byteV)),(4,.v (nI (i))),(1000001,blk b1 72 x.v)]) (fun i=>4-i) 0 ?_ ?_ ?_
 ·exact Nat.zero_le _
 ·exact(KC 1 rfl (KE 3 rfl (show own _ _ _ _=own _ _ _ _ from congrArg _ (by rw[List.take_zero,List.flatMap_nil,List.append_nil,be4]; rfl)) (KE 4 rfl (by rfl) (KC 1000001 rfl KN))))
 intro i hG
 refine QS (GV rfl ?_);refine A.cond rfl (fun hc24=>?_) (fun hc24=>?_)
 ·have hi:i<4:=by simp at hc24; omega
  refine QK (QSB (GT (Rf field72_0 ?_)));refine RLV 1000001 U5 rfl rfl rfl ?_;refine RB rfl rfl rfl ?_;refine RZ (.bool false) (by simp; omega) ?_;refine RN (A.no rfl ?_);refine GE (TF 6 (RV 2 rfl ?_));refine Rf field72_3 ?_;refine RS (ok_indexN (i) U70 size69 rfl rfl (rfl) (hi)) ?_;refine RS (ok_loadP (s:=1000001) (by decide) U69 rfl size69 rfl rfl (by rw[hx.len]; omega) (hx.ent_at hi)) ?_;refine RS (ok_call (refEntry_fn (x.e i).x (x.e i).t (hx.e i).t) (A1 rfl)) ?_;refine RN ?_;refine⟨_,eff_appendS (vs:=((x.e i).l.map byteV)) U23 info5 (by decide) rfl rfl rfl (Le.eq (byt_vals _)) (by simp[byteV,Value.oneCell']) (by rw[List.length_map,(hx.e i).lenL]; omega) (by decide) (fun g hg=>(LT 1000001 rfl (LW [1,4] rfl))),?_⟩
  refine TL (RVN 1 rfl ?_);refine End.normal_block (EN (GTE (RV 2 rfl ?_)));refine Rw (i+1) ?_;refine RVN 1 rfl ?_;refine End.normal_then ?_;refine End.again (i+1) ?_ ?_ ?_
  ·show _<=_; omega
  ·show _-_<_-_; omega
  ·exact(KC 1 rfl (KE 3 rfl (show own _ _ _ _=own _ _ _ _ from by rw[List.length_map,(hx.e i).lenL,take_flat hx.le hi (z:=EntT.zero),<- List.append_assoc,List.map_append (l₁:=(x.l::be 4 x.j)++_),show 5+33*(i+1)=5+33*i+33 from by omega]; rfl) (KC 4 rfl (KC 1000001 rfl KN))))
 ·have hi2:i=4:=by simp at hc24; omega
  refine A.exit (End.exit_then (End.exit_then (End.exit_here (EN (GV rfl (A.ret ?_))))))
  subst hi2
  exact End.ret1 rfl rfl ((own_byt (by rw[List.take_of_length_le (Nat.le_of_eq hx.le),List.length_append,flat_length (EntT.lensL hx.fe),hx.le,List.length_cons,be_length])).trans (Le.eq (congrArg byt (by rw[List.take_of_length_le (Nat.le_of_eq hx.le)]; unfold NodT.bl; rw[if_neg h0]; rfl))))
theorem rBytes_fn(x:NodT)(hx:x.Fit): Fn Tryz.prog 37 [.v (aggV x.v)] (byt x.bl):=by
 by_cases h:x.l.toNat=0
 ·exact rBytes_R x hx h
 ·exact rBytes_E x hx h
theorem rDigest_fn(x:NodT)(hx:x.Fit)(h5:x.l.toNat<=5): Fn Tryz.prog 27 [.v (aggV x.v)] (.v (aggV ((sha x.bl).map byteV))):=by
 refine FV Tryz.func27 rfl Tryz.ntmps27 rfl fun w₀=>?_
 refine GS (TN 0 (RN ?_));refine ZB 1000001 rfl fun b1 ⟨hBb1,hb1⟩=>?_
 refine TN 1 (RN ?_);refine ZN 1000002 zero32 fun b2 ⟨hBb2,hb2⟩=>?_
 refine TL (RN (GS (TF 3 (RL 1000001 U72 rfl rfl (size72.of (hx.len)) ?_))));refine RS (ok_call (rBytes_fn x hx) (A1 rfl)) ?_;refine RS (ok_call (refSum_fn x.bl (by rw[hx.bl_length]; have:=sz_le x.l.toNat; omega)) (Args.cons rfl LA Args.nil)) ?_;refine RN ?_;refine⟨_,eff_storeA (n:=6) (s:=1000002) (size32.of (by rw[List.length_map,sha_length])) rfl rfl (all_bytes _) hBb2 rfl (by rw[List.length_map,sha_length]; rfl) (LV 2 rfl (LT 1000001 rfl LN)),?_⟩
 refine TL (RN (A.ret ?_));exact End.cell1 (s:=1000002) rfl U32 rfl (size32.of (by rw[List.length_map,sha_length])) rfl rfl (Le.refl _)
end
section
theorem emp_e15{a:UInt8}: ((NodT.emp a j).e i).Z:=by unfold NodT.e NodT.emp; simp only; rw[ze_get]; exact EntT.z_iff.2 rfl
theorem emp_r15{a:UInt8}: ((NodT.emp a j).r i).Z:=by unfold NodT.r NodT.emp; simp only; rw[zr_get]; exact RecT.z_iff.2 rfl
theorem emp_ck15{a:UInt8}(h:a.toNat<=5)(j:Nat): (NodT.emp a j).ck=0:=by
 by_cases h0:a.toNat=0
 ·exact NodT.ok_R h0 (fun i _=>emp_e15) fun i _=>by rw[RecT.z_iff.1 emp_r15]; exact RecT.zero_ok
 ·exact NodT.ok_E (by show ¬ 5<a.toNat; omega) h0 (fun i _=>emp_r15) fun i _=>by rw[EntT.z_iff.1 emp_e15]; exact EntT.zero_ok
def hgB (n:Nat):UInt8:=UInt8.ofNat (hg n)
theorem Slot_fn(c:CelT)(hc:c.Fit): Fn Tryz.prog 62 [.v (aggV c.v)] (.v (nI (c.e%2))):=by
 refine FV Tryz.func62 rfl Tryz.ntmps62 rfl fun w₀=>?_
 refine GS (TN 0 (RN ?_));refine ZB 1000001 rfl fun b1 ⟨hBb1,hb1⟩=>?_
 refine TL (RVN 1 rfl ?_);refine GT (Rf field35_1 ?_);refine RS (ok_loadV (s:=1000001) (by decide) U33 rfl rfl rfl (hc.ve)) ?_;refine RS (ok_rem rfl rfl (by decide)) ?_;refine RZ (nQ (c.e%2)) (by rw[tmod_lit _ (by decide)]; rfl) ?_;refine RS (ok_conv U33 U3 rfl) ?_;refine RZ (nI (c.e%2)) (wrap_eq rfl (by omega)) ?_;refine RVN 1 rfl ?_;refine A.ret ?_;exact ER rfl rfl
end
section
def lev (n i:Nat):Nat:=if i<tot n 1 then 0 else if i<tot n 2 then 1 else if i<tot n 3 then 2 else if i<tot n 4 then 3 else if i<tot n 5 then 4 else 5
def idx (n i:Nat):Nat:=i-tot n (lev n i)
theorem lev_mid(hl:l<=5)(h1:tot n l<=i)(h2:i<tot n (l+1)): lev n i=l:=by
 have m1:=tot_mono (n:=n) (show 0<=1 by decide)
 have m2:=tot_mono (n:=n) (show 1<=2 by decide)
 have m3:=tot_mono (n:=n) (show 2<=3 by decide)
 have m4:=tot_mono (n:=n) (show 3<=4 by decide)
 have m5:=tot_mono (n:=n) (show 4<=5 by decide)
 have hc:l=0∨l=1∨l=2∨l=3∨l=4∨l=5:=by omega
 unfold lev
 rcases hc with rfl|rfl|rfl|rfl|rfl|rfl
 ·rw[if_pos h2]
 ·rw[if_neg (by omega),if_pos h2]
 ·rw[if_neg (by omega),if_neg (by omega),if_pos h2]
 ·rw[if_neg (by omega),if_neg (by omega),if_neg (by omega),if_pos h2]
 ·rw[if_neg (by omega),if_neg (by omega),if_neg (by omega),if_neg (by omega),if_pos h2]
 ·rw[if_neg (by omega),if_neg (by omega),if_neg (by omega),if_neg (by omega),if_neg (by omega)]
theorem lev_at(hl:l<=5)(hj:j<un n (l+1)): lev n (tot n l+j)=l:=lev_mid hl (by omega) (by rw[tot_succ]; omega)
theorem idx_at(hl:l<=5)(hj:j<un n (l+1)): idx n (tot n l+j)=j:=by unfold idx; rw[lev_at hl hj]; omega
theorem numP_lt(hl:l<=hg n)(hj:j<un n (l+1)): tot n l+j<tot n (hg n+1):=by
 have:=tot_mono (n:=n) (show l+1<=hg n+1 by omega)
 rw[tot_succ] at this
 omega
theorem tot_pos(h:1<=n): 0<tot n (hg n+1):=by have h1:=un_pos h (0+1); have:=numP_lt (n:=n) (l:=0) (j:=0) (Nat.zero_le _) (by omega); omega
theorem un_top(h1:1<=n)(h2:n<=4096): tot n (hg n)+0+1=tot n (hg n+1):=by rw[tot_succ,un_root h1 h2]
theorem kid_ok{w:Nat}(hw:w<pts n (l+1) j): 4*j+w<un n (l+1):=by unfold pts at hw; omega
theorem pts_le(n l j:Nat): pts n l j<=4:=by unfold pts; omega
def nodsV (T:List NodT):List Value:=T.flatMap NodT.v
def ndAt (T:List NodT) (i:Nat):NodT:=T.getD i (NodT.emp 0 0)
def FitT (T:List NodT):Prop:=∀ x∈T,x.Fit
theorem FitT.lens{T:List NodT}(h:FitT T): ∀ x∈T,x.v.length=274:=fun x hx=>(h x hx).len
theorem nods_len{T:List NodT}(h:FitT T): (nodsV T).length=T.length*274:=flat_length h.lens
theorem FitT.at{T:List NodT}(h:FitT T)(i:Nat): (ndAt T i).Fit:=by
 unfold ndAt
 rw[List.getD_eq_getElem?_getD]
 cases hi:T[i]? with
 | none=>exact NodT.emp_fit 0 (by decide)
 | some x=>exact h x (List.mem_of_getElem? hi)
theorem nods_at{T:List NodT}(h:FitT T)(hi:i<T.length): ((nodsV T).drop (i*274)).take 274=(ndAt T i).v:=flat_getD h.lens hi _
def recAt (R:List RecT) (i:Nat):RecT:=R.getD i RecT.zero
def FitR (R:List RecT):Prop:=∀ r∈R,r.Fit
theorem FitR.at{R:List RecT}(h:FitR R)(i:Nat): (recAt R i).Fit:=by
 unfold recAt
 rw[List.getD_eq_getElem?_getD]
 cases hi:R[i]? with
 | none=>exact RecT.zero_fit
 | some x=>exact h x (List.mem_of_getElem? hi)
theorem recs_len{R:List RecT}(h:FitR R): (recsV R).length=R.length*35:=flat_length (RecT.lens h)
theorem recs_at{R:List RecT}(h:FitR R)(hi:i<R.length): ((recsV R).drop (i*35)).take 35=(recAt R i).v:=flat_getD (RecT.lens h) hi _
def emF (n:Nat) (f:Nat->RecT) (l j:Nat):Bool:=decide (∀ i,i<n->i / 4^(l+1)=j->(f i).x.toNat=0)
theorem emF_iff{f:Nat->RecT}: emF n f l j=true↔∀ i,i<n->i / 4^(l+1)=j->(f i).x.toNat=0:=by unfold emF; rw[decide_eq_true_iff]
theorem div_lt_un(h:i<n)(l:Nat): i / 4^l<un n l:=(un_lt n l _).2 (Nat.lt_of_le_of_lt (Nat.div_mul_le_self i _) h)
def entR (s:Nat) (x:NodT):EntT:=⟨UInt8.ofNat (s+1),sha x.bl⟩
def grpR (R:List RecT) (j:Nat):NodT:=⟨0,j,pg RecT.zero (fun w=>recAt R (4*j+w)) (pts R.length 0 j),zerosE⟩
def nodR (R:List RecT) (S:List Nat):Nat->Nat->NodT
 | 0,j=>grpR R j
 | l+1,j=>⟨UInt8.ofNat (l+1),j,zerosR,pg EntT.zero (fun w=>if emF R.length (recAt R) l (4*j+w) then EntT.zero else entR (S.getD (tot R.length l+(4*j+w)) 0) (nodR R S l (4*j+w))) (pts R.length (l+1) j)⟩
theorem nodR_succ(R:List RecT)(S:List Nat)(l j:Nat): nodR R S (l+1) j=⟨UInt8.ofNat (l+1),j,zerosR,pg EntT.zero (fun w=>if emF R.length (recAt R) l (4*j+w) then EntT.zero else entR (S.getD (tot R.length l+(4*j+w)) 0) (nodR R S l (4*j+w))) (pts R.length (l+1) j)⟩:=by rw[nodR]
theorem nodR_zero(R:List RecT)(S:List Nat)(j:Nat): nodR R S 0 j=grpR R j:=by rw[nodR]
theorem pg_fitR{f:Nat->RecT}(h:∀ i,(f i).Fit): ∀ r∈pg RecT.zero f k,r.Fit:=fun a ha=>by
 rcases pg_mem ha with e|⟨i,_,_,e⟩
 ·rw[e]; exact RecT.zero_fit
 ·rw[e]; exact h i
theorem pg_fitE{f:Nat->EntT}(h:∀ i,(f i).Fit): ∀ r∈pg EntT.zero f k,r.Fit:=fun a ha=>by
 rcases pg_mem ha with e|⟨i,_,_,e⟩
 ·rw[e]; exact EntT.zero_fit
 ·rw[e]; exact h i
theorem entR_fit(s:Nat)(x:NodT): (entR s x).Fit:=⟨sha_length _⟩
theorem sm8(h:k<256): (UInt8.ofNat k).toNat=k:=by rw[UInt8.toNat_ofNat',Nat.mod_eq_of_lt (by omega)]
theorem grpR_fit{R:List RecT}(hR:FitR R)(hj:j<4294967296): (grpR R j).Fit:=⟨hj,pg_length _ _ _,rfl,pg_fitR fun i=>hR.at _,NodT.ze_fit⟩
theorem nodR_fit{R:List RecT}(hR:FitR R)(S:List Nat)(hj:j<4294967296): (nodR R S l j).Fit:=by
 cases l with
 | zero=>rw[nodR_zero]; exact grpR_fit hR hj
 | succ l =>
  rw[nodR_succ]
  refine⟨hj,rfl,pg_length _ _ _,NodT.zr_fit,?_⟩
  dsimp only
  refine pg_fitE fun i=>?_
  split
  ·exact EntT.zero_fit
  ·exact entR_fit _ _
theorem nodR_l{R:List RecT}{S:List Nat}(hl:l<=5): (nodR R S l j).l.toNat=l:=by
 cases l with
 | zero=>rw[nodR_zero]; rfl
 | succ l=>rw[nodR_succ]; exact sm8 (by omega)
theorem tot_zero(n:Nat): tot n 0=0:=rfl
end
section
def OkS (S:List Nat):Prop:=∀ s∈S,s=0∨s=1
theorem OkS.at{S:List Nat}(h:OkS S)(i:Nat): S.getD i 0<=1:=by
 rw[List.getD_eq_getElem?_getD]
 cases hi:S[i]? with
 | none=>exact Nat.zero_le _
 | some x=>rcases h x (List.mem_of_getElem? hi) with rfl|rfl<;>decide
def pidx (n x i:Nat):Nat:=x / 4^(hg n-i+1)
theorem pidx_lt{x:Nat}(hx:x<n)(i:Nat): pidx n x i<un n (hg n-i+1):=div_lt_un hx _
theorem pidx_root{x:Nat}(h1:1<=n)(h2:n<=4096)(hx:x<n): pidx n x 0=0:=by
 have:=pidx_lt hx 0
 rw[Nat.sub_zero,un_root h1 h2] at this
 omega
end
section
end
section
theorem infoN: InfoP Tryz.prog 72 (aggV (NodT.emp 0 0).v) 274 368:=by unfold InfoP; kernel_rfl
end
section
variable {κ:Cx}
end
section
end
section
end
section
noncomputable instance:DecidableEq NodT:=fun a b=>Classical.propDecidable (a=b)
end
section
variable {κ:Cx}
theorem Le.blkR: Le (blk b e (xs++ys)) (memR (some ⟨b,0,none⟩) xs):=fun B w _ h j u hu=>by
 obtain⟨h1,h2⟩:=h
 refine⟨_,rfl,h1,?_⟩
 rw[show(⟨b,0,none⟩:Addr).add j=⟨b,j,none⟩ from by unfold Addr.add; split<;>simp_all]
 simp only[World.cell?,h2]
 have:(xs++ys)[j]?=some u:=by rw[List.getElem?_append_left (List.getElem?_eq_some_iff.1 hu).1]; exact hu
 simpa using this
abbrev P2:=UInt8×UInt8
def p2V (x:P2):List Value:=[byteV x.1,byteV x.2]
def p2R (q:List P2):List Value:=q.flatMap p2V
theorem p2_lens(q:List P2): ∀ x∈q,(p2V x).length=2:=fun _ _=>rfl
theorem p2R_len(q:List P2): (p2R q).length=q.length*2:=flat_length (p2_lens q)
def p2At (q:List P2) (i:Nat):P2:=q.getD i (0,0)
theorem p2R_at{q:List P2}(hi:i<q.length): ((p2R q).drop (i*2)).take 2=p2V (p2At q i):=flat_getD (p2_lens q) hi _
end
section
def slotV (S:List Nat):List Value:=S.map nI
theorem slotV_at{S:List Nat}(h:k<S.length): (slotV S)[k*1]?=some (nI (S.getD k 0)):=by
 unfold slotV
 rw[Nat.mul_one,List.getElem?_map,List.getElem?_eq_getElem h,List.getD_eq_getElem?_getD,List.getElem?_eq_getElem h]; rfl
abbrev recM (ad:Addr) (R:List RecT):Env:=[(1000801,memR (some ad) (recsV R))]
theorem buildEntB(x:UInt8)(t:List UInt8)(ht:t.length=32): Tryz.prog.built 69 [(0,byteV x),(1,aggV (t.map byteV))]=some (EntT.v ⟨x,t⟩).toArray:=by
 match t,ht with
 | [a0,a1,a2,a3,a4,a5,a6,a7,a8,a9,b0,b1,b2,b3,b4,b5,b6,b7,b8,b9,c0,c1,c2,c3,c4,c5,c6,c7,c8,c9,d0,d1],_=>show _=_; kernel_rfl
theorem emF_false{f:Nat->RecT}(hi:i<n)(hij:i / 4^(l+1)=j)(h:(f i).x.toNat≠0): emF n f l j=false:=by
 unfold emF
 exact decide_eq_false fun hh=>h (hh i hi hij)
theorem emF_true{f:Nat->RecT}(h:∀ i,i<n->i / 4^(l+1)=j->(f i).x.toNat=0): emF n f l j=true:=emF_iff.2 h
theorem recs_x{R:List RecT}(hR:FitR R)(hi:i<R.length): (recsV R)[i*35+0]?=some (byteV (recAt R i).x):=by
 have h:=recs_at hR hi
 have h2:(((recsV R).drop (i*35)).take 35)[0]?=some (byteV (recAt R i).x):=by rw[h]; rfl
 rwa [List.getElem?_take,if_pos (by decide),List.getElem?_drop] at h2
abbrev srM (rd:Addr) (R:List RecT) (sd:Addr) (S:List Nat):Env:=[(1000801,memR (some rd) (recsV R)),(1000701,memR (some sd) (slotV S))]
def grpW (R:List RecT) (j w:Nat):NodT:=⟨0,j,pg RecT.zero (fun v=>recAt R (4*j+v)) w,zerosE⟩
theorem grpW_fit{R:List RecT}(hR:FitR R)(hj:j<4294967296)(w:Nat): (grpW R j w).Fit:=⟨hj,pg_length _ _ _,rfl,pg_fitR fun i=>hR.at _,NodT.ze_fit⟩
theorem grpW_zero(R:List RecT)(j:Nat): grpW R j 0=NodT.emp 0 j:=by unfold grpW NodT.emp; rw[pg_zero]; rfl
theorem grpW_full(R:List RecT)(j:Nat): grpW R j (pts R.length 0 j)=grpR R j:=rfl
theorem grpW_set{R:List RecT}(hR:FitR R)(hj:j<4294967296){w:Nat}(hw:w<4): (grpW R j w).v.take (2+w*35)++(recAt R (4*j+w)).v++(grpW R j w).v.drop (2+w*35+(recAt R (4*j+w)).v.length)=(grpW R j (w+1)).v:=by
 rw[(grpW_fit hR hj w).set_rec hw (hR.at _)]
 unfold grpW
 dsimp only
 rw[pg_set RecT.zero (fun v=>recAt R (4*j+v)) hw]
def entD (R:List RecT) (S:List Nat) (l k:Nat):EntT:=if emF R.length (recAt R) l k then EntT.zero else entR (S.getD (tot R.length l+k) 0) (nodR R S l k)
theorem entD_fit(R:List RecT)(S:List Nat)(l k:Nat): (entD R S l k).Fit:=by
 unfold entD
 split
 ·exact EntT.zero_fit
 ·exact entR_fit _ _
theorem entD_no{R:List RecT}{S:List Nat}(h:emF R.length (recAt R) l k=false): entD R S l k=⟨UInt8.ofNat (S.getD (tot R.length l+k) 0+1),sha (nodR R S l k).bl⟩:=by unfold entD; rw[h]; rfl
def nodD (R:List RecT) (S:List Nat) (l j w:Nat):NodT:=⟨UInt8.ofNat (l+1),j,zerosR,pg EntT.zero (fun v=>entD R S l (4*j+v)) w⟩
theorem nodD_fit(R:List RecT)(S:List Nat)(l:Nat)(hj:j<4294967296)(w:Nat): (nodD R S l j w).Fit:=⟨hj,rfl,pg_length _ _ _,NodT.zr_fit,pg_fitE fun i=>entD_fit _ _ _ _⟩
theorem nodD_zero(R:List RecT)(S:List Nat)(l j:Nat): nodD R S l j 0=NodT.emp (UInt8.ofNat (l+1)) j:=by unfold nodD NodT.emp; rw[pg_zero]; rfl
theorem nodD_full(R:List RecT)(S:List Nat)(l j:Nat): nodD R S l j (pts R.length (l+1) j)=nodR R S (l+1) j:=by rw[nodR_succ]; rfl
theorem nodD_set(R:List RecT)(S:List Nat)(l:Nat)(hj:j<4294967296){w:Nat}(hw:w<4){e:EntT}(he:e=entD R S l (4*j+w)): (nodD R S l j w).v.take (142+w*33)++e.v++(nodD R S l j w).v.drop (142+w*33+e.v.length)=(nodD R S l j (w+1)).v:=by
 subst he
 rw[(nodD_fit R S l hj w).set_ent hw (entD_fit _ _ _ _)]
 unfold nodD
 dsimp only
 rw[pg_set EntT.zero (fun v=>entD R S l (4*j+v)) hw]
theorem nodD_skip{R:List RecT}{S:List Nat}{w:Nat}(hj:j<4294967296)(hw:w<4)(he:emF R.length (recAt R) l (4*j+w)=true): (nodD R S l j w).v=(nodD R S l j (w+1)).v:=by
 have hz:entD R S l (4*j+w)=EntT.zero:=by unfold entD; rw[he]; rfl
 rw[<- nodD_set R S l hj hw rfl,(nodD_fit R S l hj w).set_ent hw (entD_fit _ _ _ _),hz]
 have hl:(pg EntT.zero (fun v=>entD R S l (4*j+v)) w).length=4:=pg_length _ _ _
 have hg:(pg EntT.zero (fun v=>entD R S l (4*j+v)) w).getD w EntT.zero=EntT.zero:=by rw[pg_getD _ _ _ hw,if_neg (by omega)]
 unfold nodD
 dsimp only
 congr 2
 apply ext4 hl (by simpa using hl) EntT.zero
 intro i hi
 by_cases h:w=i
 ·subst h
  rw[hg,List.getD_eq_getElem?_getD,List.getElem?_set_self (by rw[hl]; exact hw)]; rfl
 ·rw[List.getD_eq_getElem?_getD,List.getD_eq_getElem?_getD,List.getElem?_set_ne h]
theorem rNumber_fn(n:Nat)(h1:1<=n)(h2:n<=4096)(l j:Nat)(hl:l<=hg n)(hj:j<100000): Fn Tryz.prog 47 [.v (nI (n)),.v (nI (l)),.v (nI (j))] (.v (nI (tot n l+j))):=by
 have hh:=hg_le n
 refine FV Tryz.func47 rfl Tryz.ntmps47 rfl fun w₀=>?_
 refine GV rfl (GV rfl (QS (GV rfl (A.block ?_))));refine A.loop (ι:=Nat) (fun i=>i<=l) (fun i=>[(0,.v (nI (n))),(1,.v (nI (l))),(7,.v (nI (tot n i+j))),(8,.v (nI (i)))]) (fun i=>l-i) 0 ?_ ?_ ?_
 ·exact Nat.zero_le _
 ·exact(KC 0 rfl (KC 1 rfl (KE 7 rfl (by rw[tot_zero,Nat.zero_add]) (KE 8 rfl (by rfl) KN))))
 intro i hi'
 refine QS (GV rfl ?_);refine A.cond rfl (fun hc12=>?_) (fun hc12=>?_)
 ·have hi2:i<l:=by simp at hc12; omega
  refine QK (QSB (GTE (RV 3 rfl ?_)));refine RS (ok_call (rCount_fn n h1 h2 i (by omega)) (A2 rfl rfl)) ?_;refine RB rfl rfl rfl ?_;refine RZ (nI (tot n (i+1)+j)) (by rw[show((tot n i+j:Nat):Int)+((un n (i+1):Nat):Int)=((tot n (i+1)+j:Nat):Int) from by rw[tot_succ]; omega]; exact wrap_eq rfl (by have:=tot_small h1 h2 (show i+1<=6 by omega); omega)) ?_;refine RVN 1 rfl ?_;refine End.normal_block (EN (GTE (RV 2 rfl ?_)));refine Rw (i+1) ?_;refine RVN 1 rfl ?_;refine End.normal_then ?_;refine End.again (i+1) ?_ ?_ ?_
  ·show _<=_; omega
  ·show _-_<_-_; omega
  ·exact(Sv [0,1,7,8] rfl)
 ·have hi2:i=l:=by simp at hc12; omega
  refine A.exit (End.exit_then (End.exit_then (End.exit_here (EN (GV rfl (A.ret ?_))))));exact End.ret1 rfl rfl (Le.eq (by rw[hi2]))
theorem rTotal_fn(n:Nat)(h1:1<=n)(h2:n<=4096): Fn Tryz.prog 44 [.v (nI (n))] (.v (nI (tot n (hg n+1)))):=by
 have hh:=hg_le n
 have htp:=un_top h1 h2
 refine FV Tryz.func44 rfl Tryz.ntmps44 rfl fun w₀=>?_
 refine GV rfl (GT (RV 2 rfl ?_));refine RS (ok_call (rHeight_fn n h1 h2) (A1 rfl)) ?_;refine RS (ok_call (rNumber_fn n h1 h2 (hg n) 0 (Nat.le_refl _) (by decide)) (A3 rfl rfl rfl)) ?_;refine RB rfl rfl rfl ?_;refine RZ (nI (tot n (hg n+1))) (by rw[<- htp]; exact wrap_eq rfl (by have:=tot_small h1 h2 (show hg n+1<=6 by omega); omega)) ?_;refine RVN 1 rfl ?_;refine A.ret ?_;exact ER rfl rfl
set_option maxHeartbeats 1000000 in
theorem rEmpty_fn(R:List RecT)(hR:FitR R)(h1:1<=R.length)(h2:R.length<=4096)(rd:Addr)(rc:Nat)(l j:Nat)(hl:l<=5): FnM Tryz.prog 18 (recM rd R) [.v (.slice (some rd) R.length rc),.v (nI (l)),.v (nI (j))] (.v (.bool (emF R.length (recAt R) l j))):=by
 refine FnM.ofO Tryz.func18 rfl (by kernel_rfl) Tryz.ntmps18 (by simp) (by decide) (fun w=>[(0,.v (.slice (some rd) R.length rc)),(1,.v (nI (l))),(2,.v (nI (j))),(1000801,old w.heap.size (memR (some rd) (recsV R)))]) (fun w=>(StartMO.v rfl (StartMO.v rfl (StartMO.v rfl (StartMO.mo (by simp[recM]) (by decide) StartMO.nil))))) fun w₀ hM=>?_
 skip
 refine GV rfl (QS (GV rfl (A.block ?_)));refine A.loop (ι:=Nat) (fun i=>i<=R.length∧∀ k,k<i->k / 4^(l+1)=j->(recAt R k).x.toNat=0) (fun i=>[(0,.v (.slice (some rd) R.length rc)),(1,.v (nI (l))),(2,.v (nI (j))),(7,.v (nI (i))),(1000801,old w₀.heap.size (memR (some rd) (recsV R)))]) (fun i=>R.length-i) 0 ?_ ?_ ?_
 ·exact⟨Nat.zero_le _,fun k h=>absurd h (Nat.not_lt_zero _)⟩
 ·exact(KC 0 rfl (KC 1 rfl (KC 2 rfl (KE 7 rfl (by rfl) (KC 1000801 rfl KN)))))
 intro i hG
 refine QS (GT (RV 2 rfl ?_));refine RS (ok_lenV U37 rfl) ?_;refine RVN 1 rfl ?_;refine A.cond rfl (fun hc11=>?_) (fun hc11=>?_)
 ·have hi:i<R.length:=by simp at hc11; omega
  refine QK (QSB ?_)
  by_cases hq:(i / 4^(l+1)=j)
  ·refine GT (RV 2 rfl ?_);refine RS (ok_call (rIndex_fn i l (by omega) hl) (A2 rfl rfl)) ?_;refine RV 2 rfl ?_;refine Ry ?_;refine RV 3 rfl ?_;refine RQ (ok_indexRX i U37 infoP57 rfl rfl hi) ?_;refine RQ (ok_fieldRX field57_0 (by decide) rfl) ?_;refine RQ (ok_loadRX (u:=byteV (recAt R i).x) (s:=1000801) U5 rfl rfl (by decide) rfl (recs_x hR hi)) ?_;refine RVN 2 rfl ?_;refine A.cond rfl (fun hc26=>?_) (fun hc26=>?_)
   ·have hb:(recAt R i).x.toNat≠0:=by simpa using hc26
    refine GV rfl (A.ret (End.ret_block (End.ret_then (End.ret_then (End.ret_block (End.ret_then ?_))))))
    first|exact End.ret1 rfl rfl (Le.v (congrArg Value.bool (emF_false hi hq hb).symm))|exact End.ret1 rfl rfl (Le.v (congrArg Value.bool (emF_true fun k hk hkj=>hG.2 k (by omega) hkj).symm))
   ·have hb:(recAt R i).x.toNat=0:=by simpa using hc26
    refine A.skip (End.normal_block (EN (GTE (RV 2 rfl ?_))));refine Rw (i+1) ?_;refine RVN 1 rfl ?_;refine End.normal_then ?_;refine End.again (i+1) ?_ ?_ ?_
    ·first|exact⟨by omega,fun k hk hkj=>(Nat.lt_or_ge k i).elim (fun h=>hG.2 k h hkj) fun h=>by rw[show k=i from by omega]; exact hb⟩|exact⟨by omega,fun k hk hkj=>(Nat.lt_or_ge k i).elim (fun h=>hG.2 k h hkj) fun h=>absurd (by rw[show k=i from by omega] at hkj; exact hkj) hq⟩
    ·show _-_<_-_; omega
    ·exact(Sv [0,1,2,7,1000801] rfl)
  ·refine GT (RV 2 rfl ?_);refine RS (ok_call (rIndex_fn i l (by omega) hl) (A2 rfl rfl)) ?_;refine RV 2 rfl ?_;refine Rn ?_;refine RVN 8 rfl ?_;refine A.no rfl ?_;refine A.skip (End.normal_block (EN (GTE (RV 2 rfl ?_))));refine Rw (i+1) ?_;refine RVN 1 rfl ?_;refine End.normal_then ?_;refine End.again (i+1) ?_ ?_ ?_
   ·first|exact⟨by omega,fun k hk hkj=>(Nat.lt_or_ge k i).elim (fun h=>hG.2 k h hkj) fun h=>by rw[show k=i from by omega]; exact hb⟩|exact⟨by omega,fun k hk hkj=>(Nat.lt_or_ge k i).elim (fun h=>hG.2 k h hkj) fun h=>absurd (by rw[show k=i from by omega] at hkj; exact hkj) hq⟩
   ·show _-_<_-_; omega
   ·exact(Sv [0,1,2,7,1000801] rfl)
 ·have hi2:i=R.length:=by have:=hG.1; simp at hc11; omega
  refine A.exit (End.exit_then (End.exit_then (End.exit_here (EN (GV rfl (A.ret ?_))))))
  first|exact End.ret1 rfl rfl (Le.v (congrArg Value.bool (emF_false hi hq hb).symm))|exact End.ret1 rfl rfl (Le.v (congrArg Value.bool (emF_true fun k hk hkj=>hG.2 k (by omega) hkj).symm))
set_option maxHeartbeats 2000000 in
theorem r16Node_leaf(R:List RecT)(hR:FitR R)(h1:1<=R.length)(h2:R.length<=4096)(rd:Addr)(rc:Nat)(S:List Nat)(hS:OkS S)(hSl:tot R.length (hg R.length+1)<=S.length)(sd:Addr)(sc:Nat)(j:Nat)(hj:j<un R.length (0+1)): FnM Tryz.prog 16 (srM rd R sd S) [.v (.slice (some rd) R.length rc),.v (.slice (some sd) S.length sc),.v (nI (0)),.v (nI (j))] (.v (aggV (nodR R S 0 j).v)):=by
 have hh:=hg_le R.length
 have hun:=un_le h1 (0+1)
 have hj6:j<4294967296:=by omega
 have hl:0<=hg R.length:=Nat.zero_le _
 refine FnM.ofO Tryz.func16 rfl (by kernel_rfl) Tryz.ntmps16 (by simp) (by decide) (fun w=>[(0,.v (.slice (some rd) R.length rc)),(1,.v (.slice (some sd) S.length sc)),(2,.v (nI (0))),(3,.v (nI (j))),(1000801,old w.heap.size (memR (some rd) (recsV R))),(1000701,old w.heap.size (memR (some sd) (slotV S)))]) (fun w=>(StartMO.v rfl (StartMO.v rfl (StartMO.v rfl (StartMO.v rfl (StartMO.mo (by simp[srM]) (by decide) (StartMO.mo (by simp[srM]) (by decide) StartMO.nil))))))) fun w₀ hM=>?_
 skip
 refine GS (TN 0 (RN ?_));refine ZN 1000008 zero72 fun b8 ⟨hBb8,hb8⟩=>?_
 refine TL (RN (GT (RM rfl ?_)));refine RS (ok_lenV U37 rfl) ?_;refine RVN 1 rfl ?_;refine GS (TN 5 (RM rfl ?_));refine RS (ok_conv U3 U5 rfl) ?_;refine RZ (byteV (UInt8.ofNat (0))) (by rw[wrap_u8_nat]; rfl) ?_;refine RM rfl ?_;refine RS (ok_conv U3 U53 rfl) ?_;refine RZ (nW j) (congrArg (Value.int .u32) (wrap_u32 (by omega) (by omega))) ?_;refine RS (ok_litS [(0,byteV (UInt8.ofNat (0))),(1,nW j)] (NodT.emp (UInt8.ofNat (0)) j).v ⟨rfl,rfl,rfl,rfl,trivial⟩ (buildX _ _)) ?_;refine RN ?_;refine ZN 1000010 zero72 fun b10 ⟨hBb10,hb10⟩=>?_
 have hlt_b8_b10:=hb10 1000008 b8 _ _ rfl
 refine TF 6 (RN ?_);refine⟨_,eff_storeA (n:=69) (s:=1000010) (size72.of ((NodT.emp_fit 0 (j:=j) hj6).len)) rfl rfl (NodT.one _) hBb10 rfl (by rw[(NodT.emp_fit 0 (j:=j) hj6).len]; rfl) (LB 1000008 rfl (LO 1000701 rfl (LO 1000801 rfl (LW [0,1,2,3,8,9,10] rfl)))),?_⟩
 refine TL (RN (QS (GV rfl (A.block ?_))));refine A.loop (ι:=Nat) (fun w=>w<=pts R.length 0 j) (fun w=>[(0,.v (.slice (some rd) R.length rc)),(1,.v (.slice (some sd) S.length sc)),(2,.v (nI (0))),(3,.v (nI (j))),(8,.v (ptr b8)),(9,.v (nI (R.length))),(10,.v (ptr b10)),(11,.v (nI (w))),(1000008,blk b8 72 (NodT.emp 0 0).v),(1000010,blk b10 72 (grpW R j w).v),(1000801,old w₀.heap.size (memR (some rd) (recsV R))),(1000701,old w₀.heap.size (memR (some sd) (slotV S)))]) (fun w=>pts R.length 0 j-w) 0 ?_ ?_ ?_
 ·exact Nat.zero_le _
 ·exact(KC 0 rfl (KC 1 rfl (KC 2 rfl (KC 3 rfl (KC 8 rfl (KC 9 rfl (KC 10 rfl (KE 11 rfl (by rfl) (KC 1000008 rfl (KE 1000010 rfl (by rw[grpW_zero]) (KC 1000801 rfl (KC 1000701 rfl KN))))))))))))
 intro w hw'
 refine QS (GT (RV 4 rfl ?_));refine RS (ok_call (rParts_fn R.length h1 h2 (0) j hl hj) (A3 rfl rfl rfl)) ?_;refine RVN 1 rfl ?_;refine A.cond rfl (fun hc25=>?_) (fun hc25=>?_)
 ·have hw:w<pts R.length (0) j:=by simp at hc25; omega
  have hw4:w<4:=by have:=pts_le R.length (0) j; omega
  have hk:(4*j+w)<R.length:=by unfold pts un at hw; omega
  refine QK (QSB (GT (RV 2 rfl ?_)));refine Rw (4*j) ?_;refine RV 2 rfl ?_;refine Rw (4*j+w) ?_;refine RVN 1 rfl ?_;refine GT (RV 2 rfl ?_);refine RT ?_;refine RN (A.yes rfl ?_);refine GE (TF 7 (RV 3 rfl ?_));refine RS (ok_indexR (s:=1000801) (4*j+w) U37 infoP57 rfl rfl (by decide) rfl hk (by rw[recs_len hR]; omega)) ?_;refine RS (ok_loadElemT 35 U57 rfl size57 (by rw[recs_at hR hk,(hR.at _).len]; exact Nat.le_refl _) rfl) ?_;refine RZ (aggV (recAt R (4*j+w)).v) (congrArg aggV (by rw[recs_at hR hk]; exact List.take_of_length_le (Nat.le_of_eq (hR.at _).len))) ?_;refine Rf field72_2 ?_;refine RS (ok_indexN (w) U67 size57 rfl rfl (rfl) (hw4)) ?_;refine RN ?_;refine⟨_,eff_storeP (n:=69) (s:=1000010) (size57.of ((hR.at _).len)) rfl rfl (RecT.one _) hBb10 rfl (by rw[(grpW_fit hR hj6 w).len,(hR.at _).len]; omega) (LB 1000008 rfl (LO 1000701 rfl (LO 1000801 rfl (LW [0,1,2,3,8,9,10,11] rfl)))),?_⟩
  refine TL (RN (End.sub (KC 0 rfl (KC 1 rfl (KC 2 rfl (KC 3 rfl (KC 8 rfl (KC 9 rfl (KC 10 rfl (KC 11 rfl (KC 1000008 rfl (KE 1000010 rfl (show _=blk b10 72 (grpW R j (w+1)).v from congrArg (blk b10 72) (grpW_set hR hj6 hw4)) (KC 1000701 rfl (KC 1000801 rfl KN)))))))))))) ?_));refine End.normal_block (EN (GTE (RV 2 rfl ?_)));refine Rw (w+1) ?_;refine RVN 1 rfl ?_;refine End.normal_then ?_;refine End.again (w+1) ?_ ?_ ?_
  ·show _<=_; omega
  ·show _-_<_-_; omega
  ·exact(Sv [0,1,2,3,8,9,10,11,1000008,1000010,1000801,1000701] rfl)
 ·have hw2:w=pts R.length (0) j:=by simp at hc25; omega
  refine A.exit (End.exit_then (End.exit_then (End.exit_here (EN (GS (TF 1 (RL 1000010 U72 rfl rfl (size72.of ((grpW_fit hR hj6 _).len)) ?_)))))));refine RN ?_;refine⟨_,eff_storeA (n:=69) (s:=1000008) (size72.of ((grpW_fit hR hj6 _).len)) rfl rfl (NodT.one _) hBb8 rfl (by rw[(grpW_fit hR hj6 _).len]; rfl) (LV 8 rfl (LB 1000010 rfl (LO 1000701 rfl (LO 1000801 rfl LN)))),?_⟩
  refine TL (RN (A.ret ?_));exact End.cell1 (s:=1000008) rfl U72 rfl (size72.of ((grpW_fit hR hj6 _).len)) rfl rfl (Le.v (by rw[hw2,grpW_full,nodR_zero]))
set_option maxHeartbeats 4000000 in
theorem r16Node_step(R:List RecT)(hR:FitR R)(h1:1<=R.length)(h2:R.length<=4096)(rd:Addr)(rc:Nat)(S:List Nat)(hS:OkS S)(hSl:tot R.length (hg R.length+1)<=S.length)(sd:Addr)(sc:Nat)(l j:Nat)(hl:l+1<=hg R.length)(hj:j<un R.length (l+1+1))(ih:∀ k,k<un R.length (l+1)->FnM Tryz.prog 16 (srM rd R sd S) [.v (.slice (some rd) R.length rc),.v (.slice (some sd) S.length sc),.v (nI (l)),.v (nI (k))] (.v (aggV (nodR R S l k).v))): FnM Tryz.prog 16 (srM rd R sd S) [.v (.slice (some rd) R.length rc),.v (.slice (some sd) S.length sc),.v (nI (l+1)),.v (nI (j))] (.v (aggV (nodR R S (l+1) j).v)):=by
 have hh:=hg_le R.length
 have hun:=un_le h1 (l+1+1)
 have hj6:j<4294967296:=by omega
 refine FnM.ofO Tryz.func16 rfl (by kernel_rfl) Tryz.ntmps16 (by simp) (by decide) (fun w=>[(0,.v (.slice (some rd) R.length rc)),(1,.v (.slice (some sd) S.length sc)),(2,.v (nI (l+1))),(3,.v (nI (j))),(1000801,old w.heap.size (memR (some rd) (recsV R))),(1000701,old w.heap.size (memR (some sd) (slotV S)))]) (fun w=>(StartMO.v rfl (StartMO.v rfl (StartMO.v rfl (StartMO.v rfl (StartMO.mo (by simp[srM]) (by decide) (StartMO.mo (by simp[srM]) (by decide) StartMO.nil))))))) fun w₀ hM=>?_
 skip
 refine GS (TN 0 (RN ?_));refine ZN 1000008 zero72 fun b8 ⟨hBb8,hb8⟩=>?_
 refine TL (RN (GT (RM rfl ?_)));refine RS (ok_lenV U37 rfl) ?_;refine RVN 1 rfl ?_;refine GS (TN 5 (RM rfl ?_));refine RS (ok_conv U3 U5 rfl) ?_;refine RZ (byteV (UInt8.ofNat (l+1))) (by rw[wrap_u8_nat]; rfl) ?_;refine RM rfl ?_;refine RS (ok_conv U3 U53 rfl) ?_;refine RZ (nW j) (congrArg (Value.int .u32) (wrap_u32 (by omega) (by omega))) ?_;refine RS (ok_litS [(0,byteV (UInt8.ofNat (l+1))),(1,nW j)] (NodT.emp (UInt8.ofNat (l+1)) j).v ⟨rfl,rfl,rfl,rfl,trivial⟩ (buildX _ _)) ?_;refine RN ?_;refine ZN 1000010 zero72 fun b10 ⟨hBb10,hb10⟩=>?_
 have hlt_b8_b10:=hb10 1000008 b8 _ _ rfl
 refine TF 6 (RN ?_);refine⟨_,eff_storeA (n:=69) (s:=1000010) (size72.of ((NodT.emp_fit (UInt8.ofNat (l+1)) (j:=j) hj6).len)) rfl rfl (NodT.one _) hBb10 rfl (by rw[(NodT.emp_fit (UInt8.ofNat (l+1)) (j:=j) hj6).len]; rfl) (LB 1000008 rfl (LO 1000701 rfl (LO 1000801 rfl (LW [0,1,2,3,8,9,10] rfl)))),?_⟩
 refine TL (RN (QS (GV rfl (A.block ?_))));refine A.loop (ι:=Nat) (fun w=>w<=pts R.length (l+1) j) (fun w=>[(0,.v (.slice (some rd) R.length rc)),(1,.v (.slice (some sd) S.length sc)),(2,.v (nI (l+1))),(3,.v (nI (j))),(8,.v (ptr b8)),(9,.v (nI (R.length))),(10,.v (ptr b10)),(11,.v (nI (w))),(1000008,blk b8 72 (NodT.emp 0 0).v),(1000010,blk b10 72 (nodD R S l j w).v),(1000801,old w₀.heap.size (memR (some rd) (recsV R))),(1000701,old w₀.heap.size (memR (some sd) (slotV S)))]) (fun w=>pts R.length (l+1) j-w) 0 ?_ ?_ ?_
 ·exact Nat.zero_le _
 ·exact(KC 0 rfl (KC 1 rfl (KC 2 rfl (KC 3 rfl (KC 8 rfl (KC 9 rfl (KC 10 rfl (KE 11 rfl (by rfl) (KC 1000008 rfl (KE 1000010 rfl (by rw[nodD_zero]) (KC 1000801 rfl (KC 1000701 rfl KN))))))))))))
 intro w hw'
 refine QS (GT (RV 4 rfl ?_));refine RS (ok_call (rParts_fn R.length h1 h2 (l+1) j hl hj) (A3 rfl rfl rfl)) ?_;refine RVN 1 rfl ?_;refine A.cond rfl (fun hc25=>?_) (fun hc25=>?_)
 ·have hw:w<pts R.length (l+1) j:=by simp at hc25; omega
  have hw4:w<4:=by have:=pts_le R.length (l+1) j; omega
  have hkS:tot R.length l+(4*j+w)<S.length:=by have:=numP_lt (n:=R.length) (l:=l) (j:=(4*j+w)) (by omega) (kid_ok hw); omega
  have hku:=kid_ok hw
  have hul:=un_le h1 (l+1)
  refine QK (QSB (GT (RV 2 rfl ?_)));refine Rw (4*j) ?_;refine RV 2 rfl ?_;refine Rw (4*j+w) ?_;refine RVN 1 rfl ?_;refine GT (RV 2 rfl ?_);refine Rn ?_;refine RN (A.no rfl ?_);refine GT (RV 3 rfl ?_);refine Rw (l) ?_;refine RM rfl ?_;refine RS (ok_callMK (rEmpty_fn R hR h1 h2 rd rc l (4*j+w) (by omega)) (SubK.cons (k:=1000801) (by decide) rfl Le.unold SubK.nil) (A3 rfl rfl rfl)) ?_;refine RVN 1 rfl ?_;refine A.cond rfl (fun hc46=>?_) (fun hc46=>?_)
  ·have he:emF R.length (recAt R) l (4*j+w)=false:=by simpa using hc46
   refine A.reg (by kernel_rfl) (by kernel_rfl) (.inr (by kernel_rfl)) ?_;refine TD 21 ?_;refine RV 5 rfl ?_;refine Rw (l) ?_;refine RM rfl ?_;refine RS (ok_call (rNumber_fn R.length h1 h2 l (4*j+w) (by omega) (by omega)) (A3 rfl rfl rfl)) ?_;refine RS (ok_indexRX (tot R.length l+(4*j+w)) U38 infoPI rfl rfl hkS) ?_;refine RS (ok_loadRX (u:=nI (S.getD (tot R.length l+(4*j+w)) 0)) (s:=1000701) U3 rfl rfl (by decide) rfl (slotV_at hkS)) ?_;refine RB rfl rfl rfl ?_;refine RZ (nI ((S.getD (tot R.length l+(4*j+w)) 0)+1)) (wrap_eq (by omega) (by have:=hS.at (tot R.length l+(4*j+w)); omega)) ?_;refine RS (ok_conv U3 U5 rfl) ?_;refine RZ (byteV (UInt8.ofNat ((S.getD (tot R.length l+(4*j+w)) 0)+1))) (by rw[wrap_u8_nat]; rfl) ?_;refine RV 4 rfl ?_;refine Rw (l) ?_;refine RM rfl ?_;refine RS (ok_callMK (ih (4*j+w) (kid_ok hw)) (SubK.cons (k:=1000801) (by decide) rfl Le.unold (SubK.cons (k:=1000701) (by decide) rfl Le.unold SubK.nil)) (Args.cons rfl (Le.refl _) (A3 rfl rfl rfl))) ?_;refine RS (ok_call (rDigest_fn (nodR R S l (4*j+w)) (nodR_fit hR S (by omega)) (by rw[nodR_l (by omega)]; omega)) (A1 rfl)) ?_;refine RS (ok_litS [(0,byteV (UInt8.ofNat ((S.getD (tot R.length l+(4*j+w)) 0)+1))),(1,aggV ((sha (nodR R S l (4*j+w)).bl).map byteV))] (EntT.v ⟨UInt8.ofNat ((S.getD (tot R.length l+(4*j+w)) 0)+1),sha (nodR R S l (4*j+w)).bl⟩) ⟨rfl,rfl,rfl,rfl,trivial⟩ (buildEntB _ _ (sha_length _))) ?_;refine Rf field72_3 ?_;refine RS (ok_indexN (w) U70 size69 rfl rfl (rfl) (hw4)) ?_;refine RN ?_;refine⟨_,eff_storeP (n:=69) (s:=1000010) (size69.of (by show _=33; rw[EntT.Fit.len ⟨sha_length _⟩])) rfl rfl (EntT.one _) hBb10 rfl (by rw[(nodD_fit R S l hj6 w).len,EntT.Fit.len ⟨sha_length _⟩]; omega) (LB 1000008 rfl (LO 1000701 rfl (LO 1000801 rfl (LW [0,1,2,3,8,9,10,11] rfl)))),?_⟩
   refine TL (RN (End.sub (KC 0 rfl (KC 1 rfl (KC 2 rfl (KC 3 rfl (KC 8 rfl (KC 9 rfl (KC 10 rfl (KC 11 rfl (KC 1000008 rfl (KE 1000010 rfl (show _=blk b10 72 (nodD R S l j (w+1)).v from congrArg (blk b10 72) (nodD_set R S l hj6 hw4 (entD_no he).symm)) (KC 1000701 rfl (KC 1000801 rfl KN)))))))))))) ?_));refine End.normal_block (EN (GTE (RV 2 rfl ?_)));refine Rw (w+1) ?_;refine RVN 1 rfl ?_;refine End.normal_then ?_;refine End.again (w+1) ?_ ?_ ?_
   ·show _<=_; omega
   ·show _-_<_-_; omega
   ·exact(KC 0 rfl (KC 1 rfl (KC 2 rfl (KC 3 rfl (KC 8 rfl (KC 9 rfl (KC 10 rfl (KC 11 rfl (KC 1000008 rfl (KE 1000010 rfl (by first|rfl|(rw[nodD_skip hj6 hw4 he])) (KC 1000801 rfl (KC 1000701 rfl KN))))))))))))
  ·have he:emF R.length (recAt R) l (4*j+w)=true:=by simpa using hc46
   refine A.skip (End.normal_block (EN (GTE (RV 2 rfl ?_))));refine Rw (w+1) ?_;refine RVN 1 rfl ?_;refine End.normal_then ?_;refine End.again (w+1) ?_ ?_ ?_
   ·show _<=_; omega
   ·show _-_<_-_; omega
   ·exact(KC 0 rfl (KC 1 rfl (KC 2 rfl (KC 3 rfl (KC 8 rfl (KC 9 rfl (KC 10 rfl (KC 11 rfl (KC 1000008 rfl (KE 1000010 rfl (by first|rfl|(rw[nodD_skip hj6 hw4 he])) (KC 1000801 rfl (KC 1000701 rfl KN))))))))))))
 ·have hw2:w=pts R.length (l+1) j:=by simp at hc25; omega
  refine A.exit (End.exit_then (End.exit_then (End.exit_here (EN (GS (TF 1 (RL 1000010 U72 rfl rfl (size72.of ((nodD_fit R S l hj6 _).len)) ?_)))))));refine RN ?_;refine⟨_,eff_storeA (n:=69) (s:=1000008) (size72.of ((nodD_fit R S l hj6 _).len)) rfl rfl (NodT.one _) hBb8 rfl (by rw[(nodD_fit R S l hj6 _).len]; rfl) (LV 8 rfl (LB 1000010 rfl (LO 1000701 rfl (LO 1000801 rfl LN)))),?_⟩
  refine TL (RN (A.ret ?_));exact End.cell1 (s:=1000008) rfl U72 rfl (size72.of ((nodD_fit R S l hj6 _).len)) rfl rfl (Le.v (by rw[hw2,nodD_full]))
theorem r16Node_fn (R:List RecT) (hR:FitR R) (h1:1<=R.length) (h2:R.length<=4096) (rd:Addr) (rc:Nat) (S:List Nat) (hS:OkS S) (hSl:tot R.length (hg R.length+1)<=S.length) (sd:Addr) (sc:Nat):∀ (l j:Nat),l<=hg R.length->j<un R.length (l+1)->FnM Tryz.prog 16 (srM rd R sd S) [.v (.slice (some rd) R.length rc),.v (.slice (some sd) S.length sc),.v (nI (l)),.v (nI (j))] (.v (aggV (nodR R S l j).v))
 | 0,j,_,hj=>r16Node_leaf R hR h1 h2 rd rc S hS hSl sd sc j hj
 | l+1,j,hl,hj=>r16Node_step R hR h1 h2 rd rc S hS hSl sd sc l j hl hj fun k hk=>r16Node_fn R hR h1 h2 rd rc S hS hSl sd sc l k (by omega) hk
theorem rRoot_fn(R:List RecT)(hR:FitR R)(h1:1<=R.length)(h2:R.length<=4096)(rd:Addr)(rc:Nat)(S:List Nat)(hS:OkS S)(hSl:tot R.length (hg R.length+1)<=S.length)(sd:Addr)(sc:Nat): FnM Tryz.prog 48 (srM rd R sd S) [.v (.slice (some rd) R.length rc),.v (.slice (some sd) S.length sc)] (.v (aggV ((sha (nodR R S (hg R.length) 0).bl).map byteV))):=by
 have hh:=hg_le R.length
 refine FnM.ofO Tryz.func48 rfl (by kernel_rfl) Tryz.ntmps48 (by simp) (by decide) (fun w=>[(0,.v (.slice (some rd) R.length rc)),(1,.v (.slice (some sd) S.length sc)),(1000801,old w.heap.size (memR (some rd) (recsV R))),(1000701,old w.heap.size (memR (some sd) (slotV S)))]) (fun w=>(StartMO.v rfl (StartMO.v rfl (StartMO.mo (by simp[srM]) (by decide) (StartMO.mo (by simp[srM]) (by decide) StartMO.nil))))) fun w₀ hM=>?_
 skip
 refine GS (TN 0 (RN ?_));refine ZN 1000004 zero32 fun b4 ⟨hBb4,hb4⟩=>?_
 refine TL (RN (GS (TF 7 (RV 3 rfl ?_))));refine RS (ok_lenV U37 rfl) ?_;refine RS (ok_call (rHeight_fn R.length h1 h2) (A1 rfl)) ?_;refine RS (ok_callMK (r16Node_fn R hR h1 h2 rd rc S hS hSl sd sc (hg R.length) 0 (Nat.le_refl _) (by rw[un_root h1 h2]; decide)) (SubK.cons (k:=1000801) (by decide) rfl Le.unold (SubK.cons (k:=1000701) (by decide) rfl Le.unold SubK.nil)) (Args.cons rfl (Le.refl _) (A3 rfl rfl rfl))) ?_;refine RS (ok_call (rDigest_fn (nodR R S (hg R.length) 0) (nodR_fit hR S (by decide)) (by rw[nodR_l (by omega)]; omega)) (A1 rfl)) ?_;refine RN ?_;refine⟨_,eff_storeA (n:=12) (s:=1000004) (size32.of (by rw[List.length_map,sha_length])) rfl rfl (all_bytes _) hBb4 rfl (by rw[List.length_map,sha_length]; rfl) (LV 4 rfl (LO 1000701 rfl (LO 1000801 rfl LN))),?_⟩
 refine TL (RN (A.ret ?_));exact End.cell1 (s:=1000004) rfl U32 rfl (size32.of (by rw[List.length_map,sha_length])) rfl rfl (Le.refl _)
end
section
theorem zero49: ZeroIs Tryz.prog 49 ([.int .i64 0]++[.int .u8 0]):=by unfold ZeroIs; kernel_rfl
theorem size49: SizeIs Tryz.prog 49 2:=by unfold SizeIs; kernel_rfl
theorem zero158: ZeroIs Tryz.prog 158 ([.int .u8 0]++[.nilFunc]):=by unfold ZeroIs; kernel_rfl
theorem size158: SizeIs Tryz.prog 158 2:=by unfold SizeIs; kernel_rfl
theorem field158_0: FieldIs Tryz.prog 158 0 0 1:=by unfold FieldIs; kernel_rfl
theorem field158_1: FieldIs Tryz.prog 158 1 1 1:=by unfold FieldIs; kernel_rfl
theorem infoDM: InfoP Tryz.prog 158 (.agg #[.int .u8 0,.nilFunc]) 2 16:=by unfold InfoP; kernel_rfl
theorem buildPB(a:Int)(k:Nat): Tryz.prog.built 49 [(0,.int .i64 a),(1,nB k)]=some ([.int .i64 a,nB k]:List Value).toArray:=by kernel_rfl
theorem placeOf_fn(x:NodT)(hx:x.Fit): Fn Tryz.prog 68 [.v (aggV x.v)] (.v (aggV (plV x.l.toNat x.j))):=by
 refine FV Tryz.func68 rfl Tryz.ntmps68 rfl fun w₀=>?_
 refine GS (TN 0 (RN ?_));refine ZB 1000001 rfl fun b1 ⟨hBb1,hb1⟩=>?_
 refine TN 1 (RN ?_);refine ZN 1000002 zero131 fun b2 ⟨hBb2,hb2⟩=>?_
 refine TL (RN (GS (TF 7 (Rf field72_0 ?_))));refine RLV 1000001 U5 rfl rfl rfl ?_;refine RS (ok_conv U5 U3 rfl) ?_;refine RZ (nI x.l.toNat) (wrap_eq rfl (by have:=x.l.toNat_lt; omega)) ?_;refine Rf field72_1 ?_;refine RLV 1000001 U53 rfl rfl rfl ?_;refine RS (ok_conv U53 U3 rfl) ?_;refine RZ (nI x.j) (wrap_eq rfl (by have:=hx.j; omega)) ?_;refine RS (ok_litS [(0,nI x.l.toNat),(1,nI x.j)] (plV x.l.toNat x.j) ⟨rfl,rfl,rfl,rfl,trivial⟩ (buildP _ _)) ?_;refine RN ?_;refine ZA 1000002 (size131.of rfl) hBb2 rfl rfl rfl (LV 2 rfl (LT 1000001 rfl LN)) ?_;refine TL (RN (A.ret ?_));exact End.cell1 (s:=1000002) rfl U131 rfl (size131.of (rfl)) rfl rfl (Le.refl _)
theorem ckDisk_bad(m:Int)(hm:¬ (1<=m∧m<=4096))(X:Nat->Prop)(S:Dk): Fn Tryz.prog 59 [.v (.int .i64 (m)),diskD dT X S] (.v (.int .i64 (1))):=by
 refine Fn.of Tryz.func59 rfl (by kernel_rfl) Tryz.ntmps59 (by simp) (fun w=>[(0,.v (.int .i64 (m))),(1,old w.heap.size (diskD dT X S))]) (fun w=>(Start.v rfl (Start.old rfl Start.nil))) fun w₀=>?_
 refine A.nameTl (t:=1) (k:=1000200) rfl fun v hv1=>?_
 refine GS (TN 0 (RN ?_));refine ZB 1000003 rfl fun b3 ⟨hBb3,hb3⟩=>?_
 refine TL (RVN 1 rfl ?_);refine GT (RM rfl ?_);refine RS (ok_call (Sectors_bad m hm) (A1 rfl)) ?_;refine RVN 5 rfl ?_;refine QSB (GT (RV 2 rfl ?_));refine RT ?_;refine RVN 1 rfl ?_;refine A.yes rfl ?_;refine GV rfl (A.ret (End.ret_block (End.ret_then ?_)));exact ER rfl rfl
theorem ckDisk_no(n:Nat)(h1:1<=n)(h2:n<=4096)(X:Nat->Prop)(S:Dk)(hS:S.length≠bs n (hg n+1)): Fn Tryz.prog 59 [.v (nI (n)),diskD dT X S] (.v (.int .i64 (1))):=by
 refine Fn.of Tryz.func59 rfl (by kernel_rfl) Tryz.ntmps59 (by simp) (fun w=>[(0,.v (nI (n))),(1,old w.heap.size (diskD dT X S))]) (fun w=>(Start.v rfl (Start.old rfl Start.nil))) fun w₀=>?_
 refine A.nameTl (t:=1) (k:=1000200) rfl fun v hv1=>?_
 refine GS (TN 0 (RN ?_));refine ZB 1000003 rfl fun b3 ⟨hBb3,hb3⟩=>?_
 refine TL (RVN 1 rfl ?_);refine GT (RM rfl ?_);refine RS (ok_call (Sectors_ok n h1 h2) (A1 rfl)) ?_;refine RVN 5 rfl ?_;refine QSB (GT (RV 2 rfl ?_));refine RF ?_;refine RVN 1 rfl ?_;refine A.no rfl ?_;refine GT (RS (OpOk.tlO (k:=1000200) [nI S.length,nI (totC S)] (ok_loadA (s:=1000003) (by decide) U44 rfl (size44.of (rfl)) rfl rfl) rfl hv1 (by decide) rfl) ?_);refine RS (ok_call (dSize_fn S.length) (Args.cons rfl ((Le.old _ _).trans disk_sz) Args.nil)) ?_;refine RV 2 rfl ?_;refine RZ (.bool true) (congrArg Value.bool (by simp; omega)) ?_;refine RVN 1 rfl ?_;refine A.yes rfl ?_;refine GV rfl (A.ret (End.ret_block (End.ret_then ?_)));exact ER rfl rfl
theorem ckDisk_ok(n:Nat)(h1:1<=n)(h2:n<=4096)(X:Nat->Prop)(S:Dk)(hS:S.length=bs n (hg n+1)): Fn Tryz.prog 59 [.v (nI (n)),diskD dT X S] (.v (.int .i64 (0))):=by
 refine Fn.of Tryz.func59 rfl (by kernel_rfl) Tryz.ntmps59 (by simp) (fun w=>[(0,.v (nI (n))),(1,old w.heap.size (diskD dT X S))]) (fun w=>(Start.v rfl (Start.old rfl Start.nil))) fun w₀=>?_
 refine A.nameTl (t:=1) (k:=1000200) rfl fun v hv1=>?_
 refine GS (TN 0 (RN ?_));refine ZB 1000003 rfl fun b3 ⟨hBb3,hb3⟩=>?_
 refine TL (RVN 1 rfl ?_);refine GT (RM rfl ?_);refine RS (ok_call (Sectors_ok n h1 h2) (A1 rfl)) ?_;refine RVN 5 rfl ?_;refine QSB (GT (RV 2 rfl ?_));refine RF ?_;refine RVN 1 rfl ?_;refine A.no rfl ?_;refine GT (RS (OpOk.tlO (k:=1000200) [nI S.length,nI (totC S)] (ok_loadA (s:=1000003) (by decide) U44 rfl (size44.of (rfl)) rfl rfl) rfl hv1 (by decide) rfl) ?_);refine RS (ok_call (dSize_fn S.length) (Args.cons rfl ((Le.old _ _).trans disk_sz) Args.nil)) ?_;refine RV 2 rfl ?_;refine RZ (.bool false) (congrArg Value.bool (by simp; omega)) ?_;refine RVN 1 rfl ?_;refine A.no rfl ?_;refine A.skip (End.normal_block (EN (GV rfl (A.ret ?_))));exact ER rfl rfl
theorem ckBlk_m(m:Int)(hm:¬ (1<=m∧m<=4096))(X:Nat->Prop)(S:Dk)(x:Int): Fn Tryz.prog 50 [.v (.int .i64 (m)),diskD dT X S,.v (.int .i64 (x))] (.v (.int .i64 (1))):=by
 refine Fn.of Tryz.func50 rfl (by kernel_rfl) Tryz.ntmps50 (by simp) (fun w=>[(0,.v (.int .i64 (m))),(1,old w.heap.size (diskD dT X S)),(2,.v (.int .i64 (x)))]) (fun w=>(Start.v rfl (Start.old rfl (Start.v rfl Start.nil)))) fun w₀=>?_
 refine A.nameTl (t:=1) (k:=1000200) rfl fun v hv1=>?_
 refine GS (TN 0 (RN ?_));refine ZB 1000004 rfl fun b4 ⟨hBb4,hb4⟩=>?_
 refine TL (RVN 1 rfl ?_);refine QS (GT (RM rfl ?_));refine RS (OpOk.tlO (k:=1000200) [nI S.length,nI (totC S)] (ok_loadA (s:=1000004) (by decide) U44 rfl (size44.of (rfl)) rfl rfl) rfl hv1 (by decide) rfl) ?_;refine RS (ok_call (ckDisk_bad m hm X S) (Args.cons rfl LA (Args.cons rfl (Le.old _ _) Args.nil))) ?_;refine RVN 1 rfl ?_;refine GT (RV 2 rfl ?_);refine RT ?_;refine RN (A.yes rfl ?_);refine GV rfl (A.ret (End.ret_then ?_));exact ER rfl rfl
theorem ckBlk_S(n:Nat)(h1:1<=n)(h2:n<=4096)(X:Nat->Prop)(S:Dk)(hS:S.length≠bs n (hg n+1))(x:Int): Fn Tryz.prog 50 [.v (nI (n)),diskD dT X S,.v (.int .i64 (x))] (.v (.int .i64 (1))):=by
 refine Fn.of Tryz.func50 rfl (by kernel_rfl) Tryz.ntmps50 (by simp) (fun w=>[(0,.v (nI (n))),(1,old w.heap.size (diskD dT X S)),(2,.v (.int .i64 (x)))]) (fun w=>(Start.v rfl (Start.old rfl (Start.v rfl Start.nil)))) fun w₀=>?_
 refine A.nameTl (t:=1) (k:=1000200) rfl fun v hv1=>?_
 refine GS (TN 0 (RN ?_));refine ZB 1000004 rfl fun b4 ⟨hBb4,hb4⟩=>?_
 refine TL (RVN 1 rfl ?_);refine QS (GT (RM rfl ?_));refine RS (OpOk.tlO (k:=1000200) [nI S.length,nI (totC S)] (ok_loadA (s:=1000004) (by decide) U44 rfl (size44.of (rfl)) rfl rfl) rfl hv1 (by decide) rfl) ?_;refine RS (ok_call (ckDisk_no n h1 h2 X S hS) (Args.cons rfl LA (Args.cons rfl (Le.old _ _) Args.nil))) ?_;refine RVN 1 rfl ?_;refine GT (RV 2 rfl ?_);refine RT ?_;refine RN (A.yes rfl ?_);refine GV rfl (A.ret (End.ret_then ?_));exact ER rfl rfl
theorem ckBlk_x(n:Nat)(h1:1<=n)(h2:n<=4096)(X:Nat->Prop)(S:Dk)(hS:S.length=bs n (hg n+1))(x:Int)(hx:¬ (0<=x∧x<n)): Fn Tryz.prog 50 [.v (nI (n)),diskD dT X S,.v (.int .i64 (x))] (.v (.int .i64 (1))):=by
 refine Fn.of Tryz.func50 rfl (by kernel_rfl) Tryz.ntmps50 (by simp) (fun w=>[(0,.v (nI (n))),(1,old w.heap.size (diskD dT X S)),(2,.v (.int .i64 (x)))]) (fun w=>(Start.v rfl (Start.old rfl (Start.v rfl Start.nil)))) fun w₀=>?_
 refine A.nameTl (t:=1) (k:=1000200) rfl fun v hv1=>?_
 refine GS (TN 0 (RN ?_));refine ZB 1000004 rfl fun b4 ⟨hBb4,hb4⟩=>?_
 refine TL (RVN 1 rfl ?_);refine QS (GT (RM rfl ?_));refine RS (OpOk.tlO (k:=1000200) [nI S.length,nI (totC S)] (ok_loadA (s:=1000004) (by decide) U44 rfl (size44.of (rfl)) rfl rfl) rfl hv1 (by decide) rfl) ?_;refine RS (ok_call (ckDisk_ok n h1 h2 X S hS) (Args.cons rfl LA (Args.cons rfl (Le.old _ _) Args.nil))) ?_;refine RVN 1 rfl ?_;refine GT (RV 2 rfl ?_);refine RF ?_;refine RN (A.no rfl ?_);refine QK (GS (TN 7 (RV 2 rfl ?_)));refine RS (ok_call (Group_no n h1 h2 x hx) (A2 rfl rfl)) ?_;refine RVN 4 rfl ?_;refine ZN 1000008 zero131 fun b8 ⟨hBb8,hb8⟩=>?_
 refine TF 8 (RN ?_);refine ZA 1000008 (size131.of rfl) hBb8 rfl rfl rfl (LT 1000004 rfl (LO 1000200 rfl (LW [22,23] rfl))) ?_;refine TL (RVN 2 rfl ?_);refine GV rfl (A.ret ?_);exact ER rfl rfl
theorem ckBlk_ok(n:Nat)(h1:1<=n)(h2:n<=4096)(X:Nat->Prop)(S:Dk)(hS:S.length=bs n (hg n+1))(x:Nat)(hx:x<n): Fn Tryz.prog 50 [.v (nI (n)),diskD dT X S,.v (nI (x))] (.v (.int .i64 (0))):=by
 refine Fn.of Tryz.func50 rfl (by kernel_rfl) Tryz.ntmps50 (by simp) (fun w=>[(0,.v (nI (n))),(1,old w.heap.size (diskD dT X S)),(2,.v (nI (x)))]) (fun w=>(Start.v rfl (Start.old rfl (Start.v rfl Start.nil)))) fun w₀=>?_
 refine A.nameTl (t:=1) (k:=1000200) rfl fun v hv1=>?_
 refine GS (TN 0 (RN ?_));refine ZB 1000004 rfl fun b4 ⟨hBb4,hb4⟩=>?_
 refine TL (RVN 1 rfl ?_);refine QS (GT (RM rfl ?_));refine RS (OpOk.tlO (k:=1000200) [nI S.length,nI (totC S)] (ok_loadA (s:=1000004) (by decide) U44 rfl (size44.of (rfl)) rfl rfl) rfl hv1 (by decide) rfl) ?_;refine RS (ok_call (ckDisk_ok n h1 h2 X S hS) (Args.cons rfl LA (Args.cons rfl (Le.old _ _) Args.nil))) ?_;refine RVN 1 rfl ?_;refine GT (RV 2 rfl ?_);refine RF ?_;refine RN (A.no rfl ?_);refine QK (GS (TN 7 (RV 2 rfl ?_)));refine RS (ok_call (Group_ok n h1 h2 x hx) (A2 rfl rfl)) ?_;refine RVN 4 rfl ?_;refine ZN 1000008 zero131 fun b8 ⟨hBb8,hb8⟩=>?_
 refine TF 8 (RN ?_);refine ZA 1000008 (size131.of rfl) hBb8 rfl rfl rfl (LT 1000004 rfl (LO 1000200 rfl (LW [22,23] rfl))) ?_;refine TL (RVN 2 rfl ?_);refine GV rfl (A.ret ?_);exact ER rfl rfl
def DkOk (m:Int) (S:Dk):Prop:=1<=m∧m<=4096∧S.length=bs m.toNat (hg m.toNat+1)
theorem ckDisk_1(m:Int)(X:Nat->Prop)(S:Dk)(h:¬ DkOk m S): Fn Tryz.prog 59 [.v (.int .i64 m),diskD dT X S] (.v (.int .i64 1)):=by
 by_cases hm:1<=m∧m<=4096
 ·obtain⟨n,rfl⟩:∃ n:Nat,m=n:=⟨m.toNat,by omega⟩
  exact ckDisk_no n (by omega) (by omega) X S fun hS=>h ⟨hm.1,hm.2,hS⟩
 ·exact ckDisk_bad m hm X S
theorem ckBlk_1(m:Int)(X:Nat->Prop)(S:Dk)(x:Int)(h:¬ (DkOk m S∧0<=x∧x<m)): Fn Tryz.prog 50 [.v (.int .i64 m),diskD dT X S,.v (.int .i64 x)] (.v (.int .i64 1)):=by
 by_cases hm:1<=m∧m<=4096
 ·obtain⟨n,rfl⟩:∃ n:Nat,m=n:=⟨m.toNat,by omega⟩
  by_cases hS:S.length=bs n (hg n+1)
  ·exact ckBlk_x n (by omega) (by omega) X S hS x fun hx=>h ⟨⟨hm.1,hm.2,hS⟩,hx.1,by omega⟩
  ·exact ckBlk_S n (by omega) (by omega) X S hS x
 ·exact ckBlk_m m hm X S x
theorem dRead_at(X:Nat->Prop)(S:Dk)(i:Nat)(hi:i<S.length)(hn:S.length<=10922)(c:Con)(e:Int)(hc:c=lastC (hisC S i))(he:e=errC c): FnB Tryz.prog 113 [diskD dT X S,.v (nI (i))] (fun B=>tup [conD B 5 c,.v (.int .i64 e)]):=by
 subst he; subst hc; exact dRead_fn X S i hi hn
abbrev acM (T₁ p₁:Nat) (x₁:List Value) (T₂ p₂:Nat) (x₂:List Value) (T₃ p₃:Nat) (x₃:List Value):Env:=[(1900000,tab 0 (sizV)),(1900001,tab 1 (H8.list.map u32V)),(1900002,tab 2 (K64.map u32V)),(1000063,blk p₁ T₁ x₁),(1000064,blk p₂ T₂ x₂),(1000065,blk p₃ T₃ x₃)]
abbrev acN (T₁ p₁:Nat) (x₁:List Value) (T₂ p₂:Nat) (x₂:List Value) (T₃ p₃:Nat) (x₃:List Value) (b:Nat) (l:List UInt8):Env:=[(1900000,tab 0 (sizV)),(1900001,tab 1 (H8.list.map u32V)),(1900002,tab 2 (K64.map u32V)),(1000063,blk p₁ T₁ x₁),(1000064,blk p₂ T₂ x₂),(1000065,blk p₃ T₃ x₃),(1000008,blk b 5 (l.map byteV))]
set_option maxHeartbeats 1000000 in
theorem acc_no_v(T:Nat)(hT:T=72∨T=60)(g:Nat)(h2g:3<=g)(T₁ p₁:Nat)(x₁:List Value)(T₂ p₂:Nat)(x₂:List Value)(T₃ p₃:Nat)(x₃:List Value)(hp₁:p₁<g)(hp₂:p₂<g)(hp₃:p₃<g)(X:Nat->Prop)(S:Dk)(k:Nat)(hk:k<S.length)(hn:S.length<=10922)(q:Nat)(L:List Dem)(hL:L.length<=1000)(W:List Value)(hc:lastC (hisC S k)=none)(v:Value)(hv1:v.oneCell'=true): FnWR Tryz.prog 73 ((1000061,valM v (partsD' dT X S))::(1000062,blk q 158 (demsV L))::acM T₁ p₁ x₁ T₂ p₂ x₂ T₃ p₃ x₃) T g (W) (W) ([aggV ([nI S.length,nI (totC S)]++[v]),nI k,.slice (some ⟨q,0,none⟩) L.length L.length].map D.v) (.tuple #[aggV [nI k,nB 1],.int .i64 9]):=by
 refine FnWR.of (n:=39) (kb:=1000091) (kw:=1000092) Tryz.func73 rfl (by kernel_rfl) Tryz.ntmps73 (by simp) (by decide) (vbL_cons (vL rfl) (vbL_cons (vL rfl) (vbL_cons (vL rfl) (vbL_cons (vL rfl) (vbL_cons (vL rfl) (vbL_cons (vL rfl) (vbL_cons (vL rfl) (vbL_cons (vL rfl) vbL_nil)))))))) (by decide) (by decide) [(0,.v (aggV ([nI S.length,nI (totC S)]++[v]))),(1,.v (nI k)),(2,.v (.slice (some ⟨q,0,none⟩) L.length L.length))]
  (fun p hp=>by simp only[List.mem_cons,List.not_mem_nil,or_false] at hp; rcases hp with rfl|rfl|rfl<;>exact⟨_,rfl,rfl⟩) fun w₀ w₁ hw=>?_
 have hBg:w₀.heap.size<=g:=Nat.le_of_eq hw
 refine GS (TN 0 (RN ?_));refine ZB 1000003 rfl fun b3 ⟨hBb3,hb3⟩=>?_
 have hlt_p₁_b3:=hb3 1000063 p₁ _ _ rfl
 have hlt_p₂_b3:=hb3 1000064 p₂ _ _ rfl
 have hlt_p₃_b3:=hb3 1000065 p₃ _ _ rfl
 refine TN 1 (RN ?_);refine⟨_,_,eff_allocW (n:=39) (d:=6) (k:=1000006) zero49 (by decide),fun b6 hb6=>?_⟩
 have hBb6:=hb6.1
 have hlt_p₁_b6:p₁<b6:=hb6.2.1 1000063 _ _ _ rfl
 have hlt_p₂_b6:p₂<b6:=hb6.2.1 1000064 _ _ _ rfl
 have hlt_p₃_b6:p₃<b6:=hb6.2.1 1000065 _ _ _ rfl
 have hw_b6:=hb6.2.2 1000092 _ _ _ rfl
 refine TL (RVN 1 rfl ?_);refine GT (RS (OpOk.tlP (k:=1000061) [nI S.length,nI (totC S)] (ok_loadA (s:=1000003) (by decide) U44 rfl (size44.of (rfl)) rfl rfl) rfl hv1 (by decide) rfl) ?_);refine RM rfl ?_;refine RS (ok_callB (dRead_at X S k hk hn none 11 (hc.symm) rfl) con_tup_mono (A2 rfl rfl)) ?_;refine RM rfl ?_;refine RS (ok_extract rfl rfl) ?_;refine RS (ok_extract rfl rfl) ?_;refine RVN 2 rfl ?_;refine QS (GT (RV 2 rfl ?_));refine RT ?_;refine RN (A.yes rfl ?_);refine GS (TF 2 (RM rfl ?_));refine RS (ok_litS [(0,nI k),(1,nB 1)] [nI k,nB 1] ⟨rfl,rfl,rfl,rfl,trivial⟩ (buildPB _ _)) ?_;refine RN ?_;refine ZA 1000006 (size49.of rfl) hBb6 rfl rfl rfl (LV 6 rfl (LeftS.cons (t:=1000003) rfl (Surv.blkT (by first|decide|(rcases hT with rfl|rfl<;>decide))) (LeftS.cons (t:=1000061) rfl (Surv.valM (Surv.parts (.inl (by first|decide|(rcases hT with rfl|rfl<;>decide))))) (LeftS.cons (t:=1000062) rfl (Surv.blkT (by first|decide|(rcases hT with rfl|rfl<;>decide))) (LB 1000063 rfl (LB 1000064 rfl (LB 1000065 rfl (LeftS.cons (t:=1000091) rfl (Surv.blkT (by first|decide|(rcases hT with rfl|rfl<;>decide))) (LeftS.cons (t:=1000092) rfl (Surv.wroteN hw_b6) (LQ 1900000 rfl (LQ 1900001 rfl (LQ 1900002 rfl LN)))))))))))) ?_;refine TL (RVN 1 rfl ?_);refine A.ret (End.ret_then ?_);exact End.wroteRT (kb:=1000091) (kw:=1000092) (s:=1000006) (.inl rfl) rfl U49 rfl (size49.of rfl) rfl rfl rfl rfl (rfl) rfl
theorem acc_no(T:Nat)(hT:T=72∨T=60)(g:Nat)(h2g:3<=g)(T₁ p₁:Nat)(x₁:List Value)(T₂ p₂:Nat)(x₂:List Value)(T₃ p₃:Nat)(x₃:List Value)(hp₁:p₁<g)(hp₂:p₂<g)(hp₃:p₃<g)(X:Nat->Prop)(S:Dk)(k:Nat)(hk:k<S.length)(hn:S.length<=10922)(q:Nat)(L:List Dem)(hL:L.length<=1000)(W:List Value)(hc:lastC (hisC S k)=none): FnWR Tryz.prog 73 ((1000062,blk q 158 (demsV L))::acM T₁ p₁ x₁ T₂ p₂ x₂ T₃ p₃ x₃) T g (W) (W) [diskD dT X S,.v (nI k),.v (.slice (some ⟨q,0,none⟩) L.length L.length)] (.tuple #[aggV [nI k,nB 1],.int .i64 9]) :=
 FnWR.tl (k:=1000061) fun v hv1=>acc_no_v T hT g h2g T₁ p₁ x₁ T₂ p₂ x₂ T₃ p₃ x₃ hp₁ hp₂ hp₃ X S k hk hn q L hL W hc v hv1
set_option maxHeartbeats 1000000 in
theorem acc_bad_v(T:Nat)(hT:T=72∨T=60)(g:Nat)(h2g:3<=g)(T₁ p₁:Nat)(x₁:List Value)(T₂ p₂:Nat)(x₂:List Value)(T₃ p₃:Nat)(x₃:List Value)(hp₁:p₁<g)(hp₂:p₂<g)(hp₃:p₃<g)(X:Nat->Prop)(S:Dk)(k:Nat)(hk:k<S.length)(hn:S.length<=10922)(q:Nat)(L:List Dem)(hL:L.length<=1000)(l:List UInt8)(hc:lastC (hisC S k)=some l)(W:Nat->List Value)(ok:Nat->Bool)(hF:∀ b i,i<L.length->l.length<=256->(∀ k,k<i->ok k=true)->FnWR Tryz.prog (demAt L i).2.1 (acN T₁ p₁ x₁ T₂ p₂ x₂ T₃ p₃ x₃ b l) T g (W i) (W (i+1)) ([.v (.slice (some ⟨b,0,none⟩) l.length l.length)]++(demAt L i).2.2.map D.v) (.bool (ok i)))(r:Nat)(hr:r<L.length)(hb:∀ i,i<r->ok i=true)(hr0:ok r=false)(v:Value)(hv1:v.oneCell'=true): FnWR Tryz.prog 73 ((1000061,valM v (partsD' dT X S))::(1000062,blk q 158 (demsV L))::acM T₁ p₁ x₁ T₂ p₂ x₂ T₃ p₃ x₃) T g (W 0) (W (r+1)) ([aggV ([nI S.length,nI (totC S)]++[v]),nI k,.slice (some ⟨q,0,none⟩) L.length L.length].map D.v) (.tuple #[aggV [nI k,nB (demAt L r).1],.int .i64 9]):=by
 refine FnWR.of (n:=39) (kb:=1000091) (kw:=1000092) Tryz.func73 rfl (by kernel_rfl) Tryz.ntmps73 (by simp) (by decide) (vbL_cons (vL rfl) (vbL_cons (vL rfl) (vbL_cons (vL rfl) (vbL_cons (vL rfl) (vbL_cons (vL rfl) (vbL_cons (vL rfl) (vbL_cons (vL rfl) (vbL_cons (vL rfl) vbL_nil)))))))) (by decide) (by decide) [(0,.v (aggV ([nI S.length,nI (totC S)]++[v]))),(1,.v (nI k)),(2,.v (.slice (some ⟨q,0,none⟩) L.length L.length))]
  (fun p hp=>by simp only[List.mem_cons,List.not_mem_nil,or_false] at hp; rcases hp with rfl|rfl|rfl<;>exact⟨_,rfl,rfl⟩) fun w₀ w₁ hw=>?_
 have hBg:w₀.heap.size<=g:=Nat.le_of_eq hw
 refine GS (TN 0 (RN ?_));refine ZB 1000003 rfl fun b3 ⟨hBb3,hb3⟩=>?_
 have hlt_p₁_b3:=hb3 1000063 p₁ _ _ rfl
 have hlt_p₂_b3:=hb3 1000064 p₂ _ _ rfl
 have hlt_p₃_b3:=hb3 1000065 p₃ _ _ rfl
 refine TN 1 (RN ?_);refine⟨_,_,eff_allocW (n:=39) (d:=6) (k:=1000006) zero49 (by decide),fun b6 hb6=>?_⟩
 have hBb6:=hb6.1
 have hlt_p₁_b6:p₁<b6:=hb6.2.1 1000063 _ _ _ rfl
 have hlt_p₂_b6:p₂<b6:=hb6.2.1 1000064 _ _ _ rfl
 have hlt_p₃_b6:p₃<b6:=hb6.2.1 1000065 _ _ _ rfl
 have hw_b6:=hb6.2.2 1000092 _ _ _ rfl
 refine TL (RVN 1 rfl ?_);refine GT (RS (OpOk.tlP (k:=1000061) [nI S.length,nI (totC S)] (ok_loadA (s:=1000003) (by decide) U44 rfl (size44.of (rfl)) rfl rfl) rfl hv1 (by decide) rfl) ?_);refine RM rfl ?_;refine RS (ok_callB (dRead_at X S k hk hn (some l) 0 (hc.symm) rfl) con_tup_mono (A2 rfl rfl)) ?_;refine RM rfl ?_;refine RS (ok_extract rfl rfl) ?_;refine RS (ok_extract rfl rfl) ?_;refine RVN 2 rfl ?_;refine A.openCon (t:=8) (k:=1000008) rfl fun bc hBbc hlc=>?_
 refine QS (GT (RV 2 rfl ?_));refine RF ?_;refine RN (A.no rfl ?_);refine QK (QS (GT (RM rfl ?_)));refine RS (ok_lenV U161 rfl) ?_;refine RVN 1 rfl ?_;refine A.block ?_;refine A.loop (ι:=Nat) (fun i=>i<=r) (fun i=>[(1,.v (nI (k))),(6,.v (ptr b6)),(8,.v (.slice (some ⟨bc,0,none⟩) l.length l.length)),(22,.v (.slice (some ⟨q,0,none⟩) L.length L.length)),(23,.v (nI (L.length))),(24,.v (nI (i))),(1000091,blk g T (W i)),(1000092,wroteD T g w₁),(1000006,blk b6 49 [.int .i64 0,.int .u8 0]),(1000008,blk bc 5 (l.map byteV)),(1000062,blk q 158 (demsV L)),(1000063,blk p₁ T₁ x₁),(1000064,blk p₂ T₂ x₂),(1000065,blk p₃ T₃ x₃),(1900000,tab 0 (sizV)),(1900001,tab 1 (H8.list.map u32V)),(1900002,tab 2 (K64.map u32V))]) (fun i=>L.length-i) 0 ?_ ?_ ?_
 ·exact Nat.zero_le _
 ·exact(KC 1 rfl (KC 6 rfl (KC 8 rfl (KC 22 rfl (KC 23 rfl (KE 24 rfl (by rfl) (KC 1000091 rfl (KC 1000092 rfl (KC 1000006 rfl (KC 1000008 rfl (KC 1000062 rfl (KC 1000063 rfl (KC 1000064 rfl (KC 1000065 rfl (KC 1900000 rfl (KC 1900001 rfl (KC 1900002 rfl KN)))))))))))))))))
 intro i hG
 refine GT (RB rfl rfl rfl ?_);refine RT ?_;refine RN (QS (A.yes rfl ?_));refine QK (QSB (GS (TN 2 (RS (ok_indexS i U161 infoDM rfl rfl rfl (by omega)) ?_))));refine RS (ok_loadP (s:=1000062) (by decide) U158 rfl size158 rfl rfl (by rw[demsV_len]; omega) (by show((demsV L).drop (0+i*2)).take 2=demV (demAt L i); rw[Nat.zero_add]; exact demsV_at (by omega))) ?_;refine RN ?_;refine⟨_,_,eff_allocW (n:=39) (d:=11) (k:=1000011) zero158 (by decide),fun b11 hb11=>?_⟩
 have hBb11:=hb11.1
 have hlt_q_b11:q<b11:=hb11.2.1 1000062 _ _ _ rfl
 have hlt_p₁_b11:p₁<b11:=hb11.2.1 1000063 _ _ _ rfl
 have hlt_p₂_b11:p₂<b11:=hb11.2.1 1000064 _ _ _ rfl
 have hlt_p₃_b11:p₃<b11:=hb11.2.1 1000065 _ _ _ rfl
 have hw_b11:=hb11.2.2 1000092 _ _ _ rfl
 refine TF 3 (RN ?_);refine ZA 1000011 (size158.of rfl) hBb11 rfl rfl rfl (LeftS.cons (t:=1000006) rfl (Surv.blkT (by first|decide|(rcases hT with rfl|rfl<;>decide))) (LeftS.cons (t:=1000008) rfl (Surv.blkT (by first|decide|(rcases hT with rfl|rfl<;>decide))) (LB 1000062 rfl (LB 1000063 rfl (LB 1000064 rfl (LB 1000065 rfl (LeftS.cons (t:=1000091) rfl (Surv.blkT (by first|decide|(rcases hT with rfl|rfl<;>decide))) (LeftS.cons (t:=1000092) rfl (Surv.wroteN hw_b11) (LQ 1900000 rfl (LQ 1900001 rfl (LQ 1900002 rfl (LW [1,6,8,11,22,23,24] rfl)))))))))))) ?_;refine TL (RN (GS (TF 3 (Rf field158_1 ?_))));refine RLV 1000011 U156 rfl rfl rfl ?_;refine RVN 1 rfl ?_;refine⟨_,eff_callVR (n:=39) (s:=1000091) (us:=(demAt L i).2.2) (ds:=[.v (.slice (some ⟨bc,0,none⟩) l.length l.length)]) (hF bc i (by omega) hlc (fun k hk=>hb k (by have hG':=hG; omega))) (subL_M (Sub.cons rfl (Sub.cons rfl (Sub.cons rfl (Sub.cons rfl (Sub.cons rfl (Sub.cons rfl (Sub.cons rfl KN))))))) (vbL_cons (vL rfl) (vbL_cons (vL rfl) (vbL_cons (vL rfl) (vbL_cons (vL rfl) (vbL_cons (vL rfl) (vbL_cons (vL rfl) (vbL_cons (vL rfl) vbL_nil)))))))) rfl (A1 rfl) hBg rfl (by decide) (by decide) (LeftS.cons (t:=1000006) rfl (Surv.blkT (by first|decide|(rcases hT with rfl|rfl<;>decide))) (LeftS.cons (t:=1000008) rfl (Surv.blkT (by first|decide|(rcases hT with rfl|rfl<;>decide))) (LeftS.cons (t:=1000011) rfl (Surv.blkT (by first|decide|(rcases hT with rfl|rfl<;>decide))) (LeftS.cons (t:=1000062) rfl (Surv.blkT (by first|decide|(rcases hT with rfl|rfl<;>decide))) (LB 1000063 rfl (LB 1000064 rfl (LB 1000065 rfl (LeftS.cons (t:=1000092) rfl (Surv.wrote) (LQ 1900000 rfl (LQ 1900001 rfl (LQ 1900002 rfl (LW [1,6,8,11,22,23,24] rfl)))))))))))),?_⟩
 refine TL (RVN 1 rfl ?_);refine A.cond rfl (fun hc32=>?_) (fun hc32=>?_)
 ·have hir:i=r:=by
   rcases Nat.lt_or_ge i r with h|h
   ·rw[hb i h] at hc32; simp at hc32
   ·omega
  subst hir
  refine GS (TF 4 (RM rfl ?_));refine Rf field158_0 ?_;refine RLV 1000011 U47 rfl rfl rfl ?_;refine RS (ok_litS [(0,nI k),(1,nB (demAt L i).1)] [nI k,nB (demAt L i).1] ⟨rfl,rfl,rfl,rfl,trivial⟩ (buildPB _ _)) ?_;refine RN ?_;refine ZA 1000006 (size49.of rfl) hBb6 rfl rfl rfl (LV 6 rfl (LeftS.cons (t:=1000008) rfl (Surv.blkT (by first|decide|(rcases hT with rfl|rfl<;>decide))) (LeftS.cons (t:=1000011) rfl (Surv.blkT (by first|decide|(rcases hT with rfl|rfl<;>decide))) (LeftS.cons (t:=1000062) rfl (Surv.blkT (by first|decide|(rcases hT with rfl|rfl<;>decide))) (LB 1000063 rfl (LB 1000064 rfl (LB 1000065 rfl (LeftS.cons (t:=1000091) rfl (Surv.blkT (by first|decide|(rcases hT with rfl|rfl<;>decide))) (LeftS.cons (t:=1000092) rfl (Surv.wroteN hw_b6) (LQ 1900000 rfl (LQ 1900001 rfl (LQ 1900002 rfl LN)))))))))))) ?_;refine TL (RVN 1 rfl ?_);refine A.ret (End.ret_block (End.ret_then (End.ret_then (End.ret_block (End.ret_then ?_)))));exact End.wroteRT (kb:=1000091) (kw:=1000092) (s:=1000006) (.inl rfl) rfl U49 rfl (size49.of rfl) rfl rfl rfl rfl (rfl) rfl
 ·have hir:i<r:=by
   rcases Nat.lt_or_ge i r with h|h
   ·exact h
   ·rw[show i=r by omega,hr0] at hc32; simp at hc32
  refine A.skip (End.normal_block (EN (GTE (RB rfl rfl rfl ?_))));refine Rw (i+1) ?_;refine RVN 1 rfl ?_;refine End.normal_then ?_;refine End.again (i+1) ?_ ?_ ?_
  ·show _<=_; omega
  ·show _-_<_-_; omega
  ·exact(Sv [1,6,8,22,23,24,1000091,1000092,1000006,1000008,1000062,1000063,1000064,1000065,1900000,1900001,1900002] rfl)
theorem acc_bad(T:Nat)(hT:T=72∨T=60)(g:Nat)(h2g:3<=g)(T₁ p₁:Nat)(x₁:List Value)(T₂ p₂:Nat)(x₂:List Value)(T₃ p₃:Nat)(x₃:List Value)(hp₁:p₁<g)(hp₂:p₂<g)(hp₃:p₃<g)(X:Nat->Prop)(S:Dk)(k:Nat)(hk:k<S.length)(hn:S.length<=10922)(q:Nat)(L:List Dem)(hL:L.length<=1000)(l:List UInt8)(hc:lastC (hisC S k)=some l)(W:Nat->List Value)(ok:Nat->Bool)(hF:∀ b i,i<L.length->l.length<=256->(∀ k,k<i->ok k=true)->FnWR Tryz.prog (demAt L i).2.1 (acN T₁ p₁ x₁ T₂ p₂ x₂ T₃ p₃ x₃ b l) T g (W i) (W (i+1)) ([.v (.slice (some ⟨b,0,none⟩) l.length l.length)]++(demAt L i).2.2.map D.v) (.bool (ok i)))(r:Nat)(hr:r<L.length)(hb:∀ i,i<r->ok i=true)(hr0:ok r=false): FnWR Tryz.prog 73 ((1000062,blk q 158 (demsV L))::acM T₁ p₁ x₁ T₂ p₂ x₂ T₃ p₃ x₃) T g (W 0) (W (r+1)) [diskD dT X S,.v (nI k),.v (.slice (some ⟨q,0,none⟩) L.length L.length)] (.tuple #[aggV [nI k,nB (demAt L r).1],.int .i64 9]) :=
 FnWR.tl (k:=1000061) fun v hv1=>acc_bad_v T hT g h2g T₁ p₁ x₁ T₂ p₂ x₂ T₃ p₃ x₃ hp₁ hp₂ hp₃ X S k hk hn q L hL l hc W ok hF r hr hb hr0 v hv1
set_option maxHeartbeats 1000000 in
theorem acc_ok_v(T:Nat)(hT:T=72∨T=60)(g:Nat)(h2g:3<=g)(T₁ p₁:Nat)(x₁:List Value)(T₂ p₂:Nat)(x₂:List Value)(T₃ p₃:Nat)(x₃:List Value)(hp₁:p₁<g)(hp₂:p₂<g)(hp₃:p₃<g)(X:Nat->Prop)(S:Dk)(k:Nat)(hk:k<S.length)(hn:S.length<=10922)(q:Nat)(L:List Dem)(hL:L.length<=1000)(l:List UInt8)(hc:lastC (hisC S k)=some l)(W:Nat->List Value)(ok:Nat->Bool)(hF:∀ b i,i<L.length->l.length<=256->(∀ k,k<i->ok k=true)->FnWR Tryz.prog (demAt L i).2.1 (acN T₁ p₁ x₁ T₂ p₂ x₂ T₃ p₃ x₃ b l) T g (W i) (W (i+1)) ([.v (.slice (some ⟨b,0,none⟩) l.length l.length)]++(demAt L i).2.2.map D.v) (.bool (ok i)))(hb:∀ i,i<L.length->ok i=true)(v:Value)(hv1:v.oneCell'=true): FnWR Tryz.prog 73 ((1000061,valM v (partsD' dT X S))::(1000062,blk q 158 (demsV L))::acM T₁ p₁ x₁ T₂ p₂ x₂ T₃ p₃ x₃) T g (W 0) (W L.length) ([aggV ([nI S.length,nI (totC S)]++[v]),nI k,.slice (some ⟨q,0,none⟩) L.length L.length].map D.v) (.tuple #[aggV [.int .i64 0,nB 0],.int .i64 0]):=by
 refine FnWR.of (n:=39) (kb:=1000091) (kw:=1000092) Tryz.func73 rfl (by kernel_rfl) Tryz.ntmps73 (by simp) (by decide) (vbL_cons (vL rfl) (vbL_cons (vL rfl) (vbL_cons (vL rfl) (vbL_cons (vL rfl) (vbL_cons (vL rfl) (vbL_cons (vL rfl) (vbL_cons (vL rfl) (vbL_cons (vL rfl) vbL_nil)))))))) (by decide) (by decide) [(0,.v (aggV ([nI S.length,nI (totC S)]++[v]))),(1,.v (nI k)),(2,.v (.slice (some ⟨q,0,none⟩) L.length L.length))]
  (fun p hp=>by simp only[List.mem_cons,List.not_mem_nil,or_false] at hp; rcases hp with rfl|rfl|rfl<;>exact⟨_,rfl,rfl⟩) fun w₀ w₁ hw=>?_
 have hBg:w₀.heap.size<=g:=Nat.le_of_eq hw
 refine GS (TN 0 (RN ?_));refine ZB 1000003 rfl fun b3 ⟨hBb3,hb3⟩=>?_
 have hlt_p₁_b3:=hb3 1000063 p₁ _ _ rfl
 have hlt_p₂_b3:=hb3 1000064 p₂ _ _ rfl
 have hlt_p₃_b3:=hb3 1000065 p₃ _ _ rfl
 refine TN 1 (RN ?_);refine⟨_,_,eff_allocW (n:=39) (d:=6) (k:=1000006) zero49 (by decide),fun b6 hb6=>?_⟩
 have hBb6:=hb6.1
 have hlt_p₁_b6:p₁<b6:=hb6.2.1 1000063 _ _ _ rfl
 have hlt_p₂_b6:p₂<b6:=hb6.2.1 1000064 _ _ _ rfl
 have hlt_p₃_b6:p₃<b6:=hb6.2.1 1000065 _ _ _ rfl
 have hw_b6:=hb6.2.2 1000092 _ _ _ rfl
 refine TL (RVN 1 rfl ?_);refine GT (RS (OpOk.tlP (k:=1000061) [nI S.length,nI (totC S)] (ok_loadA (s:=1000003) (by decide) U44 rfl (size44.of (rfl)) rfl rfl) rfl hv1 (by decide) rfl) ?_);refine RM rfl ?_;refine RS (ok_callB (dRead_at X S k hk hn (some l) 0 (hc.symm) rfl) con_tup_mono (A2 rfl rfl)) ?_;refine RM rfl ?_;refine RS (ok_extract rfl rfl) ?_;refine RS (ok_extract rfl rfl) ?_;refine RVN 2 rfl ?_;refine A.openCon (t:=8) (k:=1000008) rfl fun bc hBbc hlc=>?_
 refine QS (GT (RV 2 rfl ?_));refine RF ?_;refine RN (A.no rfl ?_);refine QK (QS (GT (RM rfl ?_)));refine RS (ok_lenV U161 rfl) ?_;refine RVN 1 rfl ?_;refine A.block ?_;refine A.loop (ι:=Nat) (fun i=>i<=L.length) (fun i=>[(1,.v (nI (k))),(6,.v (ptr b6)),(8,.v (.slice (some ⟨bc,0,none⟩) l.length l.length)),(22,.v (.slice (some ⟨q,0,none⟩) L.length L.length)),(23,.v (nI (L.length))),(24,.v (nI (i))),(1000091,blk g T (W i)),(1000092,wroteD T g w₁),(1000006,blk b6 49 [.int .i64 0,.int .u8 0]),(1000008,blk bc 5 (l.map byteV)),(1000062,blk q 158 (demsV L)),(1000063,blk p₁ T₁ x₁),(1000064,blk p₂ T₂ x₂),(1000065,blk p₃ T₃ x₃),(1900000,tab 0 (sizV)),(1900001,tab 1 (H8.list.map u32V)),(1900002,tab 2 (K64.map u32V))]) (fun i=>L.length-i) 0 ?_ ?_ ?_
 ·exact Nat.zero_le _
 ·exact(KC 1 rfl (KC 6 rfl (KC 8 rfl (KC 22 rfl (KC 23 rfl (KE 24 rfl (by rfl) (KC 1000091 rfl (KC 1000092 rfl (KC 1000006 rfl (KC 1000008 rfl (KC 1000062 rfl (KC 1000063 rfl (KC 1000064 rfl (KC 1000065 rfl (KC 1900000 rfl (KC 1900001 rfl (KC 1900002 rfl KN)))))))))))))))))
 intro i hG
 refine GV rfl (QS ?_);refine A.cond rfl (fun hc25=>?_) (fun hc25=>?_)
 ·have hi:i<L.length:=by simp at hc25; omega
  refine QK (QSB (GS (TN 2 (RS (ok_indexS i U161 infoDM rfl rfl rfl (by omega)) ?_))));refine RS (ok_loadP (s:=1000062) (by decide) U158 rfl size158 rfl rfl (by rw[demsV_len]; omega) (by show((demsV L).drop (0+i*2)).take 2=demV (demAt L i); rw[Nat.zero_add]; exact demsV_at (by omega))) ?_;refine RN ?_;refine⟨_,_,eff_allocW (n:=39) (d:=11) (k:=1000011) zero158 (by decide),fun b11 hb11=>?_⟩
  have hBb11:=hb11.1
  have hlt_q_b11:q<b11:=hb11.2.1 1000062 _ _ _ rfl
  have hlt_p₁_b11:p₁<b11:=hb11.2.1 1000063 _ _ _ rfl
  have hlt_p₂_b11:p₂<b11:=hb11.2.1 1000064 _ _ _ rfl
  have hlt_p₃_b11:p₃<b11:=hb11.2.1 1000065 _ _ _ rfl
  have hw_b11:=hb11.2.2 1000092 _ _ _ rfl
  refine TF 3 (RN ?_);refine ZA 1000011 (size158.of rfl) hBb11 rfl rfl rfl (LeftS.cons (t:=1000006) rfl (Surv.blkT (by first|decide|(rcases hT with rfl|rfl<;>decide))) (LeftS.cons (t:=1000008) rfl (Surv.blkT (by first|decide|(rcases hT with rfl|rfl<;>decide))) (LB 1000062 rfl (LB 1000063 rfl (LB 1000064 rfl (LB 1000065 rfl (LeftS.cons (t:=1000091) rfl (Surv.blkT (by first|decide|(rcases hT with rfl|rfl<;>decide))) (LeftS.cons (t:=1000092) rfl (Surv.wroteN hw_b11) (LQ 1900000 rfl (LQ 1900001 rfl (LQ 1900002 rfl (LW [1,6,8,11,22,23,24] rfl)))))))))))) ?_;refine TL (RN (GS (TF 3 (Rf field158_1 ?_))));refine RLV 1000011 U156 rfl rfl rfl ?_;refine RVN 1 rfl ?_;refine⟨_,eff_callVR (n:=39) (s:=1000091) (us:=(demAt L i).2.2) (ds:=[.v (.slice (some ⟨bc,0,none⟩) l.length l.length)]) (hF bc i (by omega) hlc (fun k hk=>hb k (by have hG':=hG; omega))) (subL_M (Sub.cons rfl (Sub.cons rfl (Sub.cons rfl (Sub.cons rfl (Sub.cons rfl (Sub.cons rfl (Sub.cons rfl KN))))))) (vbL_cons (vL rfl) (vbL_cons (vL rfl) (vbL_cons (vL rfl) (vbL_cons (vL rfl) (vbL_cons (vL rfl) (vbL_cons (vL rfl) (vbL_cons (vL rfl) vbL_nil)))))))) rfl (A1 rfl) hBg rfl (by decide) (by decide) (LeftS.cons (t:=1000006) rfl (Surv.blkT (by first|decide|(rcases hT with rfl|rfl<;>decide))) (LeftS.cons (t:=1000008) rfl (Surv.blkT (by first|decide|(rcases hT with rfl|rfl<;>decide))) (LeftS.cons (t:=1000011) rfl (Surv.blkT (by first|decide|(rcases hT with rfl|rfl<;>decide))) (LeftS.cons (t:=1000062) rfl (Surv.blkT (by first|decide|(rcases hT with rfl|rfl<;>decide))) (LB 1000063 rfl (LB 1000064 rfl (LB 1000065 rfl (LeftS.cons (t:=1000092) rfl (Surv.wrote) (LQ 1900000 rfl (LQ 1900001 rfl (LQ 1900002 rfl (LW [1,6,8,11,22,23,24] rfl)))))))))))),?_⟩
  refine TL (RS (ok_not rfl) ?_);refine RZ (.bool false) (by rw[hb i (by omega)]; rfl) ?_;refine RN (A.no rfl ?_);refine A.skip (End.normal_block (EN (GTE (RB rfl rfl rfl ?_))));refine Rw (i+1) ?_;refine RVN 1 rfl ?_;refine End.normal_then ?_;refine End.again (i+1) ?_ ?_ ?_
  ·show _<=_; omega
  ·show _-_<_-_; omega
  ·exact(Sv [1,6,8,22,23,24,1000091,1000092,1000006,1000008,1000062,1000063,1000064,1000065,1900000,1900001,1900002] rfl)
 ·have hi2:i=L.length:=by simp at hc25; omega
  refine A.exit (End.exit_then (End.exit_then (End.exit_here (EN (GS (TF 1 (RS (ok_lit [] [.int .i64 0,.int .u8 0] (fun _ _=>rfl) (by kernel_rfl)) ?_)))))));refine RN ?_;refine ZA 1000006 (size49.of rfl) hBb6 rfl rfl rfl (LV 6 rfl (LeftS.cons (t:=1000008) rfl (Surv.blkT (by first|decide|(rcases hT with rfl|rfl<;>decide))) (LeftS.cons (t:=1000062) rfl (Surv.blkT (by first|decide|(rcases hT with rfl|rfl<;>decide))) (LB 1000063 rfl (LB 1000064 rfl (LB 1000065 rfl (LeftS.cons (t:=1000091) rfl (Surv.blkT (by first|decide|(rcases hT with rfl|rfl<;>decide))) (LeftS.cons (t:=1000092) rfl (Surv.wroteN hw_b6) (LQ 1900000 rfl (LQ 1900001 rfl (LQ 1900002 rfl LN))))))))))) ?_;refine TL (RVN 1 rfl ?_);refine A.ret ?_;exact End.wroteRT (kb:=1000091) (kw:=1000092) (s:=1000006) (.inl rfl) rfl U49 rfl (size49.of rfl) rfl rfl rfl rfl (by rw[hi2]) rfl
theorem acc_ok(T:Nat)(hT:T=72∨T=60)(g:Nat)(h2g:3<=g)(T₁ p₁:Nat)(x₁:List Value)(T₂ p₂:Nat)(x₂:List Value)(T₃ p₃:Nat)(x₃:List Value)(hp₁:p₁<g)(hp₂:p₂<g)(hp₃:p₃<g)(X:Nat->Prop)(S:Dk)(k:Nat)(hk:k<S.length)(hn:S.length<=10922)(q:Nat)(L:List Dem)(hL:L.length<=1000)(l:List UInt8)(hc:lastC (hisC S k)=some l)(W:Nat->List Value)(ok:Nat->Bool)(hF:∀ b i,i<L.length->l.length<=256->(∀ k,k<i->ok k=true)->FnWR Tryz.prog (demAt L i).2.1 (acN T₁ p₁ x₁ T₂ p₂ x₂ T₃ p₃ x₃ b l) T g (W i) (W (i+1)) ([.v (.slice (some ⟨b,0,none⟩) l.length l.length)]++(demAt L i).2.2.map D.v) (.bool (ok i)))(hb:∀ i,i<L.length->ok i=true): FnWR Tryz.prog 73 ((1000062,blk q 158 (demsV L))::acM T₁ p₁ x₁ T₂ p₂ x₂ T₃ p₃ x₃) T g (W 0) (W L.length) [diskD dT X S,.v (nI k),.v (.slice (some ⟨q,0,none⟩) L.length L.length)] (.tuple #[aggV [.int .i64 0,nB 0],.int .i64 0]) :=
 FnWR.tl (k:=1000061) fun v hv1=>acc_ok_v T hT g h2g T₁ p₁ x₁ T₂ p₂ x₂ T₃ p₃ x₃ hp₁ hp₂ hp₃ X S k hk hn q L hL l hc W ok hF hb v hv1
end
end Go.Proofs.YtjigbkamgfidkaaGreatDoor
