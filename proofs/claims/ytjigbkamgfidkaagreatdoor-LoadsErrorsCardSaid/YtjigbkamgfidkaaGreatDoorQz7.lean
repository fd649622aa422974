/- OWN TEXTS. -/
import Derived.Test.YtjigbkamgfidkaaGreatDoorQz6
namespace Go.Proofs.YtjigbkamgfidkaaGreatDoor
set_option linter.unusedVariables false
set_option linter.unusedSimpArgs false
set_option maxRecDepth 20000
open Go Go.RowKit
variable {n:Nat} {d:D} {xs:List Value} {w:World} {i:Nat} {b:Nat} {k:Nat} {B:Nat} {E:Env} {l:Nat} {j:Nat} {m:Nat} {s:Nat} {nb:Nat} {E':Env} {sz:Nat} {fn:Func} {g:Nat} {td:TypeDesc} {w₀:World} {pos:String} {after:Array Edge} {ty:TypeId}
theorem emp_ck17(j:Nat): (NodT.emp 0 j).ck=0:=emp_ck15 (by decide) j
theorem bs_cap(h1:1<=n)(h2:n<=4096): bs n (hg n+1)<=10922:=by
 have h:=tot_mono (n:=n) (show hg n+1<=6 by have:=hg_le n; omega)
 have h6:tot n 6<=1365:=by simp only[tot,un]; omega
 unfold bs; omega
theorem bs_node(hl:l<=hg n)(hj:j<un n (l+1))(hs:s<2): bs n l+2*j+s<bs n (hg n+1):=by
 have h:=bs_mono (n:=n) (show l+1<=hg n+1 by omega)
 rw[bs_succ] at h; omega
def gN (b:List UInt8):NodT:=if geN b=0 then gtN b else NodT.emp 0 0
theorem gN_fit(b:List UInt8): (gN b).Fit:=by
 unfold gN; split
 ·rename_i h; exact gtN_fit (geN_szN h)
 ·exact NodT.emp_fit 0 (by decide)
theorem gN_ck(b:List UInt8): (gN b).ck=0:=by
 unfold gN; split
 ·rename_i h; exact gtN_ck h
 ·exact emp_ck17 0
theorem nGet_any(b:List UInt8): FnM Tryz.prog 98 tabS [byt b] (.v (.tuple #[aggV (gN b).v,.int .i64 (geN b)])):=by
 unfold gN; by_cases h:geN b=0
 ·rw[if_pos h,h]; exact nGet_ok b h
 ·rw[if_neg h]; exact nGet_bad b h
def ndS (n l j s:Nat):Nat:=bs n l+2*j+s
structure AccT where
 x:NodT
 s:Nat
 f:Nat
def AccT.no (s f:Nat):AccT:=⟨NodT.emp 0 0,s,f⟩
def AccT.e (a:AccT):Int:=if a.f=0 then 0 else 9
def AccT.pv (a:AccT):List Value:=[nI a.s,nB a.f]
def AccT.v (a:AccT):Value:=.tuple #[aggV a.x.v,aggV a.pv,.int .i64 a.e]
def PlcN (n l j:Nat) (x:NodT):Prop:=(x.l.toNat=l∧x.j=j)∧ftN n x=0
open Classical in
noncomputable def accB (n l j:Nat) (w:List UInt8) (k:Nat) (b:List UInt8):AccT:=if geN b≠0 then .no k 2 else if ¬ PlcN n l j (gN b) then .no k 3 else if sha (gN b).bl≠w then .no k 4 else ⟨gN b,0,0⟩
noncomputable def accC (n l j:Nat) (w:List UInt8) (k:Nat):Con->AccT
 | none=>.no k 1
 | some b=>accB n l j w k b
noncomputable def accT (n:Nat) (S:Dk) (l j s:Nat) (w:List UInt8):AccT:=accC n l j w (ndS n l j s) (lastC (hisC S (ndS n l j s)))
def accY:Con->NodT
 | none=>NodT.emp 0 0
 | some b=>gN b
theorem accC_ok{w:List UInt8}{c:Con}(h:(accC n l j w k c).f=0): accC n l j w k c=⟨accY c,0,0⟩:=by
 cases c with
 | none=>cases h
 | some b =>
  revert h
  simp only[accC,accB,accY]
  split
  ·intro h; cases h
  ·split
   ·intro h; cases h
   ·split
    ·intro h; cases h
    ·intro _; rfl
theorem accC_no{w:List UInt8}{c:Con}(h:(accC n l j w k c).f≠0): (accC n l j w k c).x=NodT.emp 0 0∧(accC n l j w k c).s=k:=by
 cases c with
 | none=>exact⟨rfl,rfl⟩
 | some b =>
  revert h
  simp only[accC,accB]
  split
  ·intro _; exact⟨rfl,rfl⟩
  ·split
   ·intro _; exact⟨rfl,rfl⟩
   ·split
    ·intro _; exact⟨rfl,rfl⟩
    ·intro h; exact absurd rfl h
theorem accY_fit(c:Con): (accY c).Fit:=by
 cases c with
 | none=>exact NodT.emp_fit 0 (by decide)
 | some b=>exact gN_fit b
theorem accC_fit(n l j:Nat)(w:List UInt8)(k:Nat)(c:Con): (accC n l j w k c).x.Fit:=by
 by_cases h:(accC n l j w k c).f=0
 ·rw[accC_ok h]; exact accY_fit c
 ·rw[(accC_no h).1]; exact NodT.emp_fit 0 (by decide)
theorem accT_fit(n:Nat)(S:Dk)(l j s:Nat)(w:List UInt8): (accT n S l j s w).x.Fit:=accC_fit _ _ _ _ _ _
theorem accT_spec{S:Dk}{w:List UInt8}(h:(accT n S l j s w).f=0): PlcN n l j (accT n S l j s w).x∧sha (accT n S l j s w).x.bl=w∧(accT n S l j s w).x.ck=0∧(accT n S l j s w).s=0:=by
 unfold accT at h ⊢
 cases hc:lastC (hisC S (ndS n l j s)) with
 | none=>rw[hc] at h; cases h
 | some b =>
  rw[hc] at h
  revert h
  simp only[accC,accB]
  split
  ·intro h; cases h
  ·split
   ·intro h; cases h
   ·rename_i h2
    split
    ·intro h; cases h
    ·rename_i h3; intro _; exact⟨Classical.not_not.1 h2,Classical.not_not.1 h3,gN_ck b,rfl⟩
theorem flatDg: flat Tryz.prog 3 32=some (List.replicate 32 .u8):=by kernel_rfl
theorem plV_inj{a c d:Nat}: plV a b=plV c d↔a=c∧b=d:=by
 simp only[plV,List.cons.injEq,Value.int.injEq,true_and,and_true,nI]
 omega
set_option maxHeartbeats 1000000 in
theorem load1_fn(n:Nat)(h1:1<=n)(h2:n<=4096)(l j:Nat)(w:List UInt8)(hw32:w.length=32)(g p5 p7 p9 bc:Nat)(b:List UInt8)(hb:b.length<=256)(h2g:3<=g)(hp₁:p5<g)(hp₂:p7<g)(hp₃:p9<g)(X:NodT)(hX:X.Fit): FnWR Tryz.prog 97 (acN 3 p5 [nI n] 131 p7 (plV l j) 32 p9 (w.map byteV) bc b) 72 g (X.v) ((gN b).v) ([.slice (some ⟨bc,0,none⟩) b.length b.length,ptr g].map D.v) (.bool (decide (geN b=0))):=by
 refine FnWR.of (n:=12) (kb:=1000091) (kw:=1000092) Tryz.func97 rfl (by kernel_rfl) Tryz.ntmps97 (by simp) (by decide) (vbL_cons (vL rfl) (vbL_cons (vL rfl) (vbL_cons (vL rfl) (vbL_cons (vL rfl) (vbL_cons (vL rfl) (vbL_cons (vL rfl) (vbL_cons (vL rfl) vbL_nil))))))) (by decide) (by decide) [(0,.v (.slice (some ⟨bc,0,none⟩) b.length b.length)),(1,.v (ptr g))]
  (fun p hp=>by simp only[List.mem_cons,List.not_mem_nil,or_false] at hp; rcases hp with rfl|rfl<;>exact⟨_,rfl,rfl⟩) fun w₀ w₁ hw=>?_
 have hBg:w₀.heap.size<=g:=Nat.le_of_eq hw
 refine GV rfl (GV rfl (GS (TF 5 (RS (OpOk.fact (ok_move rfl) (d:=byt b) (s:=1000008) (by decide) rfl (slice_byt b rfl (Nat.le_refl _) (by simp only[maxLen]; omega) (by rw[List.drop_zero,List.take_of_length_le (by simp)]))) ?_))));refine RS (ok_callMK (nGet_any b) (SubK.of (Sub.cons rfl KN) tabS_v) (A1 rfl)) ?_;refine RVN 3 rfl ?_;refine⟨_,eff_storeA (n:=12) (s:=1000091) (size72.of ((gN_fit b).len)) rfl rfl (NodT.one _) hBg rfl (by rw[hX.len,(gN_fit b).len]) (LV 9 rfl (LT 1000008 rfl (LT 1000063 rfl (LT 1000064 rfl (LT 1000065 rfl (LeftS.cons (t:=1000092) rfl (Surv.wrote) (LQ 1900000 rfl (LQ 1900001 rfl (LQ 1900002 rfl LN))))))))),?_⟩
 refine TL (RVN 1 rfl ?_);refine GT (RV 2 rfl ?_);refine RZ (.bool (decide (geN b=0))) (rfl) ?_;refine RVN 1 rfl ?_;refine A.ret ?_;exact End.wroteR (kb:=1000091) (kw:=1000092) (.inl rfl) rfl rfl rfl (rfl) rfl
set_option maxHeartbeats 1000000 in
theorem load2_fn(n:Nat)(h1:1<=n)(h2:n<=4096)(l j:Nat)(w:List UInt8)(hw32:w.length=32)(g p5 p7 p9 bc:Nat)(b:List UInt8)(hb:b.length<=256)(h2g:3<=g)(hp₁:p5<g)(hp₂:p7<g)(hp₃:p9<g)(X:NodT)(hX:X.Fit)(ok:Bool)(hok:ok=true↔PlcN n l j X): FnWR Tryz.prog 99 (acN 3 p5 [nI n] 131 p7 (plV l j) 32 p9 (w.map byteV) bc b) 72 g (X.v) (X.v) ([.slice (some ⟨bc,0,none⟩) b.length b.length,ptr g,ptr p7,ptr p5].map D.v) (.bool ok):=by
 refine FnWR.of (n:=16) (kb:=1000091) (kw:=1000092) Tryz.func99 rfl (by kernel_rfl) Tryz.ntmps99 (by simp) (by decide) (vbL_cons (vL rfl) (vbL_cons (vL rfl) (vbL_cons (vL rfl) (vbL_cons (vL rfl) (vbL_cons (vL rfl) (vbL_cons (vL rfl) (vbL_cons (vL rfl) vbL_nil))))))) (by decide) (by decide) [(0,.v (.slice (some ⟨bc,0,none⟩) b.length b.length)),(1,.v (ptr g)),(2,.v (ptr p7)),(3,.v (ptr p5))]
  (fun p hp=>by simp only[List.mem_cons,List.not_mem_nil,or_false] at hp; rcases hp with rfl|rfl|rfl|rfl<;>exact⟨_,rfl,rfl⟩) fun w₀ w₁ hw=>?_
 have hBg:w₀.heap.size<=g:=Nat.le_of_eq hw
 refine GV rfl ?_
 by_cases hpl:X.l.toNat=l∧X.j=j
 ·refine GTD (RL 1000091 U72 rfl rfl (size72.of (hX.len)) ?_);refine RS (ok_call (placeOf_fn X hX) (A1 rfl)) ?_;refine RL 1000064 U131 rfl rfl (size131.of rfl) ?_;refine RS (ok_eqlT 3 (decide (X.l.toNat=l∧X.j=j)) flatP (by decide) (by kernel_rfl) (by kernel_rfl) rfl rfl (kinP _ _) (kinP _ _) (decide_eq_true_iff.trans plV_inj.symm)) ?_;refine RZ (.bool true) (congrArg Value.bool (decide_eq_true hpl)) ?_;refine RM rfl ?_;refine RQ (ok_loadV (s:=1000063) (by decide) U3 rfl rfl rfl (rfl)) ?_;refine RQ (ok_loadA (s:=1000091) (by decide) U72 rfl (size72.of (hX.len)) rfl rfl) ?_;refine RQ (ok_call (nFits_fn n X hX) (A2 rfl rfl)) ?_;refine RV 2 rfl ?_;refine RZ (.bool ok) (congrArg Value.bool (by rw[Bool.eq_iff_iff,hok,beq_iff_eq]; exact⟨fun h=>⟨hpl,h⟩,fun h=>h.2⟩)) ?_;refine RVN 1 rfl ?_;refine A.ret ?_;exact End.wroteR (kb:=1000091) (kw:=1000092) (.inl rfl) rfl rfl rfl (rfl) rfl
 ·refine GTD (RL 1000091 U72 rfl rfl (size72.of (hX.len)) ?_);refine RS (ok_call (placeOf_fn X hX) (A1 rfl)) ?_;refine RL 1000064 U131 rfl rfl (size131.of rfl) ?_;refine RS (ok_eqlT 3 (decide (X.l.toNat=l∧X.j=j)) flatP (by decide) (by kernel_rfl) (by kernel_rfl) rfl rfl (kinP _ _) (kinP _ _) (decide_eq_true_iff.trans plV_inj.symm)) ?_;refine RZ (.bool false) (congrArg Value.bool (decide_eq_false hpl)) ?_;refine RV 6 rfl ?_;refine RZ (.bool ok) (congrArg Value.bool (by rw[Bool.eq_iff_iff,hok]; exact⟨fun h=>absurd h (by decide),fun h=>absurd h.1 hpl⟩)) ?_;refine RVN 1 rfl ?_;refine A.ret ?_;exact End.wroteR (kb:=1000091) (kw:=1000092) (.inl rfl) rfl rfl rfl (rfl) rfl
set_option maxHeartbeats 1000000 in
theorem load3_fn(n:Nat)(h1:1<=n)(h2:n<=4096)(l j:Nat)(w:List UInt8)(hw32:w.length=32)(g p5 p7 p9 bc:Nat)(b:List UInt8)(hb:b.length<=256)(h2g:3<=g)(hp₁:p5<g)(hp₂:p7<g)(hp₃:p9<g)(X:NodT)(hX:X.Fit)(hk:X.ck=0): FnWR Tryz.prog 100 (acN 3 p5 [nI n] 131 p7 (plV l j) 32 p9 (w.map byteV) bc b) 72 g (X.v) (X.v) ([.slice (some ⟨bc,0,none⟩) b.length b.length,ptr g,ptr p9].map D.v) (.bool (decide (sha X.bl=w))):=by
 refine FnWR.of (n:=15) (kb:=1000091) (kw:=1000092) Tryz.func100 rfl (by kernel_rfl) Tryz.ntmps100 (by simp) (by decide) (vbL_cons (vL rfl) (vbL_cons (vL rfl) (vbL_cons (vL rfl) (vbL_cons (vL rfl) (vbL_cons (vL rfl) (vbL_cons (vL rfl) (vbL_cons (vL rfl) vbL_nil))))))) (by decide) (by decide) [(0,.v (.slice (some ⟨bc,0,none⟩) b.length b.length)),(1,.v (ptr g)),(2,.v (ptr p9))]
  (fun p hp=>by simp only[List.mem_cons,List.not_mem_nil,or_false] at hp; rcases hp with rfl|rfl|rfl<;>exact⟨_,rfl,rfl⟩) fun w₀ w₁ hw=>?_
 have hBg:w₀.heap.size<=g:=Nat.le_of_eq hw
 refine GV rfl (GS (TN 5 (RL 1000091 U72 rfl rfl (size72.of (hX.len)) ?_)));refine RS (ok_callMK (nDigest_ok X hX hk) (SubK.of (Sub.cons rfl (Sub.cons rfl (Sub.cons rfl KN))) tabN_v) (A1 rfl)) ?_;refine RVN 3 rfl ?_;refine⟨_,_,eff_allocW (n:=15) (d:=5) (k:=1000005) zero32 (by decide),fun b5 hb5=>?_⟩
 have hBb5:=hb5.1
 have hlt_p9_b5:p9<b5:=hb5.2.1 1000065 _ _ _ rfl
 have hw_b5:=hb5.2.2 1000092 _ _ _ rfl
 refine TF 6 (RN ?_);refine⟨_,eff_storeA (n:=15) (s:=1000005) (size32.of (by rw[List.length_map,sha_length])) rfl rfl (all_bytes _) hBb5 rfl (by rw[List.length_map,sha_length]; rfl) (LT 1000008 rfl (LT 1000063 rfl (LT 1000064 rfl (LB 1000065 rfl (LT 1000091 rfl (LeftS.cons (t:=1000092) rfl (Surv.wroteN hw_b5) (LQ 1900000 rfl (LQ 1900001 rfl (LQ 1900002 rfl (LW [2,5,11] rfl)))))))))),?_⟩
 refine TL (RVN 1 rfl ?_);refine GT (RL 1000005 U32 rfl rfl (size32.of (by rw[List.length_map,sha_length])) ?_);refine RL 1000065 U32 rfl rfl (size32.of (by rw[List.length_map,hw32])) ?_;refine RS (ok_eqlT (n:=3) (decide (sha X.bl=w)) flatDg (by decide) (by kernel_rfl) (by kernel_rfl) rfl rfl (kinB (sha_length _)) (kinB hw32) (decB _ _)) ?_;refine RVN 1 rfl ?_;refine A.ret ?_;exact End.wroteR (kb:=1000091) (kw:=1000092) (.inl rfl) rfl rfl rfl (rfl) rfl
abbrev ldL (g p5 p7 p9:Nat):List Dem:=[(2,97,[ptr g]),(3,99,[ptr g,ptr p7,ptr p5]),(4,100,[ptr g,ptr p9])]
open Classical in
noncomputable abbrev ldOk (n l j:Nat) (w b:List UInt8) (i:Nat):Bool:=if i=0 then decide (geN b=0) else if i=1 then decide (PlcN n l j (gN b)) else decide (sha (gN b).bl=w)
theorem ld_ask(n:Nat)(h1:1<=n)(h2:n<=4096)(l j:Nat)(w:List UInt8)(hw32:w.length=32)(g p5 p7 p9 bc:Nat)(b:List UInt8)(hb:b.length<=256)(h2g:3<=g)(hp₁:p5<g)(hp₂:p7<g)(hp₃:p9<g): ∀ i,i<3->FnWR Tryz.prog (demAt (ldL g p5 p7 p9) i).2.1 (acN 3 p5 [nI n] 131 p7 (plV l j) 32 p9 (w.map byteV) bc b) 72 g (if i=0 then (NodT.emp 0 0).v else (gN b).v) (if i+1=0 then (NodT.emp 0 0).v else (gN b).v) ([.v (.slice (some ⟨bc,0,none⟩) b.length b.length)]++(demAt (ldL g p5 p7 p9) i).2.2.map D.v) (.bool (ldOk n l j w b i))
 | 0,_=>load1_fn n h1 h2 l j w hw32 g p5 p7 p9 bc b hb h2g hp₁ hp₂ hp₃ (NodT.emp 0 0) (NodT.emp_fit 0 (by decide))
 | 1,_=>load2_fn n h1 h2 l j w hw32 g p5 p7 p9 bc b hb h2g hp₁ hp₂ hp₃ (gN b) (gN_fit b) _ (by simp[ldOk])
 | 2,_=>load3_fn n h1 h2 l j w hw32 g p5 p7 p9 bc b hb h2g hp₁ hp₂ hp₃ (gN b) (gN_fit b) (gN_ck b)
 | i+3,h=>absurd h (by omega)
theorem ld_acc(n:Nat)(h1:1<=n)(h2:n<=4096)(l j:Nat)(w:List UInt8)(hw32:w.length=32)(g p5 p7 p9:Nat)(h2g:3<=g)(hp₁:p5<g)(hp₂:p7<g)(hp₃:p9<g)(X:Nat->Prop)(S:Dk)(k:Nat)(hk:k<S.length)(hn:S.length<=10922)(q:Nat): FnWR Tryz.prog 73 ((1000062,blk q 158 (demsV (ldL g p5 p7 p9)))::acM 3 p5 [nI n] 131 p7 (plV l j) 32 p9 (w.map byteV)) 72 g (NodT.emp 0 0).v (accY (lastC (hisC S k))).v [diskD dT X S,.v (nI k),.v (.slice (some ⟨q,0,none⟩) 3 3)] (.tuple #[aggV (accC n l j w k (lastC (hisC S k))).pv,.int .i64 (accC n l j w k (lastC (hisC S k))).e]):=by
 cases hc:lastC (hisC S k) with
 | none=>exact acc_no 72 (.inl rfl) g h2g 3 p5 [nI n] 131 p7 (plV l j) 32 p9 (w.map byteV) hp₁ hp₂ hp₃ X S k hk hn q (ldL g p5 p7 p9) (by simp) _ hc
 | some b =>
  by_cases k0:geN b=0
  ·by_cases k1:PlcN n l j (gN b)
   ·by_cases k2:sha (gN b).bl=w
    ·have e:accC n l j w k (some b)=⟨gN b,0,0⟩:=by simp only[accC,accB]; rw[if_neg (not_not_intro k0),if_neg (not_not_intro k1),if_neg (not_not_intro k2)]
     rw[e]
     exact acc_ok 72 (.inl rfl) g h2g 3 p5 [nI n] 131 p7 (plV l j) 32 p9 (w.map byteV) hp₁ hp₂ hp₃ X S k hk hn q (ldL g p5 p7 p9) (by simp) b hc (fun i=>if i=0 then (NodT.emp 0 0).v else (gN b).v) (ldOk n l j w b) (fun bc i hi hb _=>ld_ask n h1 h2 l j w hw32 g p5 p7 p9 bc b hb h2g hp₁ hp₂ hp₃ i hi) fun i hi=>by match i,hi with
      | 0,_=>simp[ldOk,k0]
      | 1,_=>simp[ldOk,k1]
      | 2,_=>simp[ldOk,k2]
    ·have e:accC n l j w k (some b) = .no k 4:=by simp only[accC,accB]; rw[if_neg (not_not_intro k0),if_neg (not_not_intro k1),if_pos k2]
     rw[e]
     exact acc_bad 72 (.inl rfl) g h2g 3 p5 [nI n] 131 p7 (plV l j) 32 p9 (w.map byteV) hp₁ hp₂ hp₃ X S k hk hn q (ldL g p5 p7 p9) (by simp) b hc (fun i=>if i=0 then (NodT.emp 0 0).v else (gN b).v) (ldOk n l j w b) (fun bc i hi hb _=>ld_ask n h1 h2 l j w hw32 g p5 p7 p9 bc b hb h2g hp₁ hp₂ hp₃ i hi) 2 (by simp) (fun i hi=>by match i,hi with
      | 0,_=>simp[ldOk,k0]
      | 1,_=>simp[ldOk,k1]) (by simp[ldOk,k2])
   ·have e:accC n l j w k (some b) = .no k 3:=by simp only[accC,accB]; rw[if_neg (not_not_intro k0),if_pos k1]
    rw[e]
    exact acc_bad 72 (.inl rfl) g h2g 3 p5 [nI n] 131 p7 (plV l j) 32 p9 (w.map byteV) hp₁ hp₂ hp₃ X S k hk hn q (ldL g p5 p7 p9) (by simp) b hc (fun i=>if i=0 then (NodT.emp 0 0).v else (gN b).v) (ldOk n l j w b) (fun bc i hi hb _=>ld_ask n h1 h2 l j w hw32 g p5 p7 p9 bc b hb h2g hp₁ hp₂ hp₃ i hi) 1 (by simp) (fun i hi=>by match i,hi with
      | 0,_=>simp[ldOk,k0]) (by simp[ldOk,k1])
  ·have e:accC n l j w k (some b) = .no k 2:=by simp only[accC,accB]; rw[if_pos k0]
   rw[e]
   exact acc_bad 72 (.inl rfl) g h2g 3 p5 [nI n] 131 p7 (plV l j) 32 p9 (w.map byteV) hp₁ hp₂ hp₃ X S k hk hn q (ldL g p5 p7 p9) (by simp) b hc (fun i=>if i=0 then (NodT.emp 0 0).v else (gN b).v) (ldOk n l j w b) (fun bc i hi hb _=>ld_ask n h1 h2 l j w hw32 g p5 p7 p9 bc b hb h2g hp₁ hp₂ hp₃ i hi) 0 (by simp) (fun i hi=>by cases hi) (by simp[ldOk,k0])
set_option maxHeartbeats 4000000 in
theorem load_fn(n:Nat)(h1:1<=n)(h2:n<=4096)(l j:Nat)(hl:l<=hg n)(hj:j<un n (l+1))(s:Nat)(hs:s<2)(wd:List UInt8)(hw32:wd.length=32)(X:Nat->Prop)(S:Dk)(hS:S.length=bs n (hg n+1)): FnM Tryz.prog 61 tabN [.v (nI (n)),diskD dT X S,.v (aggV (plV l j)),.v (nI (s)),.v (aggV (wd.map byteV))] (.v ((accT n S l j s wd).v)):=by
 have hn:S.length<=10922:=by rw[hS]; exact bs_cap h1 h2
 have hks:ndS n l j s<S.length:=by rw[hS]; exact bs_node hl hj hs
 refine FnM.of Tryz.func61 rfl (by kernel_rfl) Tryz.ntmps61 (by simp) (by decide) (fun w=>[(0,.v (nI (n))),(1,old w.heap.size (diskD dT X S)),(2,.v (aggV (plV l j))),(3,.v (nI (s))),(4,.v (aggV (wd.map byteV))),(1900000,tab 0 (sizV)),(1900001,tab 1 (H8.list.map u32V)),(1900002,tab 2 (K64.map u32V))]) (fun w=>(StartM.v rfl (StartM.old rfl (StartM.v rfl (StartM.v rfl (StartM.v rfl (StartM.m (by simp[tabN]) (by decide) (StartM.m (by simp[tabN]) (by decide) (StartM.m (by simp[tabN]) (by decide) StartM.nil))))))))) fun w₀ hM=>?_
 have htab:=tabN_hi hM
 refine A.nameTl (t:=1) (k:=1000200) rfl fun v hv1=>?_
 refine GS (TN 0 (RN ?_));refine⟨_,_,eff_box1 (n:=48) (d:=5) (k:=1000005) rfl rfl (by decide),fun b5 hb5=>?_⟩
 have hBb5:=hb5.1
 refine TN 1 (RN ?_);refine ZB 1000006 rfl fun b6 ⟨hBb6,hb6⟩=>?_
 have hlt_b5_b6:=hb6 1000005 b5 _ _ rfl
 refine TN 2 (RN ?_);refine ZB 1000007 rfl fun b7 ⟨hBb7,hb7⟩=>?_
 have hlt_b5_b7:=hb7 1000005 b5 _ _ rfl
 have hlt_b6_b7:=hb7 1000006 b6 _ _ rfl
 refine TN 3 (RN ?_);refine ZB 1000009 rfl fun b9 ⟨hBb9,hb9⟩=>?_
 have hlt_b5_b9:=hb9 1000005 b5 _ _ rfl
 have hlt_b6_b9:=hb9 1000006 b6 _ _ rfl
 have hlt_b7_b9:=hb9 1000007 b7 _ _ rfl
 refine TN 4 (RN ?_);refine ZN 1000010 zero72 fun b10 ⟨hBb10,hb10⟩=>?_
 have hlt_b5_b10:=hb10 1000005 b5 _ _ rfl
 have hlt_b6_b10:=hb10 1000006 b6 _ _ rfl
 have hlt_b7_b10:=hb10 1000007 b7 _ _ rfl
 have hlt_b9_b10:=hb10 1000009 b9 _ _ rfl
 refine TN 5 (RN ?_);refine ZN 1000011 zero49 fun b11 ⟨hBb11,hb11⟩=>?_
 have hlt_b5_b11:=hb11 1000005 b5 _ _ rfl
 have hlt_b6_b11:=hb11 1000006 b6 _ _ rfl
 have hlt_b7_b11:=hb11 1000007 b7 _ _ rfl
 have hlt_b9_b11:=hb11 1000009 b9 _ _ rfl
 have hlt_b10_b11:=hb11 1000010 b10 _ _ rfl
 refine TL (RVN 1 rfl ?_);refine GT (RLV 1000005 U3 rfl rfl rfl ?_);refine Rf field131_0 ?_;refine RLV 1000007 U3 rfl rfl rfl ?_;refine Rf field131_1 ?_;refine RLV 1000007 U3 rfl rfl rfl ?_;refine RM rfl ?_;refine RS (ok_call (Node_ok n h1 h2 l j hl hj s hs) (Args.cons rfl (Le.refl _) (A3 rfl rfl rfl))) ?_;refine RVN 5 rfl ?_;refine GS (TN 0 (RN ?_));refine ZN 1000015 zero72 fun b15 ⟨hBb15,hb15⟩=>?_
 have hlt_b5_b15:=hb15 1000005 b5 _ _ rfl
 have hlt_b6_b15:=hb15 1000006 b6 _ _ rfl
 have hlt_b7_b15:=hb15 1000007 b7 _ _ rfl
 have hlt_b9_b15:=hb15 1000009 b9 _ _ rfl
 have hlt_b10_b15:=hb15 1000010 b10 _ _ rfl
 have hlt_b11_b15:=hb15 1000011 b11 _ _ rfl
 refine TL (RN (GS (TN 8 (RS (OpOk.tlO (k:=1000200) [nI S.length,nI (totC S)] (ok_loadA (s:=1000006) (by decide) U44 rfl (size44.of (rfl)) rfl rfl) rfl hv1 (by decide) rfl) ?_))));refine RM rfl ?_;refine RS (ok_makeFuncN [ptr b15] ⟨rfl,trivial⟩) ?_;refine RS (ok_litS [(0,nB 2),(1,.func (.func 97) #[] #[ptr b15])] [nB 2,.func (.func 97) #[] #[ptr b15]] ⟨rfl,rfl,rfl,rfl,trivial⟩ (by kernel_rfl)) ?_;refine RS (ok_makeFuncN [ptr b15,ptr b7,ptr b5] ⟨rfl,rfl,rfl,trivial⟩) ?_;refine RS (ok_litS [(0,nB 3),(1,.func (.func 99) #[] #[ptr b15,ptr b7,ptr b5])] [nB 3,.func (.func 99) #[] #[ptr b15,ptr b7,ptr b5]] ⟨rfl,rfl,rfl,rfl,trivial⟩ (by kernel_rfl)) ?_;refine RS (ok_makeFuncN [ptr b15,ptr b9] ⟨rfl,rfl,trivial⟩) ?_;refine RS (ok_litS [(0,nB 4),(1,.func (.func 100) #[] #[ptr b15,ptr b9])] [nB 4,.func (.func 100) #[] #[ptr b15,ptr b9]] ⟨rfl,rfl,rfl,rfl,trivial⟩ (by kernel_rfl)) ?_;refine RN ?_;refine ZM 1000037 (fun B'=>ok_buildG (m:=3) [(0,aggV [nB 2,.func (.func 97) #[] #[ptr b15]]),(1,aggV [nB 3,.func (.func 99) #[] #[ptr b15,ptr b7,ptr b5]]),(2,aggV [nB 4,.func (.func 100) #[] #[ptr b15,ptr b9]])] (demsV (ldL b15 b5 b7 b9)) U161 infoDM ⟨rfl,rfl,rfl,rfl,rfl,rfl,trivial⟩ (by kernel_rfl) (by decide) (by decide)) rfl fun b37 ⟨hBb37,hb37⟩=>?_
 have hlt_b5_b37:=hb37 1000005 b5 _ _ rfl
 have hlt_b6_b37:=hb37 1000006 b6 _ _ rfl
 have hlt_b7_b37:=hb37 1000007 b7 _ _ rfl
 have hlt_b9_b37:=hb37 1000009 b9 _ _ rfl
 have hlt_b10_b37:=hb37 1000010 b10 _ _ rfl
 have hlt_b11_b37:=hb37 1000011 b11 _ _ rfl
 have hlt_b15_b37:=hb37 1000015 b15 _ _ rfl
 refine TF 9 (RN ?_);refine⟨_,eff_callWR (n:=48) (s:=1000015) (ld_acc n h1 h2 l j wd hw32 b15 b5 b7 b9 (by omega) (by omega) (by omega) (by omega) X S (ndS n l j s) hks hn b37) ((fun p hp=>by simp only[List.mem_cons,List.not_mem_nil,or_false] at hp; rcases hp with rfl|rfl|rfl|rfl|rfl|rfl|rfl; exact⟨1000037,by decide,rfl⟩; exact⟨1900000,by decide,rfl⟩; exact⟨1900001,by decide,rfl⟩; exact⟨1900002,by decide,rfl⟩; exact⟨1000005,by decide,rfl⟩; exact⟨1000007,by decide,rfl⟩; exact⟨1000009,by decide,rfl⟩)) (Args.cons rfl (Le.old _ _) (A2 rfl rfl)) hBb15 rfl (by decide) (by decide) (LT 1000005 rfl (LT 1000006 rfl (LT 1000007 rfl (LT 1000009 rfl (LB 1000010 rfl (LT 1000011 rfl (LT 1000037 rfl (LO 1000200 rfl (LQ 1900000 rfl (LQ 1900001 rfl (LQ 1900002 rfl (LW [10,11,15] rfl)))))))))))),?_⟩
 refine TN 13 (RVN 3 rfl ?_);refine ZN 1000016 zero49 fun b16 ⟨hBb16,hb16⟩=>?_
 have hlt_b5_b16:=hb16 1000005 b5 _ _ rfl
 have hlt_b6_b16:=hb16 1000006 b6 _ _ rfl
 have hlt_b7_b16:=hb16 1000007 b7 _ _ rfl
 have hlt_b9_b16:=hb16 1000009 b9 _ _ rfl
 have hlt_b10_b16:=hb16 1000010 b10 _ _ rfl
 have hlt_b11_b16:=hb16 1000011 b11 _ _ rfl
 have hlt_b15_b16:=hb16 1000015 b15 _ _ rfl
 have hlt_b37_b16:=hb16 1000037 b37 _ _ rfl
 refine TF 14 (RN ?_);refine ZA 1000016 (size49.of rfl) hBb16 rfl rfl rfl (LT 1000005 rfl (LT 1000006 rfl (LT 1000007 rfl (LT 1000009 rfl (LT 1000010 rfl (LB 1000011 rfl (LT 1000015 rfl (LT 1000037 rfl (LO 1000200 rfl (LQ 1900000 rfl (LQ 1900001 rfl (LQ 1900002 rfl (LW [10,11,15,16,40] rfl))))))))))))) ?_;refine TL (RVN 1 rfl ?_);refine A.sub (Sv [10,11,15,16,17,1000005,1000006,1000007,1000009,1000010,1000011,1000015,1000016,1000037,1000200,1900000,1900001,1900002] rfl) ?_;refine QS (GV rfl ?_);refine A.cond rfl (fun hc42=>?_) (fun hc42=>?_)
 ·have hf:(accC n l j wd (ndS n l j s) (lastC (hisC S (ndS n l j s)))).f≠0:=fun h=>by simp[AccT.e,h] at hc42
  refine A.regsMK [⟨3,b10,1000010,72,(NodT.emp 0 0).v,(NodT.emp 0 0).v,aggV ((NodT.emp 0 0).v)⟩,⟨4,b11,1000011,49,[.int .i64 0,.int .u8 0],(accC n l j wd (ndS n l j s) (lastC (hisC S (ndS n l j s)))).pv,aggV ((accC n l j wd (ndS n l j s) (lastC (hisC S (ndS n l j s)))).pv)⟩] [_,_,_,undef,undef,_] (by kernel_rfl) (by kernel_rfl) (by kernel_rfl) (by kernel_rfl) (Sv [10,11,15,16,17,42,1000005,1000006,1000007,1000009,1000015,1000016,1000037,1000200,1900000,1900001,1900002] rfl)
   (Many.next (_) rfl rfl rfl (.inl rfl) FromN.all (ok_lit [] (NodT.v (NodT.emp 0 0)) (fun _ _=>rfl) (by kernel_rfl))
    (Many.next (_) rfl rfl rfl (.inl rfl) FromN.all (ok_loadA (s:=1000016) (by decide) U49 rfl (size49.of (rfl)) rfl rfl)
    (Many.next (_) rfl rfl rfl (.inl rfl) FromN.all (ok_move rfl)
    (Many.store ⟨3,b10,1000010,72,(NodT.emp 0 0).v,(NodT.emp 0 0).v,aggV ((NodT.emp 0 0).v)⟩ List.mem_cons_self rfl ((43,.v _)::_) rfl (FromN.op 0 (by kernel_rfl) rfl rfl FromN.all) rfl rfl
    (Many.store ⟨4,b11,1000011,49,[.int .i64 0,.int .u8 0],(accC n l j wd (ndS n l j s) (lastC (hisC S (ndS n l j s)))).pv,aggV ((accC n l j wd (ndS n l j s) (lastC (hisC S (ndS n l j s)))).pv)⟩ (List.mem_cons_of_mem _ List.mem_cons_self) rfl ((44,.v _)::_) rfl (FromN.op 1 (by kernel_rfl) rfl rfl FromN.all) rfl rfl
    (Many.next ((45,.v _)::_) rfl rfl rfl (.inl rfl) (FromN.op 2 (by kernel_rfl) rfl rfl FromN.all) (ok_assign rfl)
    Many.nil))))))
   (FromE.op (t:=12) 5 rfl rfl FromE.all) (fun s hs=>by simp only[List.mem_cons,List.not_mem_nil,or_false] at hs; rcases hs with rfl|rfl<;>rfl) (fun s hs=>by simp only[List.mem_cons,List.not_mem_nil,or_false] at hs; rcases hs with rfl|rfl<;>first|exact hBb10|exact hBb11)
   (fun s hs s' hs'=>by simp only[List.mem_cons,List.not_mem_nil,or_false] at hs hs'; rcases hs with rfl|rfl<;>rcases hs' with rfl|rfl<;>first|exact .inl rfl|exact .inr ⟨fun h=>by simp at h,fun h=>by dsimp only at h; omega⟩)
   (fun s hs=>by simp only[List.mem_cons,List.not_mem_nil,or_false] at hs; rcases hs with rfl|rfl<;>first|exact SV.whole (size72.of (rfl)) (rfl) (NodT.one _)|exact SV.whole (size49.of (rfl)) (rfl) (rfl)) (fun s hs=>by simp only[List.mem_cons,List.not_mem_nil,or_false] at hs; rcases hs with rfl|rfl<;>(dsimp only; exact(LV 10 rfl (LV 11 rfl (LV 15 rfl (LV 16 rfl (LV 17 rfl (LV 42 rfl (LT 1000005 rfl (LT 1000006 rfl (LT 1000007 rfl (LT 1000009 rfl (LB 1000015 rfl (LB 1000016 rfl (LT 1000037 rfl (LO 1000200 rfl (LQ 1900000 rfl (LQ 1900001 rfl (LQ 1900002 rfl LN))))))))))))))))))) ?_
  refine A.sub (Sv [10,11,12,1000005,1000006,1000007,1000009,1000010,1000011,1000015,1000016,1000037,1000200,1900000,1900001,1900002] rfl) ?_;refine A.ret (End.ret_then ?_)
  first|exact End.cell3V (s:=1000010) (s':=1000011) rfl U72 U49 rfl rfl (size72.of rfl) (size49.of rfl) rfl rfl rfl rfl rfl (by show _=AccT.v _; unfold accT AccT.v; rw[(accC_no hf).1])|exact End.cell3V (s:=1000010) (s':=1000011) rfl U72 U49 rfl rfl (size72.of (accY_fit _).len) (size49.of rfl) rfl rfl rfl rfl rfl (by show _=AccT.v _; unfold accT; rw[accC_ok hf]; rfl)
 ·have hf:(accC n l j wd (ndS n l j s) (lastC (hisC S (ndS n l j s)))).f=0:=Classical.byContradiction fun h=>by simp[AccT.e,h] at hc42
  refine QK (GS (TF 2 (RL 1000015 U72 rfl rfl (size72.of ((accY_fit _).len)) ?_)));refine RS (ok_lit [] [.int .i64 0,.int .u8 0] (fun _ _=>rfl) (by kernel_rfl)) ?_;refine RN ?_;refine⟨_,eff_storeA (n:=48) (s:=1000010) (size72.of (by first|rfl|exact(accY_fit _).len)) rfl rfl (NodT.one _) hBb10 rfl (by first|rfl|(rw[(accY_fit _).len]; rfl)) (LT 1000005 rfl (LT 1000006 rfl (LT 1000007 rfl (LT 1000009 rfl (LT 1000011 rfl (LB 1000015 rfl (LT 1000016 rfl (LT 1000037 rfl (LO 1000200 rfl (LQ 1900000 rfl (LQ 1900001 rfl (LQ 1900002 rfl (LW [10,11,47] rfl))))))))))))),?_⟩
  refine TF 3 (RN ?_);refine ZA 1000011 (size49.of rfl) hBb11 rfl rfl rfl (LT 1000005 rfl (LT 1000006 rfl (LT 1000007 rfl (LT 1000009 rfl (LT 1000010 rfl (LT 1000015 rfl (LB 1000016 rfl (LT 1000037 rfl (LO 1000200 rfl (LQ 1900000 rfl (LQ 1900001 rfl (LQ 1900002 rfl (LW [10,11] rfl))))))))))))) ?_;refine TL (RVN 1 rfl ?_);refine A.ret ?_
  first|exact End.cell3V (s:=1000010) (s':=1000011) rfl U72 U49 rfl rfl (size72.of rfl) (size49.of rfl) rfl rfl rfl rfl rfl (by show _=AccT.v _; unfold accT AccT.v; rw[(accC_no hf).1])|exact End.cell3V (s:=1000010) (s':=1000011) rfl U72 U49 rfl rfl (size72.of (accY_fit _).len) (size49.of rfl) rfl rfl rfl rfl rfl (by show _=AccT.v _; unfold accT; rw[accC_ok hf]; rfl)
section
theorem accT_len(n:Nat)(S:Dk)(l j s:Nat)(w:List UInt8): (accT n S l j s w).x.v.length=274:=(accT_fit n S l j s w).len
theorem child_lt(h0:0<l)(hp:i<pts n l j): 4*j+i<un n (l-1+1):=by
 unfold pts at hp
 rw[show l-1+1=l by omega]; omega
theorem ftN_ok(h1:1<=n)(h2:n<=4096){x:NodT}(h:ftN n x=0): x.ck=0∧x.l.toNat<=hg n∧x.j<un n (x.l.toNat+1)∧∀ i,pts n x.l.toNat x.j<=i->i<4->(x.r i).Z∧(x.e i).Z:=by
 unfold ftN at h
 rw[if_neg (by omega)] at h
 by_cases hk:x.ck=0
 ·rw[if_neg (not_not_intro hk)] at h
  by_cases hp:IsP (n:Int).toNat x.l.toNat x.j
  ·rw[if_neg (not_not_intro hp)] at h
   obtain⟨a,b,ha,hb,h3,h4⟩:=hp
   have ha:x.l.toNat=a:=by omega
   have hb:x.j=b:=by omega
   rw[Int.toNat_natCast] at h3 h4 h
   by_cases hz:∀ i,pts n x.l.toNat x.j<=i->i<4->(x.r i).Z∧(x.e i).Z
   ·exact⟨hk,by omega,by rw[ha,hb]; exact h4,hz⟩
   ·rw[if_neg hz] at h; cases h
  ·rw[if_pos hp] at h; cases h
 ·rw[if_pos hk] at h; exact absurd h hk
theorem Root_1(m:Int)(X:Nat->Prop)(S:Dk)(h:¬ DkOk m S)(c:CelT)(hc:c.Fit): Fn Tryz.prog 25 [.v (.int .i64 (m)),diskD dT X S,.v (aggV c.v)] (.v (.tuple #[aggV (NodT.emp 0 0).v,aggV [.int .i64 0,.int .u8 0],.int .i64 1])):=by
 refine Fn.of Tryz.func25 rfl (by kernel_rfl) Tryz.ntmps25 (by simp) (fun w=>[(0,.v (.int .i64 (m))),(1,old w.heap.size (diskD dT X S)),(2,.v (aggV c.v))]) (fun w=>(Start.v rfl (Start.old rfl (Start.v rfl Start.nil)))) fun w₀=>?_
 refine A.nameTl (t:=1) (k:=1000200) rfl fun v hv1=>?_
 refine GS (TN 0 (RN ?_));refine ZB 1000004 rfl fun b4 ⟨hBb4,hb4⟩=>?_
 refine TN 1 (RN ?_);refine ZB 1000005 rfl fun b5 ⟨hBb5,hb5⟩=>?_
 have hlt_b4_b5:=hb5 1000004 b4 _ _ rfl
 refine TN 2 (RN ?_);refine ZN 1000006 zero72 fun b6 ⟨hBb6,hb6⟩=>?_
 have hlt_b4_b6:=hb6 1000004 b4 _ _ rfl
 have hlt_b5_b6:=hb6 1000005 b5 _ _ rfl
 refine TN 3 (RN ?_);refine ZN 1000007 zero49 fun b7 ⟨hBb7,hb7⟩=>?_
 have hlt_b4_b7:=hb7 1000004 b4 _ _ rfl
 have hlt_b5_b7:=hb7 1000005 b5 _ _ rfl
 have hlt_b6_b7:=hb7 1000006 b6 _ _ rfl
 refine TL (RVN 1 rfl ?_);refine QS (GT (RM rfl ?_));refine RS (OpOk.tlO (k:=1000200) [nI S.length,nI (totC S)] (ok_loadA (s:=1000004) (by decide) U44 rfl (size44.of (rfl)) rfl rfl) rfl hv1 (by decide) rfl) ?_;refine RS (ok_call (ckDisk_1 m X S h) (Args.cons rfl (Le.refl _) (Args.cons rfl (Le.old _ _) Args.nil))) ?_;refine RVN 1 rfl ?_;refine GT (RV 2 rfl ?_);refine RT ?_;refine RN (A.yes rfl ?_);refine GS (TF 3 (RS (ok_lit [] (NodT.v (NodT.emp 0 0)) (fun _ _=>rfl) (by kernel_rfl)) ?_));refine RS (ok_lit [] [.int .i64 0,.int .u8 0] (fun _ _=>rfl) (by kernel_rfl)) ?_;refine RVN 1 rfl ?_;refine⟨_,eff_storeA (n:=37) (s:=1000006) (size72.of (rfl)) rfl rfl (NodT.one _) hBb6 rfl (rfl) (LT 1000004 rfl (LT 1000005 rfl (LT 1000007 rfl (LO 1000200 rfl (LW [6,7,18,19] rfl))))),?_⟩
 refine TF 4 (RN ?_);refine ZA 1000007 (size49.of rfl) hBb7 rfl rfl rfl (LT 1000004 rfl (LT 1000005 rfl (LT 1000006 rfl (LO 1000200 rfl (LW [6,7,19] rfl))))) ?_;refine TL (RVN 1 rfl ?_);refine A.ret (End.ret_then ?_);exact End.cell3V (s:=1000006) (s':=1000007) rfl U72 U49 rfl rfl (size72.of (rfl)) (size49.of (rfl)) rfl rfl rfl rfl rfl (rfl)
set_option maxHeartbeats 1000000 in
theorem Root_fn(n:Nat)(h1:1<=n)(h2:n<=4096)(X:Nat->Prop)(S:Dk)(hS:S.length=bs n (hg n+1))(c:CelT)(hc:c.Fit): FnM Tryz.prog 25 tabN [.v (nI (n)),diskD dT X S,.v (aggV c.v)] (.v ((accT n S (hg n) 0 (c.e%2) c.t).v)):=by
 refine FnM.of Tryz.func25 rfl (by kernel_rfl) Tryz.ntmps25 (by simp) (by decide) (fun w=>[(0,.v (nI (n))),(1,old w.heap.size (diskD dT X S)),(2,.v (aggV c.v)),(1900000,tab 0 (sizV)),(1900001,tab 1 (H8.list.map u32V)),(1900002,tab 2 (K64.map u32V))]) (fun w=>(StartM.v rfl (StartM.old rfl (StartM.v rfl (StartM.m (by simp[tabN]) (by decide) (StartM.m (by simp[tabN]) (by decide) (StartM.m (by simp[tabN]) (by decide) StartM.nil))))))) fun w₀ hM=>?_
 have htab:=tabN_hi hM
 refine A.nameTl (t:=1) (k:=1000200) rfl fun v hv1=>?_
 refine GS (TN 0 (RN ?_));refine ZB 1000004 rfl fun b4 ⟨hBb4,hb4⟩=>?_
 refine TN 1 (RN ?_);refine ZB 1000005 rfl fun b5 ⟨hBb5,hb5⟩=>?_
 have hlt_b4_b5:=hb5 1000004 b4 _ _ rfl
 refine TN 2 (RN ?_);refine ZN 1000006 zero72 fun b6 ⟨hBb6,hb6⟩=>?_
 have hlt_b4_b6:=hb6 1000004 b4 _ _ rfl
 have hlt_b5_b6:=hb6 1000005 b5 _ _ rfl
 refine TN 3 (RN ?_);refine ZN 1000007 zero49 fun b7 ⟨hBb7,hb7⟩=>?_
 have hlt_b4_b7:=hb7 1000004 b4 _ _ rfl
 have hlt_b5_b7:=hb7 1000005 b5 _ _ rfl
 have hlt_b6_b7:=hb7 1000006 b6 _ _ rfl
 refine TL (RVN 1 rfl ?_);refine QS (GT (RM rfl ?_));refine RS (OpOk.tlO (k:=1000200) [nI S.length,nI (totC S)] (ok_loadA (s:=1000004) (by decide) U44 rfl (size44.of (rfl)) rfl rfl) rfl hv1 (by decide) rfl) ?_;refine RS (ok_call (ckDisk_ok n h1 h2 X S hS) (Args.cons rfl (Le.refl _) (Args.cons rfl (Le.old _ _) Args.nil))) ?_;refine RVN 1 rfl ?_;refine GT (RV 2 rfl ?_);refine RF ?_;refine RN (A.no rfl ?_);refine QK (GT (RM rfl ?_));refine RS (ok_call (Height_ok n h1 h2) (A1 rfl)) ?_;refine RVN 5 rfl ?_;refine GD (TD 12 ?_);refine RM rfl ?_;refine RS (OpOk.tlO (k:=1000200) [nI S.length,nI (totC S)] (ok_loadA (s:=1000004) (by decide) U44 rfl (size44.of (rfl)) rfl rfl) rfl hv1 (by decide) rfl) ?_;refine RM rfl ?_;refine RS (ok_litS [(0,nI (hg n))] (plV (hg n) 0) ⟨rfl,rfl,trivial⟩ (by kernel_rfl)) ?_;refine RL 1000005 U35 rfl rfl (size35.of (hc.len)) ?_;refine RS (ok_call (Slot_fn c hc) (A1 rfl)) ?_;refine Rf field35_0 ?_;refine RS (ok_loadP (s:=1000005) (by decide) U32 rfl size32 rfl rfl (by rw[hc.len]; decide) (hc.vt)) ?_;refine RS (ok_callMK (load_fn n h1 h2 (hg n) 0 (Nat.le_refl _) (by rw[un_root h1 h2]; decide) (c.e%2) (Nat.mod_lt _ (by decide)) c.t hc.t X S hS) (SubK.of (Sub.cons rfl (Sub.cons rfl (Sub.cons rfl KN))) tabN_v) (Args.cons rfl (Le.refl _) (Args.cons rfl (Le.old _ _) (A3 rfl rfl rfl)))) ?_;refine RVN 3 rfl ?_;refine⟨_,eff_storeA (n:=37) (s:=1000006) (size72.of (accT_len _ _ _ _ _ _)) rfl rfl (NodT.one _) hBb6 rfl (by rw[accT_len]; rfl) (LT 1000004 rfl (LT 1000005 rfl (LT 1000007 rfl (LO 1000200 rfl (LQ 1900000 rfl (LQ 1900001 rfl (LQ 1900002 rfl (LW [6,7,35,36] rfl)))))))),?_⟩
 refine TD 13 ?_;refine RN ?_;refine ZA 1000007 (size49.of rfl) hBb7 rfl rfl rfl (LT 1000004 rfl (LT 1000005 rfl (LT 1000006 rfl (LO 1000200 rfl (LQ 1900000 rfl (LQ 1900001 rfl (LQ 1900002 rfl (LW [6,7,36] rfl)))))))) ?_;refine TL (RVN 1 rfl ?_);refine A.sub (Sv [6,7,8,1000004,1000005,1000006,1000007,1000200,1900000,1900001,1900002] rfl) ?_;refine A.ret ?_;exact End.cell3V (s:=1000006) (s':=1000007) rfl U72 U49 rfl rfl (size72.of (accT_len _ _ _ _ _ _)) (size49.of (rfl)) rfl rfl rfl rfl rfl (rfl)
theorem Child_1(m:Int)(X:Nat->Prop)(S:Dk)(h:¬ DkOk m S)(x:NodT)(hx:x.Fit)(w':Int): Fn Tryz.prog 29 [.v (.int .i64 (m)),diskD dT X S,.v (aggV x.v),.v (.int .i64 (w'))] (.v (.tuple #[aggV (NodT.emp 0 0).v,aggV [.int .i64 0,.int .u8 0],.int .i64 1])):=by
 refine Fn.of Tryz.func29 rfl (by kernel_rfl) Tryz.ntmps29 (by simp) (fun w=>[(0,.v (.int .i64 (m))),(1,old w.heap.size (diskD dT X S)),(2,.v (aggV x.v)),(3,.v (.int .i64 (w')))]) (fun w=>(Start.v rfl (Start.old rfl (Start.v rfl (Start.v rfl Start.nil))))) fun w₀=>?_
 refine A.nameTl (t:=1) (k:=1000200) rfl fun v hv1=>?_
 refine GS (TN 0 (RN ?_));refine ZB 1000005 rfl fun b5 ⟨hBb5,hb5⟩=>?_
 refine TN 1 (RN ?_);refine ZB 1000006 rfl fun b6 ⟨hBb6,hb6⟩=>?_
 have hlt_b5_b6:=hb6 1000005 b5 _ _ rfl
 refine TN 2 (RN ?_);refine ZN 1000008 zero72 fun b8 ⟨hBb8,hb8⟩=>?_
 have hlt_b5_b8:=hb8 1000005 b5 _ _ rfl
 have hlt_b6_b8:=hb8 1000006 b6 _ _ rfl
 refine TN 3 (RN ?_);refine ZN 1000009 zero49 fun b9 ⟨hBb9,hb9⟩=>?_
 have hlt_b5_b9:=hb9 1000005 b5 _ _ rfl
 have hlt_b6_b9:=hb9 1000006 b6 _ _ rfl
 have hlt_b8_b9:=hb9 1000008 b8 _ _ rfl
 refine TL (RVN 1 rfl ?_);refine QS (GT (RM rfl ?_));refine RS (OpOk.tlO (k:=1000200) [nI S.length,nI (totC S)] (ok_loadA (s:=1000005) (by decide) U44 rfl (size44.of (rfl)) rfl rfl) rfl hv1 (by decide) rfl) ?_;refine RS (ok_call (ckDisk_1 m X S h) (Args.cons rfl (Le.refl _) (Args.cons rfl (Le.old _ _) Args.nil))) ?_;refine RVN 1 rfl ?_;refine GT (RV 2 rfl ?_);refine RT ?_;refine RN (A.yes rfl ?_);refine GS (TF 3 (RS (ok_lit [] (NodT.v (NodT.emp 0 0)) (fun _ _=>rfl) (by kernel_rfl)) ?_));refine RS (ok_lit [] [.int .i64 0,.int .u8 0] (fun _ _=>rfl) (by kernel_rfl)) ?_;refine RVN 1 rfl ?_;refine⟨_,eff_storeA (n:=68) (s:=1000008) (size72.of (rfl)) rfl rfl (NodT.one _) hBb8 rfl (rfl) (LT 1000005 rfl (LB 1000006 rfl (LT 1000009 rfl (LO 1000200 rfl (LW [8,9,22,23] rfl))))),?_⟩
 refine TF 4 (RN ?_);refine ZA 1000009 (size49.of rfl) hBb9 rfl rfl rfl (LT 1000005 rfl (LT 1000006 rfl (LT 1000008 rfl (LO 1000200 rfl (LW [8,9,23] rfl))))) ?_;refine TL (RVN 1 rfl ?_);refine A.ret (End.ret_then ?_);exact End.cell3V (s:=1000008) (s':=1000009) rfl U72 U49 rfl rfl (size72.of (rfl)) (size49.of (rfl)) rfl rfl rfl rfl rfl (rfl)
theorem Child_n1(n:Nat)(h1:1<=n)(h2:n<=4096)(X:Nat->Prop)(S:Dk)(hS:S.length=bs n (hg n+1))(x:NodT)(hx:x.Fit)(hf:ftN n x=0)(i:Nat)(hi:i<4)(h0:x.l.toNat=0): Fn Tryz.prog 29 [.v (nI (n)),diskD dT X S,.v (aggV x.v),.v (nI (i))] (.v (.tuple #[aggV (NodT.emp 0 0).v,aggV [.int .i64 0,.int .u8 0],.int .i64 11])):=by
 obtain⟨hk,hl,hj,hz⟩:=ftN_ok h1 h2 hf
 refine Fn.of Tryz.func29 rfl (by kernel_rfl) Tryz.ntmps29 (by simp) (fun w=>[(0,.v (nI (n))),(1,old w.heap.size (diskD dT X S)),(2,.v (aggV x.v)),(3,.v (nI (i)))]) (fun w=>(Start.v rfl (Start.old rfl (Start.v rfl (Start.v rfl Start.nil))))) fun w₀=>?_
 refine A.nameTl (t:=1) (k:=1000200) rfl fun v hv1=>?_
 refine GS (TN 0 (RN ?_));refine ZB 1000005 rfl fun b5 ⟨hBb5,hb5⟩=>?_
 refine TN 1 (RN ?_);refine ZB 1000006 rfl fun b6 ⟨hBb6,hb6⟩=>?_
 have hlt_b5_b6:=hb6 1000005 b5 _ _ rfl
 refine TN 2 (RN ?_);refine ZN 1000008 zero72 fun b8 ⟨hBb8,hb8⟩=>?_
 have hlt_b5_b8:=hb8 1000005 b5 _ _ rfl
 have hlt_b6_b8:=hb8 1000006 b6 _ _ rfl
 refine TN 3 (RN ?_);refine ZN 1000009 zero49 fun b9 ⟨hBb9,hb9⟩=>?_
 have hlt_b5_b9:=hb9 1000005 b5 _ _ rfl
 have hlt_b6_b9:=hb9 1000006 b6 _ _ rfl
 have hlt_b8_b9:=hb9 1000008 b8 _ _ rfl
 refine TL (RVN 1 rfl ?_);refine QS (GT (RM rfl ?_));refine RS (OpOk.tlO (k:=1000200) [nI S.length,nI (totC S)] (ok_loadA (s:=1000005) (by decide) U44 rfl (size44.of (rfl)) rfl rfl) rfl hv1 (by decide) rfl) ?_;refine RS (ok_call (ckDisk_ok n h1 h2 X S hS) (Args.cons rfl (Le.refl _) (Args.cons rfl (Le.old _ _) Args.nil))) ?_;refine RVN 1 rfl ?_;refine GT (RV 2 rfl ?_);refine RF ?_;refine RN (A.no rfl ?_);refine QK (QS (GT (RM rfl ?_)));refine RL 1000006 U72 rfl rfl (size72.of (hx.len)) ?_;refine RS (ok_call (nFits_fn n x hx) (A2 rfl rfl)) ?_;refine RB rfl rfl rfl ?_;refine RZ (.bool false) (congrArg Value.bool (by rw[hf]; rfl)) ?_;refine RN (A.no rfl ?_);refine QK (GS (TN 8 (RM rfl ?_)));refine RL 1000006 U72 rfl rfl (size72.of (hx.len)) ?_;refine RS (ok_call (placeOf_fn x hx) (A1 rfl)) ?_;refine RM rfl ?_;refine RS (ok_call (Child_leaf n h1 h2 x.l.toNat x.j hl hj h0 i hi) (A3 rfl rfl rfl)) ?_;refine RVN 3 rfl ?_;refine ZN 1000012 zero131 fun b12 ⟨hBb12,hb12⟩=>?_
 have hlt_b5_b12:=hb12 1000005 b5 _ _ rfl
 have hlt_b6_b12:=hb12 1000006 b6 _ _ rfl
 have hlt_b8_b12:=hb12 1000008 b8 _ _ rfl
 have hlt_b9_b12:=hb12 1000009 b9 _ _ rfl
 refine TF 9 (RN ?_);refine ZA 1000012 (size131.of rfl) hBb12 rfl rfl rfl (LT 1000005 rfl (LT 1000006 rfl (LT 1000008 rfl (LT 1000009 rfl (LO 1000200 rfl (LW [0,3,5,6,8,9,12,37] rfl)))))) ?_;refine TL (RVN 1 rfl ?_);refine A.sub (Sv [0,3,5,6,8,9,12,13,1000005,1000006,1000008,1000009,1000012,1000200] rfl) ?_;refine QS (GT (RV 2 rfl ?_));refine RT ?_;refine RN (A.yes rfl ?_);refine GS (TF 3 (RS (ok_lit [] (NodT.v (NodT.emp 0 0)) (fun _ _=>rfl) (by kernel_rfl)) ?_));refine RS (ok_lit [] [.int .i64 0,.int .u8 0] (fun _ _=>rfl) (by kernel_rfl)) ?_;refine RVN 1 rfl ?_;refine⟨_,eff_storeA (n:=68) (s:=1000008) (size72.of (rfl)) rfl rfl (NodT.one _) hBb8 rfl (rfl) (LT 1000005 rfl (LB 1000006 rfl (LT 1000009 rfl (LT 1000012 rfl (LO 1000200 rfl (LW [8,9,41,42] rfl)))))),?_⟩
 refine TF 4 (RN ?_);refine ZA 1000009 (size49.of rfl) hBb9 rfl rfl rfl (LT 1000005 rfl (LT 1000006 rfl (LT 1000008 rfl (LT 1000012 rfl (LO 1000200 rfl (LW [8,9,42] rfl)))))) ?_;refine TL (RVN 1 rfl ?_);refine A.ret (End.ret_then ?_);exact End.cell3V (s:=1000008) (s':=1000009) rfl U72 U49 rfl rfl (size72.of (rfl)) (size49.of (rfl)) rfl rfl rfl rfl rfl (rfl)
theorem Child_n2(n:Nat)(h1:1<=n)(h2:n<=4096)(X:Nat->Prop)(S:Dk)(hS:S.length=bs n (hg n+1))(x:NodT)(hx:x.Fit)(hf:ftN n x=0)(i:Nat)(hi:i<4)(h0:0<x.l.toNat)(hp:pts n x.l.toNat x.j<=i): Fn Tryz.prog 29 [.v (nI (n)),diskD dT X S,.v (aggV x.v),.v (nI (i))] (.v (.tuple #[aggV (NodT.emp 0 0).v,aggV [.int .i64 0,.int .u8 0],.int .i64 11])):=by
 obtain⟨hk,hl,hj,hz⟩:=ftN_ok h1 h2 hf
 refine Fn.of Tryz.func29 rfl (by kernel_rfl) Tryz.ntmps29 (by simp) (fun w=>[(0,.v (nI (n))),(1,old w.heap.size (diskD dT X S)),(2,.v (aggV x.v)),(3,.v (nI (i)))]) (fun w=>(Start.v rfl (Start.old rfl (Start.v rfl (Start.v rfl Start.nil))))) fun w₀=>?_
 refine A.nameTl (t:=1) (k:=1000200) rfl fun v hv1=>?_
 refine GS (TN 0 (RN ?_));refine ZB 1000005 rfl fun b5 ⟨hBb5,hb5⟩=>?_
 refine TN 1 (RN ?_);refine ZB 1000006 rfl fun b6 ⟨hBb6,hb6⟩=>?_
 have hlt_b5_b6:=hb6 1000005 b5 _ _ rfl
 refine TN 2 (RN ?_);refine ZN 1000008 zero72 fun b8 ⟨hBb8,hb8⟩=>?_
 have hlt_b5_b8:=hb8 1000005 b5 _ _ rfl
 have hlt_b6_b8:=hb8 1000006 b6 _ _ rfl
 refine TN 3 (RN ?_);refine ZN 1000009 zero49 fun b9 ⟨hBb9,hb9⟩=>?_
 have hlt_b5_b9:=hb9 1000005 b5 _ _ rfl
 have hlt_b6_b9:=hb9 1000006 b6 _ _ rfl
 have hlt_b8_b9:=hb9 1000008 b8 _ _ rfl
 refine TL (RVN 1 rfl ?_);refine QS (GT (RM rfl ?_));refine RS (OpOk.tlO (k:=1000200) [nI S.length,nI (totC S)] (ok_loadA (s:=1000005) (by decide) U44 rfl (size44.of (rfl)) rfl rfl) rfl hv1 (by decide) rfl) ?_;refine RS (ok_call (ckDisk_ok n h1 h2 X S hS) (Args.cons rfl (Le.refl _) (Args.cons rfl (Le.old _ _) Args.nil))) ?_;refine RVN 1 rfl ?_;refine GT (RV 2 rfl ?_);refine RF ?_;refine RN (A.no rfl ?_);refine QK (QS (GT (RM rfl ?_)));refine RL 1000006 U72 rfl rfl (size72.of (hx.len)) ?_;refine RS (ok_call (nFits_fn n x hx) (A2 rfl rfl)) ?_;refine RB rfl rfl rfl ?_;refine RZ (.bool false) (congrArg Value.bool (by rw[hf]; rfl)) ?_;refine RN (A.no rfl ?_);refine QK (GS (TN 8 (RM rfl ?_)));refine RL 1000006 U72 rfl rfl (size72.of (hx.len)) ?_;refine RS (ok_call (placeOf_fn x hx) (A1 rfl)) ?_;refine RM rfl ?_;refine RS (ok_call (Child_none n h1 h2 x.l.toNat x.j hl hj h0 i hi hp) (A3 rfl rfl rfl)) ?_;refine RVN 3 rfl ?_;refine ZN 1000012 zero131 fun b12 ⟨hBb12,hb12⟩=>?_
 have hlt_b5_b12:=hb12 1000005 b5 _ _ rfl
 have hlt_b6_b12:=hb12 1000006 b6 _ _ rfl
 have hlt_b8_b12:=hb12 1000008 b8 _ _ rfl
 have hlt_b9_b12:=hb12 1000009 b9 _ _ rfl
 refine TF 9 (RN ?_);refine ZA 1000012 (size131.of rfl) hBb12 rfl rfl rfl (LT 1000005 rfl (LT 1000006 rfl (LT 1000008 rfl (LT 1000009 rfl (LO 1000200 rfl (LW [0,3,5,6,8,9,12,37] rfl)))))) ?_;refine TL (RVN 1 rfl ?_);refine A.sub (Sv [0,3,5,6,8,9,12,13,1000005,1000006,1000008,1000009,1000012,1000200] rfl) ?_;refine QS (GT (RV 2 rfl ?_));refine RT ?_;refine RN (A.yes rfl ?_);refine GS (TF 3 (RS (ok_lit [] (NodT.v (NodT.emp 0 0)) (fun _ _=>rfl) (by kernel_rfl)) ?_));refine RS (ok_lit [] [.int .i64 0,.int .u8 0] (fun _ _=>rfl) (by kernel_rfl)) ?_;refine RVN 1 rfl ?_;refine⟨_,eff_storeA (n:=68) (s:=1000008) (size72.of (rfl)) rfl rfl (NodT.one _) hBb8 rfl (rfl) (LT 1000005 rfl (LB 1000006 rfl (LT 1000009 rfl (LT 1000012 rfl (LO 1000200 rfl (LW [8,9,41,42] rfl)))))),?_⟩
 refine TF 4 (RN ?_);refine ZA 1000009 (size49.of rfl) hBb9 rfl rfl rfl (LT 1000005 rfl (LT 1000006 rfl (LT 1000008 rfl (LT 1000012 rfl (LO 1000200 rfl (LW [8,9,42] rfl)))))) ?_;refine TL (RVN 1 rfl ?_);refine A.ret (End.ret_then ?_);exact End.cell3V (s:=1000008) (s':=1000009) rfl U72 U49 rfl rfl (size72.of (rfl)) (size49.of (rfl)) rfl rfl rfl rfl rfl (rfl)
theorem Child_n3(n:Nat)(h1:1<=n)(h2:n<=4096)(X:Nat->Prop)(S:Dk)(hS:S.length=bs n (hg n+1))(x:NodT)(hx:x.Fit)(hf:ftN n x=0)(i:Nat)(hi:i<4)(h0:0<x.l.toNat)(hp:i<pts n x.l.toNat x.j)(he:(x.e i).x.toNat=0): Fn Tryz.prog 29 [.v (nI (n)),diskD dT X S,.v (aggV x.v),.v (nI (i))] (.v (.tuple #[aggV (NodT.emp 0 0).v,aggV [.int .i64 0,.int .u8 0],.int .i64 11])):=by
 obtain⟨hk,hl,hj,hz⟩:=ftN_ok h1 h2 hf
 refine Fn.of Tryz.func29 rfl (by kernel_rfl) Tryz.ntmps29 (by simp) (fun w=>[(0,.v (nI (n))),(1,old w.heap.size (diskD dT X S)),(2,.v (aggV x.v)),(3,.v (nI (i)))]) (fun w=>(Start.v rfl (Start.old rfl (Start.v rfl (Start.v rfl Start.nil))))) fun w₀=>?_
 refine A.nameTl (t:=1) (k:=1000200) rfl fun v hv1=>?_
 refine GS (TN 0 (RN ?_));refine ZB 1000005 rfl fun b5 ⟨hBb5,hb5⟩=>?_
 refine TN 1 (RN ?_);refine ZB 1000006 rfl fun b6 ⟨hBb6,hb6⟩=>?_
 have hlt_b5_b6:=hb6 1000005 b5 _ _ rfl
 refine TN 2 (RN ?_);refine ZN 1000008 zero72 fun b8 ⟨hBb8,hb8⟩=>?_
 have hlt_b5_b8:=hb8 1000005 b5 _ _ rfl
 have hlt_b6_b8:=hb8 1000006 b6 _ _ rfl
 refine TN 3 (RN ?_);refine ZN 1000009 zero49 fun b9 ⟨hBb9,hb9⟩=>?_
 have hlt_b5_b9:=hb9 1000005 b5 _ _ rfl
 have hlt_b6_b9:=hb9 1000006 b6 _ _ rfl
 have hlt_b8_b9:=hb9 1000008 b8 _ _ rfl
 refine TL (RVN 1 rfl ?_);refine QS (GT (RM rfl ?_));refine RS (OpOk.tlO (k:=1000200) [nI S.length,nI (totC S)] (ok_loadA (s:=1000005) (by decide) U44 rfl (size44.of (rfl)) rfl rfl) rfl hv1 (by decide) rfl) ?_;refine RS (ok_call (ckDisk_ok n h1 h2 X S hS) (Args.cons rfl (Le.refl _) (Args.cons rfl (Le.old _ _) Args.nil))) ?_;refine RVN 1 rfl ?_;refine GT (RV 2 rfl ?_);refine RF ?_;refine RN (A.no rfl ?_);refine QK (QS (GT (RM rfl ?_)));refine RL 1000006 U72 rfl rfl (size72.of (hx.len)) ?_;refine RS (ok_call (nFits_fn n x hx) (A2 rfl rfl)) ?_;refine RB rfl rfl rfl ?_;refine RZ (.bool false) (congrArg Value.bool (by rw[hf]; rfl)) ?_;refine RN (A.no rfl ?_);refine QK (GS (TN 8 (RM rfl ?_)));refine RL 1000006 U72 rfl rfl (size72.of (hx.len)) ?_;refine RS (ok_call (placeOf_fn x hx) (A1 rfl)) ?_;refine RM rfl ?_;refine RS (ok_call (Child_ok n h1 h2 x.l.toNat x.j hl hj h0 i hp) (A3 rfl rfl rfl)) ?_;refine RVN 3 rfl ?_;refine ZN 1000012 zero131 fun b12 ⟨hBb12,hb12⟩=>?_
 have hlt_b5_b12:=hb12 1000005 b5 _ _ rfl
 have hlt_b6_b12:=hb12 1000006 b6 _ _ rfl
 have hlt_b8_b12:=hb12 1000008 b8 _ _ rfl
 have hlt_b9_b12:=hb12 1000009 b9 _ _ rfl
 refine TF 9 (RN ?_);refine ZA 1000012 (size131.of rfl) hBb12 rfl rfl rfl (LT 1000005 rfl (LT 1000006 rfl (LT 1000008 rfl (LT 1000009 rfl (LO 1000200 rfl (LW [0,3,5,6,8,9,12,37] rfl)))))) ?_;refine TL (RVN 1 rfl ?_);refine A.sub (Sv [0,3,5,6,8,9,12,13,1000005,1000006,1000008,1000009,1000012,1000200] rfl) ?_;refine QS (GT (RV 2 rfl ?_));refine RF ?_;refine RN (A.no rfl ?_);refine QK (GS (TN 4 (RM rfl ?_)));refine Rf field72_3 ?_;refine RS (ok_indexN (i) U70 size69 rfl rfl (rfl) (hi)) ?_;refine RS (ok_loadP (s:=1000006) (by decide) U69 rfl size69 rfl rfl (by rw[hx.len]; omega) (hx.ent_at hi)) ?_;refine RN ?_;refine ZN 1000014 zero69 fun b14 ⟨hBb14,hb14⟩=>?_
 have hlt_b5_b14:=hb14 1000005 b5 _ _ rfl
 have hlt_b6_b14:=hb14 1000006 b6 _ _ rfl
 have hlt_b8_b14:=hb14 1000008 b8 _ _ rfl
 have hlt_b9_b14:=hb14 1000009 b9 _ _ rfl
 have hlt_b12_b14:=hb14 1000012 b12 _ _ rfl
 refine TF 5 (RN ?_);refine⟨_,eff_storeA (n:=68) (s:=1000014) (size69.of (((hx.e i).len))) rfl rfl (EntT.one _) hBb14 rfl (by rw[(hx.e i).len]; rfl) (LT 1000005 rfl (LT 1000006 rfl (LT 1000008 rfl (LT 1000009 rfl (LT 1000012 rfl (LO 1000200 rfl (LW [0,5,8,9,12,14] rfl))))))),?_⟩
 refine TL (RN (GT (Rf field69_0 ?_)));refine RLV 1000014 U5 rfl rfl rfl ?_;refine RS (ok_call (Slot_none (x.e i).x he) (A1 rfl)) ?_;refine RVN 5 rfl ?_;refine QS (GT (RV 2 rfl ?_));refine RT ?_;refine RN (A.yes rfl ?_);refine GS (TF 3 (RS (ok_lit [] (NodT.v (NodT.emp 0 0)) (fun _ _=>rfl) (by kernel_rfl)) ?_));refine RS (ok_lit [] [.int .i64 0,.int .u8 0] (fun _ _=>rfl) (by kernel_rfl)) ?_;refine RVN 1 rfl ?_;refine⟨_,eff_storeA (n:=68) (s:=1000008) (size72.of (rfl)) rfl rfl (NodT.one _) hBb8 rfl (rfl) (LT 1000005 rfl (LB 1000006 rfl (LT 1000009 rfl (LT 1000012 rfl (LT 1000014 rfl (LO 1000200 rfl (LW [8,9,56,57] rfl))))))),?_⟩
 refine TF 4 (RN ?_);refine ZA 1000009 (size49.of rfl) hBb9 rfl rfl rfl (LT 1000005 rfl (LT 1000006 rfl (LT 1000008 rfl (LT 1000012 rfl (LT 1000014 rfl (LO 1000200 rfl (LW [8,9,57] rfl))))))) ?_;refine TL (RVN 1 rfl ?_);refine A.ret (End.ret_then ?_);exact End.cell3V (s:=1000008) (s':=1000009) rfl U72 U49 rfl rfl (size72.of (rfl)) (size49.of (rfl)) rfl rfl rfl rfl rfl (rfl)
set_option maxHeartbeats 1000000 in
theorem Child_ok17(n:Nat)(h1:1<=n)(h2:n<=4096)(X:Nat->Prop)(S:Dk)(hS:S.length=bs n (hg n+1))(x:NodT)(hx:x.Fit)(hf:ftN n x=0)(i:Nat)(hi:i<4)(h0:0<x.l.toNat)(hp:i<pts n x.l.toNat x.j)(he:(x.e i).x.toNat≠0): FnM Tryz.prog 29 tabN [.v (nI (n)),diskD dT X S,.v (aggV x.v),.v (nI (i))] (.v ((accT n S (x.l.toNat-1) (4*x.j+i) ((x.e i).x.toNat-1) (x.e i).t).v)):=by
 obtain⟨hk,hl,hj,hz⟩:=ftN_ok h1 h2 hf
 have he2:(x.e i).x.toNat<=2:=by
  have hb:=((NodT.ck_ok hk).2.2 (by omega)).2 i hi
  unfold EntT.Bad BadE at hb
  omega
 refine FnM.of Tryz.func29 rfl (by kernel_rfl) Tryz.ntmps29 (by simp) (by decide) (fun w=>[(0,.v (nI (n))),(1,old w.heap.size (diskD dT X S)),(2,.v (aggV x.v)),(3,.v (nI (i))),(1900000,tab 0 (sizV)),(1900001,tab 1 (H8.list.map u32V)),(1900002,tab 2 (K64.map u32V))]) (fun w=>(StartM.v rfl (StartM.old rfl (StartM.v rfl (StartM.v rfl (StartM.m (by simp[tabN]) (by decide) (StartM.m (by simp[tabN]) (by decide) (StartM.m (by simp[tabN]) (by decide) StartM.nil)))))))) fun w₀ hM=>?_
 have htab:=tabN_hi hM
 refine A.nameTl (t:=1) (k:=1000200) rfl fun v hv1=>?_
 refine GS (TN 0 (RN ?_));refine ZB 1000005 rfl fun b5 ⟨hBb5,hb5⟩=>?_
 refine TN 1 (RN ?_);refine ZB 1000006 rfl fun b6 ⟨hBb6,hb6⟩=>?_
 have hlt_b5_b6:=hb6 1000005 b5 _ _ rfl
 refine TN 2 (RN ?_);refine ZN 1000008 zero72 fun b8 ⟨hBb8,hb8⟩=>?_
 have hlt_b5_b8:=hb8 1000005 b5 _ _ rfl
 have hlt_b6_b8:=hb8 1000006 b6 _ _ rfl
 refine TN 3 (RN ?_);refine ZN 1000009 zero49 fun b9 ⟨hBb9,hb9⟩=>?_
 have hlt_b5_b9:=hb9 1000005 b5 _ _ rfl
 have hlt_b6_b9:=hb9 1000006 b6 _ _ rfl
 have hlt_b8_b9:=hb9 1000008 b8 _ _ rfl
 refine TL (RVN 1 rfl ?_);refine QS (GT (RM rfl ?_));refine RS (OpOk.tlO (k:=1000200) [nI S.length,nI (totC S)] (ok_loadA (s:=1000005) (by decide) U44 rfl (size44.of (rfl)) rfl rfl) rfl hv1 (by decide) rfl) ?_;refine RS (ok_call (ckDisk_ok n h1 h2 X S hS) (Args.cons rfl (Le.refl _) (Args.cons rfl (Le.old _ _) Args.nil))) ?_;refine RVN 1 rfl ?_;refine GT (RV 2 rfl ?_);refine RF ?_;refine RN (A.no rfl ?_);refine QK (QS (GT (RM rfl ?_)));refine RL 1000006 U72 rfl rfl (size72.of (hx.len)) ?_;refine RS (ok_call (nFits_fn n x hx) (A2 rfl rfl)) ?_;refine RB rfl rfl rfl ?_;refine RZ (.bool false) (congrArg Value.bool (by rw[hf]; rfl)) ?_;refine RN (A.no rfl ?_);refine QK (GS (TN 8 (RM rfl ?_)));refine RL 1000006 U72 rfl rfl (size72.of (hx.len)) ?_;refine RS (ok_call (placeOf_fn x hx) (A1 rfl)) ?_;refine RM rfl ?_;refine RS (ok_call (Child_ok n h1 h2 x.l.toNat x.j hl hj h0 i hp) (A3 rfl rfl rfl)) ?_;refine RVN 3 rfl ?_;refine ZN 1000012 zero131 fun b12 ⟨hBb12,hb12⟩=>?_
 have hlt_b5_b12:=hb12 1000005 b5 _ _ rfl
 have hlt_b6_b12:=hb12 1000006 b6 _ _ rfl
 have hlt_b8_b12:=hb12 1000008 b8 _ _ rfl
 have hlt_b9_b12:=hb12 1000009 b9 _ _ rfl
 refine TF 9 (RN ?_);refine ZA 1000012 (size131.of rfl) hBb12 rfl rfl rfl (LT 1000005 rfl (LT 1000006 rfl (LT 1000008 rfl (LT 1000009 rfl (LO 1000200 rfl (LQ 1900000 rfl (LQ 1900001 rfl (LQ 1900002 rfl (LW [0,3,5,6,8,9,12,37] rfl))))))))) ?_;refine TL (RVN 1 rfl ?_);refine A.sub (Sv [0,3,5,6,8,9,12,13,1000005,1000006,1000008,1000009,1000012,1000200,1900000,1900001,1900002] rfl) ?_;refine QS (GT (RV 2 rfl ?_));refine RF ?_;refine RN (A.no rfl ?_);refine QK (GS (TN 4 (RM rfl ?_)));refine Rf field72_3 ?_;refine RS (ok_indexN (i) U70 size69 rfl rfl (rfl) (hi)) ?_;refine RS (ok_loadP (s:=1000006) (by decide) U69 rfl size69 rfl rfl (by rw[hx.len]; omega) (hx.ent_at hi)) ?_;refine RN ?_;refine ZN 1000014 zero69 fun b14 ⟨hBb14,hb14⟩=>?_
 have hlt_b5_b14:=hb14 1000005 b5 _ _ rfl
 have hlt_b6_b14:=hb14 1000006 b6 _ _ rfl
 have hlt_b8_b14:=hb14 1000008 b8 _ _ rfl
 have hlt_b9_b14:=hb14 1000009 b9 _ _ rfl
 have hlt_b12_b14:=hb14 1000012 b12 _ _ rfl
 refine TF 5 (RN ?_);refine⟨_,eff_storeA (n:=68) (s:=1000014) (size69.of (((hx.e i).len))) rfl rfl (EntT.one _) hBb14 rfl (by rw[(hx.e i).len]; rfl) (LT 1000005 rfl (LT 1000006 rfl (LT 1000008 rfl (LT 1000009 rfl (LT 1000012 rfl (LO 1000200 rfl (LQ 1900000 rfl (LQ 1900001 rfl (LQ 1900002 rfl (LW [0,5,8,9,12,14] rfl)))))))))),?_⟩
 refine TL (RN (GT (Rf field69_0 ?_)));refine RLV 1000014 U5 rfl rfl rfl ?_;refine RS (ok_call (Slot_ok (x.e i).x (by omega) he2) (A1 rfl)) ?_;refine RVN 5 rfl ?_;refine QS (GT (RV 2 rfl ?_));refine RF ?_;refine RN (A.no rfl ?_);refine QK (GS (TF 10 (RM rfl ?_)));refine RS (OpOk.tlO (k:=1000200) [nI S.length,nI (totC S)] (ok_loadA (s:=1000005) (by decide) U44 rfl (size44.of (rfl)) rfl rfl) rfl hv1 (by decide) rfl) ?_;refine RL 1000012 U131 rfl rfl (size131.of rfl) ?_;refine RM rfl ?_;refine Rf field69_1 ?_;refine RS (ok_loadP (s:=1000014) (by decide) U32 rfl size32 rfl rfl (by rw[(hx.e i).len]; decide) (by show((x.e i).t.map byteV).take 32=_; exact List.take_of_length_le (by rw[List.length_map,(hx.e i).t]; exact Nat.le_refl _))) ?_;refine RS (ok_callMK (load_fn n h1 h2 (x.l.toNat-1) (4*x.j+i) (by omega) (child_lt h0 hp) ((x.e i).x.toNat-1) (by omega) (x.e i).t (hx.e i).t X S hS) (SubK.of (Sub.cons rfl (Sub.cons rfl (Sub.cons rfl KN))) tabN_v) (Args.cons rfl (Le.refl _) (Args.cons rfl (Le.old _ _) (A3 rfl rfl rfl)))) ?_;refine RVN 3 rfl ?_;refine⟨_,eff_storeA (n:=68) (s:=1000008) (size72.of (accT_len _ _ _ _ _ _)) rfl rfl (NodT.one _) hBb8 rfl (by rw[accT_len]; rfl) (LT 1000005 rfl (LB 1000006 rfl (LT 1000009 rfl (LT 1000012 rfl (LT 1000014 rfl (LO 1000200 rfl (LQ 1900000 rfl (LQ 1900001 rfl (LQ 1900002 rfl (LW [8,9,66,67] rfl)))))))))),?_⟩
 refine TF 11 (RN ?_);refine ZA 1000009 (size49.of rfl) hBb9 rfl rfl rfl (LT 1000005 rfl (LT 1000006 rfl (LT 1000008 rfl (LT 1000012 rfl (LT 1000014 rfl (LO 1000200 rfl (LQ 1900000 rfl (LQ 1900001 rfl (LQ 1900002 rfl (LW [8,9,67] rfl)))))))))) ?_;refine TL (RVN 1 rfl ?_);refine A.sub (Sv [8,9,10,1000005,1000006,1000008,1000009,1000012,1000014,1000200,1900000,1900001,1900002] rfl) ?_;refine A.ret ?_;exact End.cell3V (s:=1000008) (s':=1000009) rfl U72 U49 rfl rfl (size72.of (accT_len _ _ _ _ _ _)) (size49.of (rfl)) rfl rfl rfl rfl rfl (rfl)
noncomputable def kdA (n:Nat) (S:Dk) (x:NodT) (i:Nat):AccT:=if (x.e i).x.toNat=0 then .no 0 0 else accT n S (x.l.toNat-1) (4*x.j+i) ((x.e i).x.toNat-1) (x.e i).t
noncomputable def kdE (n:Nat) (S:Dk) (x:NodT) (i:Nat):Int:=if (x.e i).x.toNat=0 then 11 else (kdA n S x i).e
theorem kdA_fit(n:Nat)(S:Dk)(x:NodT)(i:Nat): (kdA n S x i).x.Fit:=by
 unfold kdA; split
 ·exact NodT.emp_fit 0 (by decide)
 ·exact accT_fit _ _ _ _ _ _
theorem kdA_len(n:Nat)(S:Dk)(x:NodT)(i:Nat): (kdA n S x i).x.v.length=274:=(kdA_fit n S x i).len
theorem Child_go(n:Nat)(h1:1<=n)(h2:n<=4096)(X:Nat->Prop)(S:Dk)(hS:S.length=bs n (hg n+1))(x:NodT)(hx:x.Fit)(hf:ftN n x=0)(i:Nat)(hi:i<4): FnM Tryz.prog 29 tabN [.v (nI (n)),diskD dT X S,.v (aggV x.v),.v (nI (i))] (.v (.tuple #[aggV (kdA n S x i).x.v,aggV (kdA n S x i).pv,.int .i64 (kdE n S x i)])):=by
 obtain⟨hk,hl,hj,hz⟩:=ftN_ok h1 h2 hf
 by_cases he:(x.e i).x.toNat=0
 ·have e1:kdA n S x i = .no 0 0:=if_pos he
  have e2:kdE n S x i=11:=if_pos he
  rw[e1,e2]
  refine Fn.m ?_
  by_cases h0:x.l.toNat=0
  ·exact Child_n1 n h1 h2 X S hS x hx hf i hi h0
  ·by_cases hp:i<pts n x.l.toNat x.j
   ·exact Child_n3 n h1 h2 X S hS x hx hf i hi (by omega) hp he
   ·exact Child_n2 n h1 h2 X S hS x hx hf i hi (by omega) (by omega)
 ·have e1:kdA n S x i=accT n S (x.l.toNat-1) (4*x.j+i) ((x.e i).x.toNat-1) (x.e i).t:=if_neg he
  have e2:kdE n S x i=(kdA n S x i).e:=if_neg he
  rw[e2,e1]
  have h0:x.l.toNat≠0:=fun h0=>he (((NodT.ck_ok hk).2.1 h0).1 i hi).1
  have hp:i<pts n x.l.toNat x.j:=Classical.byContradiction fun hp=>he (hz i (by omega) hi).2.1
  exact Child_ok17 n h1 h2 X S hS x hx hf i hi (by omega) hp he
end
section
def wyK (n x k:Nat):Nat:=x / 4^(hg n-k)%4
noncomputable def nK (n:Nat) (S:Dk) (x:Nat) (r:NodT):Nat->NodT
 | 0=>r
 | k+1=>(kdA n S (nK n S x r k) (wyK n x k)).x
noncomputable def aK (n:Nat) (S:Dk) (x:Nat) (r:NodT) (k:Nat):AccT:=kdA n S (nK n S x r k) (wyK n x k)
noncomputable def enK (n:Nat) (S:Dk) (x:Nat) (r:NodT) (k:Nat):EntT:=(nK n S x r k).e (wyK n x k)
def Goes (n:Nat) (S:Dk) (x:Nat) (r:NodT) (k:Nat):Prop:=(enK n S x r k).x.toNat≠0∧(aK n S x r k).f=0
noncomputable def pthL (n:Nat) (S:Dk) (x:Nat) (r:NodT) (m:Nat):List NodT:=(List.range m).map (nK n S x r)
theorem pthL_length(n:Nat)(S:Dk)(x:Nat)(r:NodT)(m:Nat): (pthL n S x r m).length=m:=by simp[pthL]
theorem nK_fit{S:Dk}{x:Nat}{r:NodT}(h:r.Fit): ∀ k,(nK n S x r k).Fit
 | 0=>h
 | k+1=>kdA_fit _ _ _ _
theorem pthL_fit{S:Dk}{x:Nat}{r:NodT}(h:r.Fit)(m:Nat): FitT (pthL n S x r m):=fun y hy=>by
 obtain⟨k,_,rfl⟩:=List.mem_map.1 hy
 exact nK_fit h k
theorem pthL_step(n:Nat)(S:Dk)(x:Nat)(r:NodT)(m:Nat): nodsV (pthL n S x r m)++(nK n S x r m).v=nodsV (pthL n S x r (m+1)):=by
 unfold pthL nodsV; rw[List.range_succ,List.map_append,List.flatMap_append]; simp
theorem pthL_one(n:Nat)(S:Dk)(x:Nat)(r:NodT): r.v=nodsV (pthL n S x r 1):=by
 simp[pthL,nK,nodsV]
theorem pow_split{x:Nat}: x / 4^(m+1)=x / 4^m / 4:=by rw[Nat.pow_succ,Nat.div_div_eq_div_mul]
theorem nK_plc {n:Nat} {S:Dk} {x:Nat} {r:NodT} (h1:1<=n) (h2:n<=4096) (hx:x<n) (h0:PlcN n (hg n) 0 r):∀ k,k<=hg n->(∀ i,i<k->Goes n S x r i)->PlcN n (hg n-k) (x / 4^(hg n-k+1)) (nK n S x r k)
 | 0,_,_=>by
  have:=pidx_root h1 h2 hx
  unfold pidx at this
  rw[Nat.sub_zero] at this ⊢
  rw[this]; exact h0
 | k+1,hk,hg'=>by
  have ih:=nK_plc h1 h2 hx h0 k (by omega) (fun i hi=>hg' i (by omega))
  obtain⟨he,hf⟩:=hg' k (by omega)
  have e:aK n S x r k=accT n S ((nK n S x r k).l.toNat-1) (4*(nK n S x r k).j+wyK n x k) ((enK n S x r k).x.toNat-1) (enK n S x r k).t:=if_neg he
  rw[e] at hf
  have h3:=(accT_spec hf).1
  rw[<- e] at h3
  rw[ih.1.1,ih.1.2,show 4*(x / 4^(hg n-k+1))+wyK n x k=x / 4^(hg n-k) from by rw[pow_split,wyK]; omega] at h3
  rw[show hg n-(k+1)=hg n-k-1 from by omega,show hg n-k-1+1=hg n-k from by omega]
  exact h3
theorem kd_e{S:Dk}{x:Nat}{r:NodT}(h:Goes n S x r k): kdE n S (nK n S x r k) (wyK n x k)=0:=by
 have h2:(kdA n S (nK n S x r k) (wyK n x k)).f=0:=h.2
 unfold kdE
 rw[if_neg (show ¬ ((nK n S x r k).e (wyK n x k)).x.toNat=0 from h.1)]
 unfold AccT.e; rw[if_pos h2]
theorem kd_11{S:Dk}{x:NodT}: kdE n S x i=11↔(x.e i).x.toNat=0:=by
 unfold kdE
 split
 ·rename_i h; simp[h]
 ·rename_i h
  unfold AccT.e
  constructor
  ·split<;>intro h'<;>cases h'
  ·intro h'; exact absurd h' h
theorem kd_pv{S:Dk}{x:Nat}{r:NodT}(h:Goes n S x r k): (kdA n S (nK n S x r k) (wyK n x k)).pv=[.int .i64 0,.int .u8 0]:=by
 have h2:(kdA n S (nK n S x r k) (wyK n x k)).f=0:=h.2
 have e:kdA n S (nK n S x r k) (wyK n x k)=accT n S ((nK n S x r k).l.toNat-1) (4*(nK n S x r k).j+wyK n x k) ((enK n S x r k).x.toNat-1) (enK n S x r k).t:=if_neg h.1
 have h3:(kdA n S (nK n S x r k) (wyK n x k)).s=0:=by rw[e] at h2 ⊢; exact(accT_spec h2).2.2.2
 unfold AccT.pv; rw[h2,h3]; rfl
theorem acc_pv{S:Dk}{w:List UInt8}(h:(accT n S l j s w).f=0): (accT n S l j s w).pv=[.int .i64 0,.int .u8 0]∧(accT n S l j s w).e=0:=by
 unfold AccT.pv AccT.e; rw[h,(accT_spec h).2.2.2]; exact⟨rfl,rfl⟩
theorem clipN_fn(ad:Addr)(m q:Nat)(h0:0<m)(hq:m<=q): Fn Tryz.prog 53 [.v (.slice (some ad) m q)] (.v (.slice (some ad) m m)):=by
 refine FV Tryz.func53 rfl Tryz.ntmps53 rfl fun w₀=>?_
 refine GV rfl (GT (RV 2 rfl ?_));refine RS (ok_lenV U46 rfl) ?_;refine RM rfl ?_;refine RS (ok_lenV U46 rfl) ?_;refine RS (ok_clipX U46 infoN rfl rfl rfl h0 hq) ?_;refine RVN 1 rfl ?_;refine A.ret ?_;exact ER rfl rfl
theorem Path_1(m:Int)(X:Nat->Prop)(S:Dk)(c:CelT)(hc:c.Fit)(x:Int)(h:¬ (DkOk m S∧0<=x∧x<m)): Fn Tryz.prog 11 [.v (.int .i64 (m)),diskD dT X S,.v (aggV c.v),.v (.int .i64 (x))] (.v (.tuple #[.slice none 0 0,aggV [.int .i64 0,.int .u8 0],.int .i64 1])):=by
 refine Fn.of Tryz.func11 rfl (by kernel_rfl) Tryz.ntmps11 (by simp) (fun w=>[(0,.v (.int .i64 (m))),(1,old w.heap.size (diskD dT X S)),(2,.v (aggV c.v)),(3,.v (.int .i64 (x)))]) (fun w=>(Start.v rfl (Start.old rfl (Start.v rfl (Start.v rfl Start.nil))))) fun w₀=>?_
 refine A.nameTl (t:=1) (k:=1000200) rfl fun v hv1=>?_
 refine GS (TN 0 (RN ?_));refine ZB 1000005 rfl fun b5 ⟨hBb5,hb5⟩=>?_
 refine TN 1 (RN ?_);refine ZB 1000006 rfl fun b6 ⟨hBb6,hb6⟩=>?_
 have hlt_b5_b6:=hb6 1000005 b5 _ _ rfl
 refine TN 3 (RVN 1 rfl ?_);refine ZN 1000009 zero49 fun b9 ⟨hBb9,hb9⟩=>?_
 have hlt_b5_b9:=hb9 1000005 b5 _ _ rfl
 have hlt_b6_b9:=hb9 1000006 b6 _ _ rfl
 refine TL (RVN 1 rfl ?_);refine QS (GT (RM rfl ?_));refine RS (OpOk.tlO (k:=1000200) [nI S.length,nI (totC S)] (ok_loadA (s:=1000005) (by decide) U44 rfl (size44.of (rfl)) rfl rfl) rfl hv1 (by decide) rfl) ?_;refine RM rfl ?_;refine RS (ok_call (ckBlk_1 m X S x h) (Args.cons rfl (Le.refl _) (Args.cons rfl (Le.old _ _) (A1 rfl)))) ?_;refine RVN 1 rfl ?_;refine GT (RV 2 rfl ?_);refine RT ?_;refine RN (A.yes rfl ?_);refine GS (TF 3 (RS (ok_lit [] [.int .i64 0,.int .u8 0] (fun _ _=>rfl) (by kernel_rfl)) ?_));refine RVN 2 rfl ?_;refine ZA 1000009 (size49.of rfl) hBb9 rfl rfl rfl (LT 1000005 rfl (LT 1000006 rfl (LO 1000200 rfl (LW [8,9,30] rfl)))) ?_;refine TL (RVN 1 rfl ?_);refine A.ret (End.ret_then ?_);exact End.tctV (s:=1000009) rfl U49 rfl (size49.of rfl) rfl rfl rfl rfl
theorem Path_r(n:Nat)(h1:1<=n)(h2:n<=4096)(X:Nat->Prop)(S:Dk)(hS:S.length=bs n (hg n+1))(c:CelT)(hc:c.Fit)(x:Nat)(hx:x<n)(h0:(accT n S (hg n) 0 (c.e%2) c.t).f≠0): FnM Tryz.prog 11 tabN [.v (nI (n)),diskD dT X S,.v (aggV c.v),.v (nI (x))] (.v (.tuple #[.slice none 0 0,aggV (accT n S (hg n) 0 (c.e%2) c.t).pv,.int .i64 9])):=by
 refine FnM.of Tryz.func11 rfl (by kernel_rfl) Tryz.ntmps11 (by simp) (by decide) (fun w=>[(0,.v (nI (n))),(1,old w.heap.size (diskD dT X S)),(2,.v (aggV c.v)),(3,.v (nI (x))),(1900000,tab 0 (sizV)),(1900001,tab 1 (H8.list.map u32V)),(1900002,tab 2 (K64.map u32V))]) (fun w=>(StartM.v rfl (StartM.old rfl (StartM.v rfl (StartM.v rfl (StartM.m (by simp[tabN]) (by decide) (StartM.m (by simp[tabN]) (by decide) (StartM.m (by simp[tabN]) (by decide) StartM.nil)))))))) fun w₀ hM=>?_
 have htab:=tabN_hi hM
 refine A.nameTl (t:=1) (k:=1000200) rfl fun v hv1=>?_
 refine GS (TN 0 (RN ?_));refine ZB 1000005 rfl fun b5 ⟨hBb5,hb5⟩=>?_
 refine TN 1 (RN ?_);refine ZB 1000006 rfl fun b6 ⟨hBb6,hb6⟩=>?_
 have hlt_b5_b6:=hb6 1000005 b5 _ _ rfl
 refine TN 3 (RVN 1 rfl ?_);refine ZN 1000009 zero49 fun b9 ⟨hBb9,hb9⟩=>?_
 have hlt_b5_b9:=hb9 1000005 b5 _ _ rfl
 have hlt_b6_b9:=hb9 1000006 b6 _ _ rfl
 refine TL (RVN 1 rfl ?_);refine QS (GT (RM rfl ?_));refine RS (OpOk.tlO (k:=1000200) [nI S.length,nI (totC S)] (ok_loadA (s:=1000005) (by decide) U44 rfl (size44.of (rfl)) rfl rfl) rfl hv1 (by decide) rfl) ?_;refine RM rfl ?_;refine RS (ok_call (ckBlk_ok n h1 h2 X S hS x hx) (Args.cons rfl (Le.refl _) (Args.cons rfl (Le.old _ _) (A1 rfl)))) ?_;refine RVN 1 rfl ?_;refine GT (RV 2 rfl ?_);refine RF ?_;refine RN (A.no rfl ?_);refine QK (GS (TN 8 (RM rfl ?_)));refine RS (OpOk.tlO (k:=1000200) [nI S.length,nI (totC S)] (ok_loadA (s:=1000005) (by decide) U44 rfl (size44.of (rfl)) rfl rfl) rfl hv1 (by decide) rfl) ?_;refine RL 1000006 U35 rfl rfl (size35.of (hc.len)) ?_;refine RS (ok_callMK (Root_fn n h1 h2 X S hS c hc) (SubK.of (Sub.cons rfl (Sub.cons rfl (Sub.cons rfl KN))) tabN_v) (Args.cons rfl (Le.refl _) (Args.cons rfl (Le.old _ _) (A1 rfl)))) ?_;refine RVN 4 rfl ?_;refine ZN 1000012 zero72 fun b12 ⟨hBb12,hb12⟩=>?_
 have hlt_b5_b12:=hb12 1000005 b5 _ _ rfl
 have hlt_b6_b12:=hb12 1000006 b6 _ _ rfl
 have hlt_b9_b12:=hb12 1000009 b9 _ _ rfl
 refine TN 9 (RN ?_);refine ZN 1000013 zero49 fun b13 ⟨hBb13,hb13⟩=>?_
 have hlt_b5_b13:=hb13 1000005 b5 _ _ rfl
 have hlt_b6_b13:=hb13 1000006 b6 _ _ rfl
 have hlt_b9_b13:=hb13 1000009 b9 _ _ rfl
 have hlt_b12_b13:=hb13 1000012 b12 _ _ rfl
 refine TF 10 (RN ?_);refine⟨_,eff_storeA (n:=88) (s:=1000012) (size72.of (accT_len _ _ _ _ _ _)) rfl rfl (NodT.one _) hBb12 rfl (by rw[accT_len]; rfl) (LT 1000005 rfl (LT 1000006 rfl (LT 1000009 rfl (LT 1000013 rfl (LO 1000200 rfl (LQ 1900000 rfl (LQ 1900001 rfl (LQ 1900002 rfl (LW [0,3,5,9,12,13,37,38] rfl))))))))),?_⟩
 refine TF 11 (RN ?_);refine ZA 1000013 (size49.of rfl) hBb13 rfl rfl rfl (LT 1000005 rfl (LT 1000006 rfl (LB 1000009 rfl (LT 1000012 rfl (LO 1000200 rfl (LQ 1900000 rfl (LQ 1900001 rfl (LQ 1900002 rfl (LW [0,3,5,9,12,13,38] rfl))))))))) ?_;refine TL (RVN 1 rfl ?_);refine A.sub (Sv [0,3,5,9,12,13,14,1000005,1000006,1000009,1000012,1000013,1000200,1900000,1900001,1900002] rfl) ?_;refine QS (GT (RV 2 rfl ?_));refine RZ (.bool true) (congrArg Value.bool (by unfold AccT.e; rw[if_neg h0]; rfl)) ?_;refine RN (A.yes rfl ?_);refine A.regsMK [⟨3,b9,1000009,49,[.int .i64 0,.int .u8 0],(accT n S (hg n) 0 (c.e%2) c.t).pv,aggV ((accT n S (hg n) 0 (c.e%2) c.t).pv)⟩] [_,_,_,undef,_] (by kernel_rfl) (by kernel_rfl) (by kernel_rfl) (by kernel_rfl) (Sv [0,3,5,9,12,13,14,40,1000005,1000006,1000012,1000013,1000200,1900000,1900001,1900002] rfl)
  (Many.next (_) rfl rfl rfl (.inl rfl) FromN.all (ok_loadA (s:=1000013) (by decide) U49 rfl (size49.of (rfl)) rfl rfl)
   (Many.next (_) rfl rfl rfl (.inl rfl) FromN.all (OpOk.asV (.int .i64 9) (by unfold AccT.e; rw[if_neg h0]) (ok_move rfl))
   (Many.next (_) rfl rfl rfl (.inl rfl) FromN.all (ok_assign rfl)
   (Many.store ⟨3,b9,1000009,49,[.int .i64 0,.int .u8 0],(accT n S (hg n) 0 (c.e%2) c.t).pv,aggV ((accT n S (hg n) 0 (c.e%2) c.t).pv)⟩ List.mem_cons_self rfl ((41,.v _)::_) rfl (FromN.op 0 (by kernel_rfl) rfl rfl FromN.all) rfl rfl
   (Many.next ((42,.v _)::_) rfl rfl rfl (.inl rfl) (FromN.op 1 (by kernel_rfl) rfl rfl FromN.all) (ok_assign rfl)
   Many.nil)))))
  (FromE.op (t:=8) 2 rfl rfl (FromE.op (t:=10) 4 rfl rfl FromE.all)) (fun s hs=>by simp only[List.mem_cons,List.not_mem_nil,or_false] at hs; rcases hs with rfl; rfl) (fun s hs=>by simp only[List.mem_cons,List.not_mem_nil,or_false] at hs; rcases hs with rfl; first|exact hBb9)
  (fun s hs s' hs'=>by simp only[List.mem_cons,List.not_mem_nil,or_false] at hs hs'; rcases hs with rfl<;>rcases hs' with rfl<;>first|exact .inl rfl|exact .inr ⟨fun h=>by simp at h,fun h=>by dsimp only at h; omega⟩)
  (fun s hs=>by simp only[List.mem_cons,List.not_mem_nil,or_false] at hs; rcases hs with rfl; first|exact SV.whole (size49.of (rfl)) (rfl) (rfl)) (fun s hs=>by simp only[List.mem_cons,List.not_mem_nil,or_false] at hs; rcases hs with rfl; (dsimp only; exact(LV 0 rfl (LV 3 rfl (LV 5 rfl (LV 9 rfl (LV 12 rfl (LV 13 rfl (LV 14 rfl (LV 40 rfl (LT 1000005 rfl (LT 1000006 rfl (LT 1000012 rfl (LB 1000013 rfl (LO 1000200 rfl (LQ 1900000 rfl (LQ 1900001 rfl (LQ 1900002 rfl LN)))))))))))))))))) ?_
 refine A.sub (Sv [8,9,10,1000005,1000006,1000009,1000012,1000013,1000200,1900000,1900001,1900002] rfl) ?_;refine A.ret (End.ret_then ?_);exact End.tctV (s:=1000009) rfl U49 rfl (size49.of rfl) rfl rfl rfl rfl
theorem pidx_lt17{x:Nat}(hx:x<n)(hi:i<hg n): x / 4^(hg n-i)<un n (hg n-(i+1)+1):=by
 have h:=pidx_lt hx (i+1)
 unfold pidx at h
 rw[show hg n-(i+1)+1=hg n-i by omega] at h ⊢
 exact h
set_option maxHeartbeats 4000000 in
theorem Path_okB(n:Nat)(h1:1<=n)(h2:n<=4096)(X:Nat->Prop)(S:Dk)(hS:S.length=bs n (hg n+1))(c:CelT)(hc:c.Fit)(x:Nat)(hx:x<n)(h0:(accT n S (hg n) 0 (c.e%2) c.t).f=0)(r:Nat)(hr:r<=hg n)(hgr:∀ k,k<r->Goes n S x (accT n S (hg n) 0 (c.e%2) c.t).x k)(he:r<hg n->(enK n S x (accT n S (hg n) 0 (c.e%2) c.t).x r).x.toNat=0): FnMB Tryz.prog 11 tabN [.v (nI (n)),diskD dT X S,.v (aggV c.v),.v (nI (x))] (fun B=>newY B 72 (fun b=>.tuple #[.slice (some ⟨b,0,none⟩) (r+1) (r+1),aggV [.int .i64 0,.int .u8 0],.int .i64 0]) (nodsV (pthL n S x (accT n S (hg n) 0 (c.e%2) c.t).x (r+1)))):=by
 have hpl:=(accT_spec h0).1
 have hh:=hg_le n
 refine FnMB.of Tryz.func11 rfl (by kernel_rfl) Tryz.ntmps11 (by simp) (by decide) (fun w=>[(0,.v (nI (n))),(1,old w.heap.size (diskD dT X S)),(2,.v (aggV c.v)),(3,.v (nI (x))),(1900000,tab 0 (sizV)),(1900001,tab 1 (H8.list.map u32V)),(1900002,tab 2 (K64.map u32V))]) (fun w=>(StartM.v rfl (StartM.old rfl (StartM.v rfl (StartM.v rfl (StartM.m (by simp[tabN]) (by decide) (StartM.m (by simp[tabN]) (by decide) (StartM.m (by simp[tabN]) (by decide) StartM.nil)))))))) fun w₀ hM=>?_
 have htab:=tabN_hi hM
 refine A.nameTl (t:=1) (k:=1000200) rfl fun v hv1=>?_
 refine GS (TN 0 (RN ?_));refine ZB 1000005 rfl fun b5 ⟨hBb5,hb5⟩=>?_
 refine TN 1 (RN ?_);refine ZB 1000006 rfl fun b6 ⟨hBb6,hb6⟩=>?_
 have hlt_b5_b6:=hb6 1000005 b5 _ _ rfl
 refine TN 3 (RVN 1 rfl ?_);refine ZN 1000009 zero49 fun b9 ⟨hBb9,hb9⟩=>?_
 have hlt_b5_b9:=hb9 1000005 b5 _ _ rfl
 have hlt_b6_b9:=hb9 1000006 b6 _ _ rfl
 refine TL (RVN 1 rfl ?_);refine QS (GT (RM rfl ?_));refine RS (OpOk.tlO (k:=1000200) [nI S.length,nI (totC S)] (ok_loadA (s:=1000005) (by decide) U44 rfl (size44.of (rfl)) rfl rfl) rfl hv1 (by decide) rfl) ?_;refine RM rfl ?_;refine RS (ok_call (ckBlk_ok n h1 h2 X S hS x hx) (Args.cons rfl (Le.refl _) (Args.cons rfl (Le.old _ _) (A1 rfl)))) ?_;refine RVN 1 rfl ?_;refine GT (RV 2 rfl ?_);refine RF ?_;refine RN (A.no rfl ?_);refine QK (GS (TN 8 (RM rfl ?_)));refine RS (OpOk.tlO (k:=1000200) [nI S.length,nI (totC S)] (ok_loadA (s:=1000005) (by decide) U44 rfl (size44.of (rfl)) rfl rfl) rfl hv1 (by decide) rfl) ?_;refine RL 1000006 U35 rfl rfl (size35.of (hc.len)) ?_;refine RS (ok_callMK (Root_fn n h1 h2 X S hS c hc) (SubK.of (Sub.cons rfl (Sub.cons rfl (Sub.cons rfl KN))) tabN_v) (Args.cons rfl (Le.refl _) (Args.cons rfl (Le.old _ _) (A1 rfl)))) ?_;refine RVN 4 rfl ?_;refine ZN 1000012 zero72 fun b12 ⟨hBb12,hb12⟩=>?_
 have hlt_b5_b12:=hb12 1000005 b5 _ _ rfl
 have hlt_b6_b12:=hb12 1000006 b6 _ _ rfl
 have hlt_b9_b12:=hb12 1000009 b9 _ _ rfl
 refine TN 9 (RN ?_);refine ZN 1000013 zero49 fun b13 ⟨hBb13,hb13⟩=>?_
 have hlt_b5_b13:=hb13 1000005 b5 _ _ rfl
 have hlt_b6_b13:=hb13 1000006 b6 _ _ rfl
 have hlt_b9_b13:=hb13 1000009 b9 _ _ rfl
 have hlt_b12_b13:=hb13 1000012 b12 _ _ rfl
 refine TF 10 (RN ?_);refine⟨_,eff_storeA (n:=88) (s:=1000012) (size72.of (by first|exact accT_len _ _ _ _ _ _|exact kdA_len _ _ _ _)) rfl rfl (NodT.one _) hBb12 rfl (by first|(rw[accT_len]; rfl)|(rw[kdA_len]; exact(nK_fit (accT_fit _ _ _ _ _ _) i).len)) (LT 1000005 rfl (LT 1000006 rfl (LT 1000009 rfl (LT 1000013 rfl (LO 1000200 rfl (LQ 1900000 rfl (LQ 1900001 rfl (LQ 1900002 rfl (LW [0,3,5,9,12,13,37,38] rfl))))))))),?_⟩
 refine TF 11 (RN ?_);refine ZA 1000013 (size49.of rfl) hBb13 rfl rfl rfl (LT 1000005 rfl (LT 1000006 rfl (LB 1000009 rfl (LT 1000012 rfl (LO 1000200 rfl (LQ 1900000 rfl (LQ 1900001 rfl (LQ 1900002 rfl (LW [0,3,5,9,12,13,38] rfl))))))))) ?_;refine TL (RVN 1 rfl ?_);refine A.sub (Sv [0,3,5,9,12,13,14,1000005,1000006,1000009,1000012,1000013,1000200,1900000,1900001,1900002] rfl) ?_;refine QS (GT (RV 2 rfl ?_));refine RZ (.bool false) (congrArg Value.bool (by rw[(acc_pv h0).2]; rfl)) ?_;refine RN (A.no rfl ?_);refine QK (GT (RL 1000012 U72 rfl rfl (size72.of (accT_len _ _ _ _ _ _)) ?_));refine RS (OpOk.raise (k:=1000012) (by decide) rfl (ok_build1O U46 infoN rfl (by decide) (by decide) rfl (accT_len _ _ _ _ _ _))) ?_;refine RVN 1 rfl ?_;refine GS (TN 2 (RVN 2 rfl ?_));refine ZM 1000048 (fun B'=>ok_callB (Path_fnB n h1 h2 x hx) newD_mono (A2 rfl rfl)) rfl fun b48 ⟨hBb48,hb48⟩=>?_
 have hlt_b5_b48:=hb48 1000005 b5 _ _ rfl
 have hlt_b6_b48:=hb48 1000006 b6 _ _ rfl
 have hlt_b9_b48:=hb48 1000009 b9 _ _ rfl
 have hlt_b12_b48:=hb48 1000012 b12 _ _ rfl
 have hlt_b13_b48:=hb48 1000013 b13 _ _ rfl
 refine TL (RVN 5 rfl ?_);refine QS (GT (RM rfl ?_));refine RS (ok_sliceLoK 1 U127 infoPP rfl rfl (by omega)) ?_;refine RS (ok_lenV U127 rfl) ?_;refine RZ (nI (hg n)) (congrArg (Value.int .i64) (by omega)) ?_;refine RVN 1 rfl ?_;refine A.block ?_;refine A.loop (ι:=Nat) (fun i=>i<=r) (fun i=>[(0,.v (nI (n))),(9,.v (ptr b9)),(5,.v (ptr b5)),(12,.v (ptr b12)),(13,.v (ptr b13)),(15,ownP (b12+1) 72 274 (i+1) (nodsV (pthL n S x (accT n S (hg n) 0 (c.e%2) c.t).x (i+1)))),(52,.v (.slice (some ⟨b48,if hg n+1=1 then 0 else 1*2,none⟩) (hg n+1-1) (hg n+1-1))),(53,.v (nI (hg n))),(54,.v (nI (i))),(1000005,blk b5 44 ([nI S.length,nI (totC S)]++[v])),(1000009,blk b9 49 [.int .i64 0,.int .u8 0]),(1000012,blk b12 72 (nK n S x (accT n S (hg n) 0 (c.e%2) c.t).x (i)).v),(1000013,blk b13 49 [.int .i64 0,.int .u8 0]),(1000048,blk b48 131 (pathV n x (hg n+1))),(1000200,old w₀.heap.size (valM v (partsD' dT X S))),(1900000,tab 0 (sizV)),(1900001,tab 1 (H8.list.map u32V)),(1900002,tab 2 (K64.map u32V))]) (fun i=>hg n-i) 0 ?_ ?_ ?_
 ·exact Nat.zero_le _
 ·exact(KC 0 rfl (KC 9 rfl (KC 5 rfl (KC 12 rfl (KC 13 rfl (KE 15 rfl (congrArg (ownP (b12+1) 72 274 1) (pthL_one n S x (accT n S (hg n) 0 (c.e%2) c.t).x)) (KC 52 rfl (KC 53 rfl (KE 54 rfl (by rfl) (KC 1000005 rfl (KC 1000009 rfl (KE 1000012 rfl (by rfl) (KE 1000013 rfl (congrArg (blk b13 49) (acc_pv h0).1) (KC 1000048 rfl (KC 1000200 rfl (KC 1900000 rfl (KC 1900001 rfl (KC 1900002 rfl KN))))))))))))))))))
 intro i hG
 refine GV rfl (QS ?_);refine A.cond rfl (fun hc55=>?_) (fun hc55=>?_)
 ·have hi:i<hg n:=by simp at hc55; omega
  have hgo:∀ k,k<i->Goes n S x (accT n S (hg n) 0 (c.e%2) c.t).x k:=fun k hk=>hgr k (by have hG':i<=r:=hG; omega)
  refine QK (QSB (GS (TN 2 (RS (ok_indexS i U127 infoPP rfl rfl rfl (by omega)) ?_))));refine RZ (.pointer (some ⟨b48,(i+1)*2,none⟩)) (by rw[if_neg (by omega)]; congr 3; omega) ?_;refine RS (ok_loadP (s:=1000048) (by decide) U131 rfl size131 rfl rfl (by rw[pathV_length (Nat.le_refl _)]; omega) (pathV_get (by omega))) ?_;refine RZ (aggV (plV (hg n-(i+1)) (x / 4^(hg n-i)))) (by rw[show hg n-i=hg n-(i+1)+1 from by omega]; rfl) ?_;refine RN ?_;refine ZN 1000019 zero131 fun b19 ⟨hBb19,hb19⟩=>?_
  have hlt_b5_b19:=hb19 1000005 b5 _ _ rfl
  have hlt_b9_b19:=hb19 1000009 b9 _ _ rfl
  have hlt_b12_b19:=hb19 1000012 b12 _ _ rfl
  have hlt_b13_b19:=hb19 1000013 b13 _ _ rfl
  have hlt_b48_b19:=hb19 1000048 b48 _ _ rfl
  refine TF 3 (RN ?_);refine ZA 1000019 (size131.of rfl) hBb19 rfl rfl rfl (LeftS.cons (t:=15) rfl (by first|exact Surv.ownP (by decide)|exact Surv.ownPB (by omega)) (LT 1000005 rfl (LT 1000009 rfl (LT 1000012 rfl (LT 1000013 rfl (LB 1000048 rfl (LO 1000200 rfl (LQ 1900000 rfl (LQ 1900001 rfl (LQ 1900002 rfl (LW [0,5,9,12,13,19,52,53,54] rfl))))))))))) ?_;refine TL (RN (GS (TN 7 (RM rfl ?_))));refine RL 1000019 U131 rfl rfl (size131.of rfl) ?_;refine RS (ok_call (Parent_up n h1 h2 (hg n-(i+1)) (x / 4^(hg n-i)) (by omega) (pidx_lt17 hx hi) (by omega)) (A2 rfl rfl)) ?_;refine RVN 4 rfl ?_;refine ZN 1000020 zero131 fun b20 ⟨hBb20,hb20⟩=>?_
  have hlt_b5_b20:=hb20 1000005 b5 _ _ rfl
  have hlt_b9_b20:=hb20 1000009 b9 _ _ rfl
  have hlt_b12_b20:=hb20 1000012 b12 _ _ rfl
  have hlt_b13_b20:=hb20 1000013 b13 _ _ rfl
  have hlt_b19_b20:=hb20 1000019 b19 _ _ rfl
  have hlt_b48_b20:=hb20 1000048 b48 _ _ rfl
  refine TF 8 (RN ?_);refine ZA 1000020 (size131.of rfl) hBb20 rfl rfl rfl (LeftS.cons (t:=15) rfl (by first|exact Surv.ownP (by decide)|exact Surv.ownPB (by omega)) (LT 1000005 rfl (LT 1000009 rfl (LT 1000012 rfl (LT 1000013 rfl (LB 1000019 rfl (LB 1000048 rfl (LO 1000200 rfl (LQ 1900000 rfl (LQ 1900001 rfl (LQ 1900002 rfl (LW [0,5,9,12,13,52,53,54,63,64] rfl)))))))))))) ?_;refine TL (RVN 2 rfl ?_);refine GS (TF 9 (RM rfl ?_));refine RS (OpOk.tlO (k:=1000200) [nI S.length,nI (totC S)] (ok_loadA (s:=1000005) (by decide) U44 rfl (size44.of (rfl)) rfl rfl) rfl hv1 (by decide) rfl) ?_;refine RL 1000012 U72 rfl rfl (size72.of ((nK_fit (accT_fit _ _ _ _ _ _) i).len)) ?_;refine RM rfl ?_;refine RS (ok_callMK (Child_go n h1 h2 X S hS (nK n S x (accT n S (hg n) 0 (c.e%2) c.t).x (i)) (nK_fit (accT_fit _ _ _ _ _ _) i) (nK_plc h1 h2 hx hpl i (by omega) hgo).2 (wyK n x i) (Nat.mod_lt _ (by decide))) (SubK.of (Sub.cons rfl (Sub.cons rfl (Sub.cons rfl KN))) tabN_v) (Args.cons rfl (Le.refl _) (Args.cons rfl (Le.old _ _) (A2 rfl rfl)))) ?_;refine RVN 4 rfl ?_;refine⟨_,eff_storeA (n:=88) (s:=1000012) (size72.of (by first|exact accT_len _ _ _ _ _ _|exact kdA_len _ _ _ _)) rfl rfl (NodT.one _) hBb12 rfl (by first|(rw[accT_len]; rfl)|(rw[kdA_len]; exact(nK_fit (accT_fit _ _ _ _ _ _) i).len)) (LeftS.cons (t:=15) rfl (by first|exact Surv.ownP (by decide)|exact Surv.ownPB (by omega)) (LT 1000005 rfl (LT 1000009 rfl (LT 1000013 rfl (LT 1000019 rfl (LT 1000020 rfl (LT 1000048 rfl (LO 1000200 rfl (LQ 1900000 rfl (LQ 1900001 rfl (LQ 1900002 rfl (LW [0,5,9,12,13,52,53,54,72,73] rfl)))))))))))),?_⟩
  refine TF 10 (RN ?_);refine ZA 1000013 (size49.of rfl) hBb13 rfl rfl rfl (LeftS.cons (t:=15) rfl (by first|exact Surv.ownP (by decide)|exact Surv.ownPB (by omega)) (LT 1000005 rfl (LB 1000009 rfl (LT 1000012 rfl (LT 1000019 rfl (LT 1000020 rfl (LT 1000048 rfl (LO 1000200 rfl (LQ 1900000 rfl (LQ 1900001 rfl (LQ 1900002 rfl (LW [0,5,9,12,13,52,53,54,73] rfl)))))))))))) ?_;refine TL (RVN 1 rfl ?_);refine A.sub (Sv [0,5,9,12,13,14,15,52,53,54,1000005,1000009,1000012,1000013,1000019,1000020,1000048,1000200,1900000,1900001,1900002] rfl) ?_;refine QS (GV rfl ?_);refine A.cond rfl (fun hc75=>?_) (fun hc75=>?_)
  ·have hir:i=r:=by
    rcases Nat.lt_or_ge i r with h|h
    ·rw[kd_e (hgr i h)] at hc75; cases hc75
    ·have hG':i<=r:=hG; omega
   subst hir
   refine A.exit (End.exit_then (End.exit_past (by decide) (End.exit_then (End.exit_then (End.exit_here (EN ?_))))));refine A.nameP (t:=15) (k:=1000312) rfl (fun w y h=>ownP_one h) fun v15 hv15=>?_
   refine A.openRowY (k:=1000312) (k':=1000311) rfl (by rw[nods_len (pthL_fit (accT_fit _ _ _ _ _ _) _),pthL_length]; omega) fun g11 q ys hBg hq hv=>?_
   subst hv
   refine GS (TF 4 (RM rfl ?_));refine RS (ok_call (clipN_fn ⟨g11,0,none⟩ (i+1) q (by omega) (by omega)) (A1 rfl)) ?_;refine RS (ok_lit [] [.int .i64 0,.int .u8 0] (fun _ _=>rfl) (by kernel_rfl)) ?_;refine RVN 1 rfl ?_;refine ZA 1000009 (size49.of rfl) hBb9 rfl rfl rfl (LT 1000005 rfl (LT 1000012 rfl (LB 1000013 rfl (LT 1000019 rfl (LT 1000020 rfl (LT 1000048 rfl (LO 1000200 rfl (LT 1000311 rfl (LQ 1900000 rfl (LQ 1900001 rfl (LQ 1900002 rfl (LW [8,9] rfl)))))))))))) ?_;refine TL (RVN 1 rfl ?_);refine A.ret ?_;exact End.tctY (s:=1000009) (kg:=1000311) rfl U49 rfl (size49.of rfl) rfl rfl rfl rfl rfl (by omega) rfl
  ·have hir:i<r:=by
    rcases Nat.lt_or_ge i r with h|h
    ·exact h
    ·have hG':i<=r:=hG
     have hq:=he (by omega)
     rw[show r=i by omega] at hq
     rw[kd_11.2 hq] at hc75; cases hc75
   have hgi:=hgr i hir
   refine QK (QS (GT (RV 2 rfl ?_)));refine RZ (.bool false) (congrArg Value.bool (by rw[kd_e hgi]; rfl)) ?_;refine RN (A.no rfl ?_);refine QK (GE (TF 3 (RM rfl ?_)));refine RL 1000012 U72 rfl rfl (size72.of (kdA_len _ _ _ _)) ?_;refine RS (ok_build1K U46 infoN rfl (by decide) (by decide) rfl (kdA_len _ _ _ _)) ?_;refine RN ?_;refine⟨_,Eff.raise (k:=1000012) rfl hBb12 (eff_appendG U46 infoN (by decide) (by decide) rfl rfl rfl (kdA_len _ _ _ _) (NodT.one _) (by omega) (by decide) (fun g hg=>(LV 0 rfl (LV 5 rfl (LV 9 rfl (LV 12 rfl (LV 13 rfl (LV 52 rfl (LV 53 rfl (LV 54 rfl (LT 1000005 rfl (LT 1000009 rfl (LB 1000012 rfl (LT 1000013 rfl (LT 1000019 rfl (LT 1000020 rfl (LT 1000048 rfl (LO 1000200 rfl (LQ 1900000 rfl (LQ 1900001 rfl (LQ 1900002 rfl LN))))))))))))))))))))),?_⟩
   refine TL (RVN 1 rfl ?_);refine End.normal_block (EN (GTE (RB rfl rfl rfl ?_)));refine Rw (i+1) ?_;refine RVN 1 rfl ?_;refine End.normal_then ?_;refine End.again (i+1) ?_ ?_ ?_
   ·show _<=_; omega
   ·show _-_<_-_; omega
   ·exact(KC 0 rfl (KC 9 rfl (KC 5 rfl (KC 12 rfl (KC 13 rfl (KE 15 rfl (congrArg (ownP (b12+1) 72 274 (i+1+1)) (pthL_step n S x (accT n S (hg n) 0 (c.e%2) c.t).x (i+1))) (KC 52 rfl (KC 53 rfl (KC 54 rfl (KC 1000005 rfl (KC 1000009 rfl (KE 1000012 rfl (by rfl) (KE 1000013 rfl (congrArg (blk b13 49) (kd_pv hgi)) (KC 1000048 rfl (KC 1000200 rfl (KC 1900000 rfl (KC 1900001 rfl (KC 1900002 rfl KN))))))))))))))))))
 ·have hir:i=r:=by have hG':i<=r:=hG; simp at hc55; omega
  subst hir
  refine A.exit (End.exit_then (End.exit_then (End.exit_here (EN ?_))));refine A.nameP (t:=15) (k:=1000312) rfl (fun w y h=>ownP_one h) fun v15 hv15=>?_
  refine A.openRowY (k:=1000312) (k':=1000311) rfl (by rw[nods_len (pthL_fit (accT_fit _ _ _ _ _ _) _),pthL_length]; omega) fun g11 q ys hBg hq hv=>?_
  subst hv
  refine GS (TF 4 (RM rfl ?_));refine RS (ok_call (clipN_fn ⟨g11,0,none⟩ (i+1) q (by omega) (by omega)) (A1 rfl)) ?_;refine RS (ok_lit [] [.int .i64 0,.int .u8 0] (fun _ _=>rfl) (by kernel_rfl)) ?_;refine RVN 1 rfl ?_;refine ZA 1000009 (size49.of rfl) hBb9 rfl rfl rfl (LT 1000005 rfl (LT 1000012 rfl (LB 1000013 rfl (LT 1000048 rfl (LO 1000200 rfl (LT 1000311 rfl (LQ 1900000 rfl (LQ 1900001 rfl (LQ 1900002 rfl (LW [8,9] rfl)))))))))) ?_;refine TL (RVN 1 rfl ?_);refine A.ret ?_;exact End.tctY (s:=1000009) (kg:=1000311) rfl U49 rfl (size49.of rfl) rfl rfl rfl rfl rfl (by omega) rfl
end
section
theorem nods_rec17{T:List NodT}(hT:FitT T){w:Nat}(hi:i<T.length)(hw:w<4)(ys:List Value): ((nodsV T++ys).drop (i*274+2+w*35)).take 35=((ndAt T i).r w).v:=by
 have h1:=nods_at hT hi
 have hl:=nods_len hT
 have h2:i*274+274<=(nodsV T).length:=by rw[hl]; have:=Nat.mul_le_mul_right 274 (show i+1<=T.length from hi); omega
 rw[List.drop_append_of_le_length (by omega),List.take_append_of_le_length (by rw[List.length_drop]; omega),<- (hT.at i).rec_at hw,<- h1,List.drop_take,List.take_take,List.drop_drop,Nat.min_eq_left (by omega),Nat.add_assoc]
theorem pthL_at{S:Dk}{x:Nat}{r:NodT}(h:i<m): ndAt (pthL n S x r m) i=nK n S x r i:=by
 unfold ndAt pthL; rw[List.getD_eq_getElem?_getD,List.getElem?_map,List.getElem?_range h]; rfl
theorem Rec_1(m:Int)(X:Nat->Prop)(S:Dk)(c:CelT)(hc:c.Fit)(x:Int)(h:¬ (DkOk m S∧0<=x∧x<m)): Fn Tryz.prog 12 [.v (.int .i64 (m)),diskD dT X S,.v (aggV c.v),.v (.int .i64 (x))] (.v (.tuple #[aggV RecT.zero.v,aggV [.int .i64 0,.int .u8 0],.int .i64 1])):=by
 refine Fn.of Tryz.func12 rfl (by kernel_rfl) Tryz.ntmps12 (by simp) (fun w=>[(0,.v (.int .i64 (m))),(1,old w.heap.size (diskD dT X S)),(2,.v (aggV c.v)),(3,.v (.int .i64 (x)))]) (fun w=>(Start.v rfl (Start.old rfl (Start.v rfl (Start.v rfl Start.nil))))) fun w₀=>?_
 refine A.nameTl (t:=1) (k:=1000200) rfl fun v hv1=>?_
 refine GS (TN 0 (RN ?_));refine ZB 1000005 rfl fun b5 ⟨hBb5,hb5⟩=>?_
 refine TN 1 (RN ?_);refine ZB 1000006 rfl fun b6 ⟨hBb6,hb6⟩=>?_
 have hlt_b5_b6:=hb6 1000005 b5 _ _ rfl
 refine TN 2 (RN ?_);refine ZN 1000008 zero57 fun b8 ⟨hBb8,hb8⟩=>?_
 have hlt_b5_b8:=hb8 1000005 b5 _ _ rfl
 have hlt_b6_b8:=hb8 1000006 b6 _ _ rfl
 refine TN 3 (RN ?_);refine ZN 1000009 zero49 fun b9 ⟨hBb9,hb9⟩=>?_
 have hlt_b5_b9:=hb9 1000005 b5 _ _ rfl
 have hlt_b6_b9:=hb9 1000006 b6 _ _ rfl
 have hlt_b8_b9:=hb9 1000008 b8 _ _ rfl
 refine TL (RVN 1 rfl ?_);refine GS (TN 9 (RM rfl ?_));refine RS (OpOk.tlO (k:=1000200) [nI S.length,nI (totC S)] (ok_loadA (s:=1000005) (by decide) U44 rfl (size44.of (rfl)) rfl rfl) rfl hv1 (by decide) rfl) ?_;refine RL 1000006 U35 rfl rfl (size35.of (hc.len)) ?_;refine RM rfl ?_;refine RS (ok_call (Path_1 m X S c hc x h) (Args.cons rfl (Le.refl _) (Args.cons rfl (Le.old _ _) (A2 rfl rfl)))) ?_;refine RVN 4 rfl ?_;refine ZN 1000012 zero49 fun b12 ⟨hBb12,hb12⟩=>?_
 have hlt_b5_b12:=hb12 1000005 b5 _ _ rfl
 have hlt_b6_b12:=hb12 1000006 b6 _ _ rfl
 have hlt_b8_b12:=hb12 1000008 b8 _ _ rfl
 have hlt_b9_b12:=hb12 1000009 b9 _ _ rfl
 refine TF 11 (RVN 1 rfl ?_);refine ZA 1000012 (size49.of rfl) hBb12 rfl rfl rfl (LT 1000005 rfl (LT 1000006 rfl (LT 1000008 rfl (LB 1000009 rfl (LO 1000200 rfl (LW [0,3,8,9,11,12,25] rfl)))))) ?_;refine TL (RVN 1 rfl ?_);refine QS (GT (RV 2 rfl ?_));refine RT ?_;refine RN (A.yes rfl ?_);refine A.regsMK [⟨3,b8,1000008,57,RecT.zero.v,RecT.zero.v,aggV (RecT.zero.v)⟩,⟨4,b9,1000009,49,[.int .i64 0,.int .u8 0],[.int .i64 0,.int .u8 0],aggV ([.int .i64 0,.int .u8 0])⟩] [_,_,_,undef,undef,_] (by kernel_rfl) (by kernel_rfl) (by kernel_rfl) (by kernel_rfl) (Sv [0,3,8,9,11,12,13,27,1000005,1000006,1000012,1000200] rfl)
  (Many.next (_) rfl rfl rfl (.inl rfl) FromN.all (ok_lit [] (RecT.v RecT.zero) (fun _ _=>rfl) (by kernel_rfl))
   (Many.next (_) rfl rfl rfl (.inl rfl) FromN.all (ok_loadA (s:=1000012) (by decide) U49 rfl (size49.of (rfl)) rfl rfl)
   (Many.next (_) rfl rfl rfl (.inl rfl) FromN.all (ok_move rfl)
   (Many.store ⟨3,b8,1000008,57,RecT.zero.v,RecT.zero.v,aggV (RecT.zero.v)⟩ List.mem_cons_self rfl ((28,.v _)::_) rfl (FromN.op 0 (by kernel_rfl) rfl rfl FromN.all) rfl rfl
   (Many.store ⟨4,b9,1000009,49,[.int .i64 0,.int .u8 0],[.int .i64 0,.int .u8 0],aggV ([.int .i64 0,.int .u8 0])⟩ (List.mem_cons_of_mem _ List.mem_cons_self) rfl ((29,.v _)::_) rfl (FromN.op 1 (by kernel_rfl) rfl rfl FromN.all) rfl rfl
   (Many.next ((30,.v _)::_) rfl rfl rfl (.inl rfl) (FromN.op 2 (by kernel_rfl) rfl rfl FromN.all) (ok_assign rfl)
   Many.nil))))))
  (FromE.op (t:=10) 5 rfl rfl FromE.all) (fun s hs=>by simp only[List.mem_cons,List.not_mem_nil,or_false] at hs; rcases hs with rfl|rfl<;>rfl) (fun s hs=>by simp only[List.mem_cons,List.not_mem_nil,or_false] at hs; rcases hs with rfl|rfl<;>first|exact hBb8|exact hBb9)
  (fun s hs s' hs'=>by simp only[List.mem_cons,List.not_mem_nil,or_false] at hs hs'; rcases hs with rfl|rfl<;>rcases hs' with rfl|rfl<;>first|exact .inl rfl|exact .inr ⟨fun h=>by simp at h,fun h=>by dsimp only at h; omega⟩)
  (fun s hs=>by simp only[List.mem_cons,List.not_mem_nil,or_false] at hs; rcases hs with rfl|rfl<;>first|exact SV.whole (size57.of (rfl)) (rfl) (RecT.one _)|exact SV.whole (size49.of (rfl)) (rfl) (rfl)) (fun s hs=>by simp only[List.mem_cons,List.not_mem_nil,or_false] at hs; rcases hs with rfl|rfl<;>(dsimp only; exact(LV 0 rfl (LV 3 rfl (LV 8 rfl (LV 9 rfl (LV 11 rfl (LV 12 rfl (LV 13 rfl (LV 27 rfl (LT 1000005 rfl (LT 1000006 rfl (LB 1000012 rfl (LO 1000200 rfl LN)))))))))))))) ?_
 refine A.sub (Sv [8,9,10,1000005,1000006,1000008,1000009,1000012,1000200] rfl) ?_;refine A.ret (End.ret_then ?_);exact End.cell3V (s:=1000008) (s':=1000009) rfl U57 U49 rfl rfl (size57.of (rfl)) (size49.of (rfl)) rfl rfl rfl rfl rfl (rfl)
theorem Rec_r(n:Nat)(h1:1<=n)(h2:n<=4096)(X:Nat->Prop)(S:Dk)(hS:S.length=bs n (hg n+1))(c:CelT)(hc:c.Fit)(x:Nat)(hx:x<n)(h0:(accT n S (hg n) 0 (c.e%2) c.t).f≠0): FnM Tryz.prog 12 tabN [.v (nI (n)),diskD dT X S,.v (aggV c.v),.v (nI (x))] (.v (.tuple #[aggV RecT.zero.v,aggV (accT n S (hg n) 0 (c.e%2) c.t).pv,.int .i64 9])):=by
 refine FnM.of Tryz.func12 rfl (by kernel_rfl) Tryz.ntmps12 (by simp) (by decide) (fun w=>[(0,.v (nI (n))),(1,old w.heap.size (diskD dT X S)),(2,.v (aggV c.v)),(3,.v (nI (x))),(1900000,tab 0 (sizV)),(1900001,tab 1 (H8.list.map u32V)),(1900002,tab 2 (K64.map u32V))]) (fun w=>(StartM.v rfl (StartM.old rfl (StartM.v rfl (StartM.v rfl (StartM.m (by simp[tabN]) (by decide) (StartM.m (by simp[tabN]) (by decide) (StartM.m (by simp[tabN]) (by decide) StartM.nil)))))))) fun w₀ hM=>?_
 have htab:=tabN_hi hM
 refine A.nameTl (t:=1) (k:=1000200) rfl fun v hv1=>?_
 refine GS (TN 0 (RN ?_));refine ZB 1000005 rfl fun b5 ⟨hBb5,hb5⟩=>?_
 refine TN 1 (RN ?_);refine ZB 1000006 rfl fun b6 ⟨hBb6,hb6⟩=>?_
 have hlt_b5_b6:=hb6 1000005 b5 _ _ rfl
 refine TN 2 (RN ?_);refine ZN 1000008 zero57 fun b8 ⟨hBb8,hb8⟩=>?_
 have hlt_b5_b8:=hb8 1000005 b5 _ _ rfl
 have hlt_b6_b8:=hb8 1000006 b6 _ _ rfl
 refine TN 3 (RN ?_);refine ZN 1000009 zero49 fun b9 ⟨hBb9,hb9⟩=>?_
 have hlt_b5_b9:=hb9 1000005 b5 _ _ rfl
 have hlt_b6_b9:=hb9 1000006 b6 _ _ rfl
 have hlt_b8_b9:=hb9 1000008 b8 _ _ rfl
 refine TL (RVN 1 rfl ?_);refine GS (TN 9 (RM rfl ?_));refine RS (OpOk.tlO (k:=1000200) [nI S.length,nI (totC S)] (ok_loadA (s:=1000005) (by decide) U44 rfl (size44.of (rfl)) rfl rfl) rfl hv1 (by decide) rfl) ?_;refine RL 1000006 U35 rfl rfl (size35.of (hc.len)) ?_;refine RM rfl ?_;refine RS (ok_callMK (Path_r n h1 h2 X S hS c hc x hx h0) (SubK.of (Sub.cons rfl (Sub.cons rfl (Sub.cons rfl KN))) tabN_v) (Args.cons rfl (Le.refl _) (Args.cons rfl (Le.old _ _) (A2 rfl rfl)))) ?_;refine RVN 4 rfl ?_;refine ZN 1000012 zero49 fun b12 ⟨hBb12,hb12⟩=>?_
 have hlt_b5_b12:=hb12 1000005 b5 _ _ rfl
 have hlt_b6_b12:=hb12 1000006 b6 _ _ rfl
 have hlt_b8_b12:=hb12 1000008 b8 _ _ rfl
 have hlt_b9_b12:=hb12 1000009 b9 _ _ rfl
 refine TF 11 (RVN 1 rfl ?_);refine ZA 1000012 (size49.of rfl) hBb12 rfl rfl rfl (LT 1000005 rfl (LT 1000006 rfl (LT 1000008 rfl (LB 1000009 rfl (LO 1000200 rfl (LQ 1900000 rfl (LQ 1900001 rfl (LQ 1900002 rfl (LW [0,3,8,9,11,12,25] rfl))))))))) ?_;refine TL (RVN 1 rfl ?_);refine QS (GT (RV 2 rfl ?_));refine RT ?_;refine RN (A.yes rfl ?_);refine A.regsMK [⟨3,b8,1000008,57,RecT.zero.v,RecT.zero.v,aggV (RecT.zero.v)⟩,⟨4,b9,1000009,49,[.int .i64 0,.int .u8 0],(accT n S (hg n) 0 (c.e%2) c.t).pv,aggV ((accT n S (hg n) 0 (c.e%2) c.t).pv)⟩] [_,_,_,undef,undef,_] (by kernel_rfl) (by kernel_rfl) (by kernel_rfl) (by kernel_rfl) (Sv [0,3,8,9,11,12,13,27,1000005,1000006,1000012,1000200,1900000,1900001,1900002] rfl)
  (Many.next (_) rfl rfl rfl (.inl rfl) FromN.all (ok_lit [] (RecT.v RecT.zero) (fun _ _=>rfl) (by kernel_rfl))
   (Many.next (_) rfl rfl rfl (.inl rfl) FromN.all (ok_loadA (s:=1000012) (by decide) U49 rfl (size49.of (rfl)) rfl rfl)
   (Many.next (_) rfl rfl rfl (.inl rfl) FromN.all (ok_move rfl)
   (Many.store ⟨3,b8,1000008,57,RecT.zero.v,RecT.zero.v,aggV (RecT.zero.v)⟩ List.mem_cons_self rfl ((28,.v _)::_) rfl (FromN.op 0 (by kernel_rfl) rfl rfl FromN.all) rfl rfl
   (Many.store ⟨4,b9,1000009,49,[.int .i64 0,.int .u8 0],(accT n S (hg n) 0 (c.e%2) c.t).pv,aggV ((accT n S (hg n) 0 (c.e%2) c.t).pv)⟩ (List.mem_cons_of_mem _ List.mem_cons_self) rfl ((29,.v _)::_) rfl (FromN.op 1 (by kernel_rfl) rfl rfl FromN.all) rfl rfl
   (Many.next ((30,.v _)::_) rfl rfl rfl (.inl rfl) (FromN.op 2 (by kernel_rfl) rfl rfl FromN.all) (ok_assign rfl)
   Many.nil))))))
  (FromE.op (t:=10) 5 rfl rfl FromE.all) (fun s hs=>by simp only[List.mem_cons,List.not_mem_nil,or_false] at hs; rcases hs with rfl|rfl<;>rfl) (fun s hs=>by simp only[List.mem_cons,List.not_mem_nil,or_false] at hs; rcases hs with rfl|rfl<;>first|exact hBb8|exact hBb9)
  (fun s hs s' hs'=>by simp only[List.mem_cons,List.not_mem_nil,or_false] at hs hs'; rcases hs with rfl|rfl<;>rcases hs' with rfl|rfl<;>first|exact .inl rfl|exact .inr ⟨fun h=>by simp at h,fun h=>by dsimp only at h; omega⟩)
  (fun s hs=>by simp only[List.mem_cons,List.not_mem_nil,or_false] at hs; rcases hs with rfl|rfl<;>first|exact SV.whole (size57.of (rfl)) (rfl) (RecT.one _)|exact SV.whole (size49.of (rfl)) (rfl) (rfl)) (fun s hs=>by simp only[List.mem_cons,List.not_mem_nil,or_false] at hs; rcases hs with rfl|rfl<;>(dsimp only; exact(LV 0 rfl (LV 3 rfl (LV 8 rfl (LV 9 rfl (LV 11 rfl (LV 12 rfl (LV 13 rfl (LV 27 rfl (LT 1000005 rfl (LT 1000006 rfl (LB 1000012 rfl (LO 1000200 rfl (LQ 1900000 rfl (LQ 1900001 rfl (LQ 1900002 rfl LN))))))))))))))))) ?_
 refine A.sub (Sv [8,9,10,1000005,1000006,1000008,1000009,1000012,1000200,1900000,1900001,1900002] rfl) ?_;refine A.ret (End.ret_then ?_);exact End.cell3V (s:=1000008) (s':=1000009) rfl U57 U49 rfl rfl (size57.of (rfl)) (size49.of (rfl)) rfl rfl rfl rfl rfl (rfl)
set_option maxHeartbeats 1000000 in
theorem Rec_ok(n:Nat)(h1:1<=n)(h2:n<=4096)(X:Nat->Prop)(S:Dk)(hS:S.length=bs n (hg n+1))(c:CelT)(hc:c.Fit)(x:Nat)(hx:x<n)(h0:(accT n S (hg n) 0 (c.e%2) c.t).f=0)(r:Nat)(hr:r<=hg n)(hgr:∀ k,k<r->Goes n S x (accT n S (hg n) 0 (c.e%2) c.t).x k)(he:r<hg n->(enK n S x (accT n S (hg n) 0 (c.e%2) c.t).x r).x.toNat=0): FnM Tryz.prog 12 tabN [.v (nI (n)),diskD dT X S,.v (aggV c.v),.v (nI (x))] (.v (.tuple #[aggV ((nK n S x (accT n S (hg n) 0 (c.e%2) c.t).x r).r (x%4)).v,aggV [.int .i64 0,.int .u8 0],.int .i64 0])):=by
 have hrf:=(nK_fit (n:=n) (S:=S) (x:=x) (accT_fit n S (hg n) 0 (c.e%2) c.t) r).r (x%4)
 have hh:=hg_le n
 refine FnM.of Tryz.func12 rfl (by kernel_rfl) Tryz.ntmps12 (by simp) (by decide) (fun w=>[(0,.v (nI (n))),(1,old w.heap.size (diskD dT X S)),(2,.v (aggV c.v)),(3,.v (nI (x))),(1900000,tab 0 (sizV)),(1900001,tab 1 (H8.list.map u32V)),(1900002,tab 2 (K64.map u32V))]) (fun w=>(StartM.v rfl (StartM.old rfl (StartM.v rfl (StartM.v rfl (StartM.m (by simp[tabN]) (by decide) (StartM.m (by simp[tabN]) (by decide) (StartM.m (by simp[tabN]) (by decide) StartM.nil)))))))) fun w₀ hM=>?_
 have htab:=tabN_hi hM
 refine A.nameTl (t:=1) (k:=1000200) rfl fun v hv1=>?_
 refine GS (TN 0 (RN ?_));refine ZB 1000005 rfl fun b5 ⟨hBb5,hb5⟩=>?_
 refine TN 1 (RN ?_);refine ZB 1000006 rfl fun b6 ⟨hBb6,hb6⟩=>?_
 have hlt_b5_b6:=hb6 1000005 b5 _ _ rfl
 refine TN 2 (RN ?_);refine ZN 1000008 zero57 fun b8 ⟨hBb8,hb8⟩=>?_
 have hlt_b5_b8:=hb8 1000005 b5 _ _ rfl
 have hlt_b6_b8:=hb8 1000006 b6 _ _ rfl
 refine TN 3 (RN ?_);refine ZN 1000009 zero49 fun b9 ⟨hBb9,hb9⟩=>?_
 have hlt_b5_b9:=hb9 1000005 b5 _ _ rfl
 have hlt_b6_b9:=hb9 1000006 b6 _ _ rfl
 have hlt_b8_b9:=hb9 1000008 b8 _ _ rfl
 refine TL (RVN 1 rfl ?_);refine GS (RunTK.newG 4 (by decide) rfl (.inl rfl) ?_);refine RM rfl ?_;refine RS (OpOk.tlO (k:=1000200) [nI S.length,nI (totC S)] (ok_loadA (s:=1000005) (by decide) U44 rfl (size44.of (rfl)) rfl rfl) rfl hv1 (by decide) rfl) ?_;refine RL 1000006 U35 rfl rfl (size35.of (hc.len)) ?_;refine RVN 1 rfl ?_;refine⟨_,_,_,eff_nameY (n:=48) (d:=22) (k:=1000022) rfl rfl (fun B'=>ok_callMBK (Path_okB n h1 h2 X S hS c hc x hx h0 r hr hgr he) newY_mono (SubK.of (Sub.cons rfl (Sub.cons rfl (Sub.cons rfl KN))) tabN_v) (Args.cons rfl (Le.refl _) (Args.cons rfl (Le.old _ _) (A2 rfl rfl)))) (by decide) (by decide),fun x22 hx22=>?_⟩
 obtain⟨g22,ys22⟩:=x22
 have hBg22:w₀.heap.size<=g22:=hx22.1
 refine TN 9 (RVN 4 rfl ?_);refine ZN 1000012 zero49 fun b12 ⟨hBb12,hb12⟩=>?_
 have hlt_b5_b12:=hb12 1000005 b5 _ _ rfl
 have hlt_b6_b12:=hb12 1000006 b6 _ _ rfl
 have hlt_b8_b12:=hb12 1000008 b8 _ _ rfl
 have hlt_b9_b12:=hb12 1000009 b9 _ _ rfl
 have hlt_g22_b12:=hb12 1000022 g22 _ _ rfl
 refine TF 11 (RVN 1 rfl ?_);refine ZA 1000012 (size49.of rfl) hBb12 rfl rfl rfl (LT 1000005 rfl (LT 1000006 rfl (LT 1000008 rfl (LB 1000009 rfl (LT 1000022 rfl (LO 1000200 rfl (LQ 1900000 rfl (LQ 1900001 rfl (LQ 1900002 rfl (LW [0,3,8,9,11,12,25] rfl)))))))))) ?_;refine TL (RVN 1 rfl ?_);refine QS (GT (RV 2 rfl ?_));refine RF ?_;refine RN (A.no rfl ?_);refine QK (GS (TN 7 (RV 2 rfl ?_)));refine RS (ok_call (Group_ok n h1 h2 x hx) (A2 rfl rfl)) ?_;refine RVN 4 rfl ?_;refine ZN 1000014 zero131 fun b14 ⟨hBb14,hb14⟩=>?_
 have hlt_b5_b14:=hb14 1000005 b5 _ _ rfl
 have hlt_b6_b14:=hb14 1000006 b6 _ _ rfl
 have hlt_b8_b14:=hb14 1000008 b8 _ _ rfl
 have hlt_b9_b14:=hb14 1000009 b9 _ _ rfl
 have hlt_b12_b14:=hb14 1000012 b12 _ _ rfl
 have hlt_g22_b14:=hb14 1000022 g22 _ _ rfl
 refine TF 8 (RN ?_);refine ZA 1000014 (size131.of rfl) hBb14 rfl rfl rfl (LT 1000005 rfl (LT 1000006 rfl (LT 1000008 rfl (LT 1000009 rfl (LT 1000012 rfl (LT 1000022 rfl (LO 1000200 rfl (LQ 1900000 rfl (LQ 1900001 rfl (LQ 1900002 rfl (LW [8,9,11,36,37] rfl))))))))))) ?_;refine TL (RVN 2 rfl ?_);refine A.sub (Sv [8,9,11,15,1000005,1000006,1000008,1000009,1000012,1000014,1000022,1000200,1900000,1900001,1900002] rfl) ?_;refine GS (TF 10 (RV 2 rfl ?_));refine RS (ok_lenV U46 rfl) ?_;refine RB rfl rfl rfl ?_;refine Rw (r) ?_;refine RM rfl ?_;refine RS (ok_indexS r U46 infoN rfl rfl rfl (by omega)) ?_;refine Rf field72_2 ?_;refine RS (ok_indexN _ U67 size57 rfl rfl (rfl) (by omega)) ?_;refine RS (ok_loadP (s:=1000022) (by decide) U57 rfl size57 rfl rfl (by rw[List.length_append,nods_len (pthL_fit (accT_fit _ _ _ _ _ _) _),pthL_length]; omega) (by show((nodsV (pthL n S x (accT n S (hg n) 0 (c.e%2) c.t).x (r+1))++ys22).drop (0+r*274+2+x%4*35)).take 35=((nK n S x (accT n S (hg n) 0 (c.e%2) c.t).x r).r (x%4)).v; rw[Nat.zero_add,nods_rec17 (pthL_fit (accT_fit _ _ _ _ _ _) _) (by rw[pthL_length]; omega) (Nat.mod_lt _ (by decide)),pthL_at (by omega)])) ?_;refine RS (ok_lit [] [.int .i64 0,.int .u8 0] (fun _ _=>rfl) (by kernel_rfl)) ?_;refine RN ?_;refine⟨_,eff_storeA (n:=48) (s:=1000008) (size57.of (hrf.len)) rfl rfl (RecT.one _) hBb8 rfl (by rw[hrf.len]; rfl) (LT 1000005 rfl (LT 1000006 rfl (LT 1000009 rfl (LT 1000012 rfl (LT 1000014 rfl (LT 1000022 rfl (LO 1000200 rfl (LQ 1900000 rfl (LQ 1900001 rfl (LQ 1900002 rfl (LW [8,9,47] rfl))))))))))),?_⟩
 refine TF 11 (RN ?_);refine ZA 1000009 (size49.of rfl) hBb9 rfl rfl rfl (LT 1000005 rfl (LT 1000006 rfl (LT 1000008 rfl (LB 1000012 rfl (LT 1000014 rfl (LT 1000022 rfl (LO 1000200 rfl (LQ 1900000 rfl (LQ 1900001 rfl (LQ 1900002 rfl (LW [8,9] rfl))))))))))) ?_;refine TL (RVN 1 rfl ?_);refine A.ret ?_;exact End.cell3V (s:=1000008) (s':=1000009) rfl U57 U49 rfl rfl (size57.of (hrf.len)) (size49.of (rfl)) rfl rfl rfl rfl rfl (rfl)
end
section
structure DatT where
 b:List UInt8
 s:Nat
 f:Nat
def DatT.no (s f:Nat):DatT:=⟨zD,s,f⟩
def DatT.e (a:DatT):Int:=if a.f=0 then 0 else 9
def DatT.pv (a:DatT):List Value:=[nI a.s,nB a.f]
def DatT.v (a:DatT):Value:=.tuple #[aggV (a.b.map byteV),aggV a.pv,.int .i64 a.e]
theorem zD_len: zD.length=32:=rfl
abbrev dtL (g p7 p8 p9:Nat):List Dem:=[(5,74,[]),(6,75,[ptr p7,ptr p8,ptr p9,ptr g])]
theorem Data_1(m:Int)(X:Nat->Prop)(S:Dk)(f:Nat->Nat)(hf:By f)(mk:List UInt8)(hmk:mk.length=32)(r:RecT)(hr:r.Fit)(x:Int)(h:¬ (DkOk m S∧0<=x∧x<m)): Fn Tryz.prog 31 [.v (.int .i64 (m)),diskD dT X S,.v (aggV (rowV 16 f++mk.map byteV)),.v (.int .i64 (x)),.v (aggV r.v)] (.v (.tuple #[aggV (zD.map byteV),aggV [.int .i64 0,.int .u8 0],.int .i64 1])):=by
 refine Fn.of Tryz.func31 rfl (by kernel_rfl) Tryz.ntmps31 (by simp) (fun w=>[(0,.v (.int .i64 (m))),(1,old w.heap.size (diskD dT X S)),(2,.v (aggV (rowV 16 f++mk.map byteV))),(3,.v (.int .i64 (x))),(4,.v (aggV r.v))]) (fun w=>(Start.v rfl (Start.old rfl (Start.v rfl (Start.v rfl (Start.v rfl Start.nil)))))) fun w₀=>?_
 refine A.nameTl (t:=1) (k:=1000200) rfl fun v hv1=>?_
 refine GS (TN 0 (RN ?_));refine ZB 1000006 rfl fun b6 ⟨hBb6,hb6⟩=>?_
 refine TN 1 (RN ?_);refine ZB 1000007 rfl fun b7 ⟨hBb7,hb7⟩=>?_
 have hlt_b6_b7:=hb7 1000006 b6 _ _ rfl
 refine TN 2 (RN ?_);refine⟨_,_,eff_box1 (n:=67) (d:=8) (k:=1000008) rfl rfl (by decide),fun b8 hb8=>?_⟩
 have hBb8:=hb8.1
 have hlt_b6_b8:b6<b8:=hb8.2 1000006 _ _ _ rfl
 have hlt_b7_b8:b7<b8:=hb8.2 1000007 _ _ _ rfl
 refine TN 3 (RN ?_);refine ZB 1000009 rfl fun b9 ⟨hBb9,hb9⟩=>?_
 have hlt_b6_b9:=hb9 1000006 b6 _ _ rfl
 have hlt_b7_b9:=hb9 1000007 b7 _ _ rfl
 have hlt_b8_b9:=hb9 1000008 b8 _ _ rfl
 refine TN 4 (RN ?_);refine ZN 1000010 zero60 fun b10 ⟨hBb10,hb10⟩=>?_
 have hlt_b6_b10:=hb10 1000006 b6 _ _ rfl
 have hlt_b7_b10:=hb10 1000007 b7 _ _ rfl
 have hlt_b8_b10:=hb10 1000008 b8 _ _ rfl
 have hlt_b9_b10:=hb10 1000009 b9 _ _ rfl
 refine TN 5 (RN ?_);refine ZN 1000011 zero49 fun b11 ⟨hBb11,hb11⟩=>?_
 have hlt_b6_b11:=hb11 1000006 b6 _ _ rfl
 have hlt_b7_b11:=hb11 1000007 b7 _ _ rfl
 have hlt_b8_b11:=hb11 1000008 b8 _ _ rfl
 have hlt_b9_b11:=hb11 1000009 b9 _ _ rfl
 have hlt_b10_b11:=hb11 1000010 b10 _ _ rfl
 refine TL (RVN 1 rfl ?_);refine QS (GT (RM rfl ?_));refine RS (OpOk.tlO (k:=1000200) [nI S.length,nI (totC S)] (ok_loadA (s:=1000006) (by decide) U44 rfl (size44.of (rfl)) rfl rfl) rfl hv1 (by decide) rfl) ?_;refine RLV 1000008 U3 rfl rfl rfl ?_;refine RS (ok_call (ckBlk_1 m X S x h) (Args.cons rfl (Le.refl _) (Args.cons rfl (Le.old _ _) (A1 rfl)))) ?_;refine RVN 1 rfl ?_;refine GT (RV 2 rfl ?_);refine RT ?_;refine RN (A.yes rfl ?_);refine GS (TF 3 (RS (ok_litP [] U60 info5 zero60 (by decide) trivial rfl) ?_));refine RS (ok_lit [] [.int .i64 0,.int .u8 0] (fun _ _=>rfl) (by kernel_rfl)) ?_;refine RVN 1 rfl ?_;refine ZA 1000010 (size60.of rfl) hBb10 rfl rfl rfl (LT 1000006 rfl (LT 1000007 rfl (LT 1000008 rfl (LT 1000009 rfl (LT 1000011 rfl (LO 1000200 rfl (LW [10,11,28,29] rfl))))))) ?_;refine TF 4 (RN ?_);refine ZA 1000011 (size49.of rfl) hBb11 rfl rfl rfl (LT 1000006 rfl (LT 1000007 rfl (LT 1000008 rfl (LT 1000009 rfl (LT 1000010 rfl (LO 1000200 rfl (LW [10,11,29] rfl))))))) ?_;refine TL (RVN 1 rfl ?_);refine A.ret (End.ret_then ?_);exact End.cell3V (s:=1000010) (s':=1000011) rfl U60 U49 rfl rfl (size60.of (rfl)) (size49.of (rfl)) rfl rfl rfl rfl rfl (rfl)
theorem Data_z(n:Nat)(h1:1<=n)(h2:n<=4096)(X:Nat->Prop)(S:Dk)(hS:S.length=bs n (hg n+1))(f:Nat->Nat)(hf:By f)(mk:List UInt8)(hmk:mk.length=32)(x:Nat)(hx:x<n)(r:RecT)(hr:r.Fit)(hk:r.ck=0)(hz:r.x.toNat=0): Fn Tryz.prog 31 [.v (nI (n)),diskD dT X S,.v (aggV (rowV 16 f++mk.map byteV)),.v (nI (x)),.v (aggV r.v)] (.v (.tuple #[aggV (zD.map byteV),aggV [.int .i64 0,.int .u8 0],.int .i64 0])):=by
 refine Fn.of Tryz.func31 rfl (by kernel_rfl) Tryz.ntmps31 (by simp) (fun w=>[(0,.v (nI (n))),(1,old w.heap.size (diskD dT X S)),(2,.v (aggV (rowV 16 f++mk.map byteV))),(3,.v (nI (x))),(4,.v (aggV r.v))]) (fun w=>(Start.v rfl (Start.old rfl (Start.v rfl (Start.v rfl (Start.v rfl Start.nil)))))) fun w₀=>?_
 refine A.nameTl (t:=1) (k:=1000200) rfl fun v hv1=>?_
 refine GS (TN 0 (RN ?_));refine ZB 1000006 rfl fun b6 ⟨hBb6,hb6⟩=>?_
 refine TN 1 (RN ?_);refine ZB 1000007 rfl fun b7 ⟨hBb7,hb7⟩=>?_
 have hlt_b6_b7:=hb7 1000006 b6 _ _ rfl
 refine TN 2 (RN ?_);refine⟨_,_,eff_box1 (n:=67) (d:=8) (k:=1000008) rfl rfl (by decide),fun b8 hb8=>?_⟩
 have hBb8:=hb8.1
 have hlt_b6_b8:b6<b8:=hb8.2 1000006 _ _ _ rfl
 have hlt_b7_b8:b7<b8:=hb8.2 1000007 _ _ _ rfl
 refine TN 3 (RN ?_);refine ZB 1000009 rfl fun b9 ⟨hBb9,hb9⟩=>?_
 have hlt_b6_b9:=hb9 1000006 b6 _ _ rfl
 have hlt_b7_b9:=hb9 1000007 b7 _ _ rfl
 have hlt_b8_b9:=hb9 1000008 b8 _ _ rfl
 refine TN 4 (RN ?_);refine ZN 1000010 zero60 fun b10 ⟨hBb10,hb10⟩=>?_
 have hlt_b6_b10:=hb10 1000006 b6 _ _ rfl
 have hlt_b7_b10:=hb10 1000007 b7 _ _ rfl
 have hlt_b8_b10:=hb10 1000008 b8 _ _ rfl
 have hlt_b9_b10:=hb10 1000009 b9 _ _ rfl
 refine TN 5 (RN ?_);refine ZN 1000011 zero49 fun b11 ⟨hBb11,hb11⟩=>?_
 have hlt_b6_b11:=hb11 1000006 b6 _ _ rfl
 have hlt_b7_b11:=hb11 1000007 b7 _ _ rfl
 have hlt_b8_b11:=hb11 1000008 b8 _ _ rfl
 have hlt_b9_b11:=hb11 1000009 b9 _ _ rfl
 have hlt_b10_b11:=hb11 1000010 b10 _ _ rfl
 refine TL (RVN 1 rfl ?_);refine QS (GT (RM rfl ?_));refine RS (OpOk.tlO (k:=1000200) [nI S.length,nI (totC S)] (ok_loadA (s:=1000006) (by decide) U44 rfl (size44.of (rfl)) rfl rfl) rfl hv1 (by decide) rfl) ?_;refine RLV 1000008 U3 rfl rfl rfl ?_;refine RS (ok_call (ckBlk_ok n h1 h2 X S hS x hx) (Args.cons rfl (Le.refl _) (Args.cons rfl (Le.old _ _) (A1 rfl)))) ?_;refine RVN 1 rfl ?_;refine GT (RV 2 rfl ?_);refine RF ?_;refine RN (A.no rfl ?_);refine QK (QS (GT (RL 1000009 U57 rfl rfl (size57.of (hr.len)) ?_)));refine RS (ok_call (CheckR_fn r.x r.s r.c r.t hr.t) (A1 rfl)) ?_;refine RVN 1 rfl ?_;refine GT (RV 2 rfl ?_);refine RZ (.bool false) (congrArg Value.bool (by rw[show ckR r.x r.s r.c r.t=0 from hk]; rfl)) ?_;refine RN (A.no rfl ?_);refine QK (GT (Rf field57_0 ?_));refine RLV 1000009 U5 rfl rfl rfl ?_;refine RS (ok_call (Slot_none r.x hz) (A1 rfl)) ?_;refine RVN 5 rfl ?_;refine A.sub (Sv [0,6,7,8,9,10,11,15,16,1000006,1000007,1000008,1000009,1000010,1000011,1000200] rfl) ?_;refine QS (GT (RV 2 rfl ?_));refine RT ?_;refine RN (A.yes rfl ?_);refine GS (TF 2 (RS (ok_litP [] U60 info5 zero60 (by decide) trivial rfl) ?_));refine RS (ok_lit [] [.int .i64 0,.int .u8 0] (fun _ _=>rfl) (by kernel_rfl)) ?_;refine RN ?_;refine ZA 1000010 (size60.of rfl) hBb10 rfl rfl rfl (LT 1000006 rfl (LT 1000007 rfl (LT 1000008 rfl (LT 1000009 rfl (LT 1000011 rfl (LO 1000200 rfl (LW [10,11,46] rfl))))))) ?_;refine TF 3 (RN ?_);refine ZA 1000011 (size49.of rfl) hBb11 rfl rfl rfl (LT 1000006 rfl (LT 1000007 rfl (LT 1000008 rfl (LT 1000009 rfl (LT 1000010 rfl (LO 1000200 rfl (LW [10,11] rfl))))))) ?_;refine TL (RVN 1 rfl ?_);refine A.ret (End.ret_then ?_);exact End.cell3V (s:=1000010) (s':=1000011) rfl U60 U49 rfl rfl (size60.of (rfl)) (size49.of (rfl)) rfl rfl rfl rfl rfl (rfl)
set_option maxHeartbeats 4000000 in
theorem Data_g(n:Nat)(h1:1<=n)(h2:n<=4096)(X:Nat->Prop)(S:Dk)(hS:S.length=bs n (hg n+1))(f:Nat->Nat)(hf:By f)(mk:List UInt8)(hmk:mk.length=32)(x:Nat)(hx:x<n)(r:RecT)(hr:r.Fit)(hk:r.ck=0)(hz:r.x.toNat≠0)(Y:List UInt8)(hY:Y.length=32)(ps pf:Nat)(e:Int)(hA:∀ g p7 p8 p9 q:Nat,3<=g->p7<g->p8<g->p9<g->FnWR Tryz.prog 73 ((1000062,blk q 158 (demsV (dtL g p7 p8 p9)))::acM 64 p7 (rowV 16 f++mk.map byteV) 3 p8 [nI x] 57 p9 r.v) 60 g (List.replicate 32 (.int .u8 0)) (Y.map byteV) [diskD dT X S,.v (nI (2*x+(r.x.toNat-1))),.v (.slice (some ⟨q,0,none⟩) 2 2)] (.tuple #[aggV [nI ps,nB pf],.int .i64 e])): FnM Tryz.prog 31 tabN [.v (nI (n)),diskD dT X S,.v (aggV (rowV 16 f++mk.map byteV)),.v (nI (x)),.v (aggV r.v)] (.v (.tuple #[aggV (Y.map byteV),aggV [nI ps,nB pf],.int .i64 e])):=by
 have hr2:r.x.toNat<=2:=by
  have hb:=RecT.ck_zero.1 hk
  unfold RecT.Bad BadR at hb
  omega
 have hYl:(Y.map byteV).length=32:=by rw[List.length_map,hY]
 refine FnM.of Tryz.func31 rfl (by kernel_rfl) Tryz.ntmps31 (by simp) (by decide) (fun w=>[(0,.v (nI (n))),(1,old w.heap.size (diskD dT X S)),(2,.v (aggV (rowV 16 f++mk.map byteV))),(3,.v (nI (x))),(4,.v (aggV r.v)),(1900000,tab 0 (sizV)),(1900001,tab 1 (H8.list.map u32V)),(1900002,tab 2 (K64.map u32V))]) (fun w=>(StartM.v rfl (StartM.old rfl (StartM.v rfl (StartM.v rfl (StartM.v rfl (StartM.m (by simp[tabN]) (by decide) (StartM.m (by simp[tabN]) (by decide) (StartM.m (by simp[tabN]) (by decide) StartM.nil))))))))) fun w₀ hM=>?_
 have htab:=tabN_hi hM
 refine A.nameTl (t:=1) (k:=1000200) rfl fun v hv1=>?_
 refine GS (TN 0 (RN ?_));refine ZB 1000006 rfl fun b6 ⟨hBb6,hb6⟩=>?_
 refine TN 1 (RN ?_);refine ZB 1000007 rfl fun b7 ⟨hBb7,hb7⟩=>?_
 have hlt_b6_b7:=hb7 1000006 b6 _ _ rfl
 refine TN 2 (RN ?_);refine⟨_,_,eff_box1 (n:=67) (d:=8) (k:=1000008) rfl rfl (by decide),fun b8 hb8=>?_⟩
 have hBb8:=hb8.1
 have hlt_b6_b8:b6<b8:=hb8.2 1000006 _ _ _ rfl
 have hlt_b7_b8:b7<b8:=hb8.2 1000007 _ _ _ rfl
 refine TN 3 (RN ?_);refine ZB 1000009 rfl fun b9 ⟨hBb9,hb9⟩=>?_
 have hlt_b6_b9:=hb9 1000006 b6 _ _ rfl
 have hlt_b7_b9:=hb9 1000007 b7 _ _ rfl
 have hlt_b8_b9:=hb9 1000008 b8 _ _ rfl
 refine TN 4 (RN ?_);refine ZN 1000010 zero60 fun b10 ⟨hBb10,hb10⟩=>?_
 have hlt_b6_b10:=hb10 1000006 b6 _ _ rfl
 have hlt_b7_b10:=hb10 1000007 b7 _ _ rfl
 have hlt_b8_b10:=hb10 1000008 b8 _ _ rfl
 have hlt_b9_b10:=hb10 1000009 b9 _ _ rfl
 refine TN 5 (RN ?_);refine ZN 1000011 zero49 fun b11 ⟨hBb11,hb11⟩=>?_
 have hlt_b6_b11:=hb11 1000006 b6 _ _ rfl
 have hlt_b7_b11:=hb11 1000007 b7 _ _ rfl
 have hlt_b8_b11:=hb11 1000008 b8 _ _ rfl
 have hlt_b9_b11:=hb11 1000009 b9 _ _ rfl
 have hlt_b10_b11:=hb11 1000010 b10 _ _ rfl
 refine TL (RVN 1 rfl ?_);refine QS (GT (RM rfl ?_));refine RS (OpOk.tlO (k:=1000200) [nI S.length,nI (totC S)] (ok_loadA (s:=1000006) (by decide) U44 rfl (size44.of (rfl)) rfl rfl) rfl hv1 (by decide) rfl) ?_;refine RLV 1000008 U3 rfl rfl rfl ?_;refine RS (ok_call (ckBlk_ok n h1 h2 X S hS x hx) (Args.cons rfl (Le.refl _) (Args.cons rfl (Le.old _ _) (A1 rfl)))) ?_;refine RVN 1 rfl ?_;refine GT (RV 2 rfl ?_);refine RF ?_;refine RN (A.no rfl ?_);refine QK (QS (GT (RL 1000009 U57 rfl rfl (size57.of (hr.len)) ?_)));refine RS (ok_call (CheckR_fn r.x r.s r.c r.t hr.t) (A1 rfl)) ?_;refine RVN 1 rfl ?_;refine GT (RV 2 rfl ?_);refine RZ (.bool false) (congrArg Value.bool (by rw[show ckR r.x r.s r.c r.t=0 from hk]; rfl)) ?_;refine RN (A.no rfl ?_);refine QK (GT (Rf field57_0 ?_));refine RLV 1000009 U5 rfl rfl rfl ?_;refine RS (ok_call (Slot_ok r.x (by omega) hr2) (A1 rfl)) ?_;refine RVN 5 rfl ?_;refine A.sub (Sv [0,6,7,8,9,10,11,15,16,1000006,1000007,1000008,1000009,1000010,1000011,1000200,1900000,1900001,1900002] rfl) ?_;refine QS (GT (RV 2 rfl ?_));refine RF ?_;refine RN (A.no rfl ?_);refine QK (GT (RM rfl ?_));refine RLV 1000008 U3 rfl rfl rfl ?_;refine RM rfl ?_;refine RS (ok_call (Data_ok n h1 h2 x hx (r.x.toNat-1) (by omega)) (A3 rfl rfl rfl)) ?_;refine RVN 5 rfl ?_;refine GS (TN 0 (RN ?_));refine ZN 1000019 zero60 fun b19 ⟨hBb19,hb19⟩=>?_
 have hlt_b6_b19:=hb19 1000006 b6 _ _ rfl
 have hlt_b7_b19:=hb19 1000007 b7 _ _ rfl
 have hlt_b8_b19:=hb19 1000008 b8 _ _ rfl
 have hlt_b9_b19:=hb19 1000009 b9 _ _ rfl
 have hlt_b10_b19:=hb19 1000010 b10 _ _ rfl
 have hlt_b11_b19:=hb19 1000011 b11 _ _ rfl
 refine TL (RN (GS (TN 5 (RS (OpOk.tlO (k:=1000200) [nI S.length,nI (totC S)] (ok_loadA (s:=1000006) (by decide) U44 rfl (size44.of (rfl)) rfl rfl) rfl hv1 (by decide) rfl) ?_))));refine RM rfl ?_;refine RS (ok_litS [(0,nB 5),(1,.func (.func 74) #[] #[])] [nB 5,.func (.func 74) #[] #[]] ⟨rfl,rfl,rfl,rfl,trivial⟩ (by kernel_rfl)) ?_;refine RS (ok_makeFuncN [ptr b7,ptr b8,ptr b9,ptr b19] ⟨rfl,rfl,rfl,rfl,trivial⟩) ?_;refine RS (ok_litS [(0,nB 6),(1,.func (.func 75) #[] #[ptr b7,ptr b8,ptr b9,ptr b19])] [nB 6,.func (.func 75) #[] #[ptr b7,ptr b8,ptr b9,ptr b19]] ⟨rfl,rfl,rfl,rfl,trivial⟩ (by kernel_rfl)) ?_;refine RN ?_;refine ZM 1000060 (fun B'=>ok_buildG (m:=2) [(0,aggV [nB 5,.func (.func 74) #[] #[]]),(1,aggV [nB 6,.func (.func 75) #[] #[ptr b7,ptr b8,ptr b9,ptr b19]])] (demsV (dtL b19 b7 b8 b9)) U161 infoDM ⟨rfl,rfl,rfl,rfl,trivial⟩ (by kernel_rfl) (by decide) (by decide)) rfl fun b60 ⟨hBb60,hb60⟩=>?_
 have hlt_b6_b60:=hb60 1000006 b6 _ _ rfl
 have hlt_b7_b60:=hb60 1000007 b7 _ _ rfl
 have hlt_b8_b60:=hb60 1000008 b8 _ _ rfl
 have hlt_b9_b60:=hb60 1000009 b9 _ _ rfl
 have hlt_b10_b60:=hb60 1000010 b10 _ _ rfl
 have hlt_b11_b60:=hb60 1000011 b11 _ _ rfl
 have hlt_b19_b60:=hb60 1000019 b19 _ _ rfl
 refine TF 6 (RN ?_);refine⟨_,eff_callWR (n:=67) (s:=1000019) (hA b19 b7 b8 b9 b60 (by omega) (by omega) (by omega) (by omega)) ((fun p hp=>by simp only[List.mem_cons,List.not_mem_nil,or_false] at hp; rcases hp with rfl|rfl|rfl|rfl|rfl|rfl|rfl; exact⟨1000060,by decide,rfl⟩; exact⟨1900000,by decide,rfl⟩; exact⟨1900001,by decide,rfl⟩; exact⟨1900002,by decide,rfl⟩; exact⟨1000007,by decide,rfl⟩; exact⟨1000008,by decide,rfl⟩; exact⟨1000009,by decide,rfl⟩)) (Args.cons rfl (Le.old _ _) (A2 rfl rfl)) hBb19 rfl (by decide) (by decide) (LT 1000006 rfl (LT 1000007 rfl (LT 1000008 rfl (LT 1000009 rfl (LB 1000010 rfl (LT 1000011 rfl (LT 1000060 rfl (LO 1000200 rfl (LQ 1900000 rfl (LQ 1900001 rfl (LQ 1900002 rfl (LW [10,11,19] rfl)))))))))))),?_⟩
 refine TN 10 (RVN 3 rfl ?_);refine ZN 1000020 zero49 fun b20 ⟨hBb20,hb20⟩=>?_
 have hlt_b6_b20:=hb20 1000006 b6 _ _ rfl
 have hlt_b7_b20:=hb20 1000007 b7 _ _ rfl
 have hlt_b8_b20:=hb20 1000008 b8 _ _ rfl
 have hlt_b9_b20:=hb20 1000009 b9 _ _ rfl
 have hlt_b10_b20:=hb20 1000010 b10 _ _ rfl
 have hlt_b11_b20:=hb20 1000011 b11 _ _ rfl
 have hlt_b19_b20:=hb20 1000019 b19 _ _ rfl
 have hlt_b60_b20:=hb20 1000060 b60 _ _ rfl
 refine TF 11 (RN ?_);refine ZA 1000020 (size49.of rfl) hBb20 rfl rfl rfl (LT 1000006 rfl (LT 1000007 rfl (LT 1000008 rfl (LT 1000009 rfl (LT 1000010 rfl (LB 1000011 rfl (LT 1000019 rfl (LT 1000060 rfl (LO 1000200 rfl (LQ 1900000 rfl (LQ 1900001 rfl (LQ 1900002 rfl (LW [10,11,19,20,63] rfl))))))))))))) ?_;refine TL (RVN 1 rfl ?_);refine A.sub (Sv [10,11,16,19,20,1000006,1000007,1000008,1000009,1000010,1000011,1000019,1000020,1000060,1000200,1900000,1900001,1900002] rfl) ?_;refine A.regsMK [⟨3,b10,1000010,60,(List.replicate 32 (.int .u8 0)),Y.map byteV,aggV (Y.map byteV)⟩,⟨4,b11,1000011,49,[.int .i64 0,.int .u8 0],[nI ps,nB pf],aggV ([nI ps,nB pf])⟩] [_,_,_,undef,undef,_] (by kernel_rfl) (by kernel_rfl) (by kernel_rfl) (by kernel_rfl) (Sv [10,11,16,19,20,1000006,1000007,1000008,1000009,1000019,1000020,1000060,1000200,1900000,1900001,1900002] rfl)
  (Many.next (_) rfl rfl rfl (.inl rfl) FromN.all (ok_loadA (s:=1000019) (by decide) U60 rfl (size60.of (hYl)) rfl rfl)
   (Many.next (_) rfl rfl rfl (.inl rfl) FromN.all (ok_loadA (s:=1000020) (by decide) U49 rfl (size49.of (rfl)) rfl rfl)
   (Many.next (_) rfl rfl rfl (.inl rfl) FromN.all (ok_move rfl)
   (Many.store ⟨3,b10,1000010,60,(List.replicate 32 (.int .u8 0)),Y.map byteV,aggV (Y.map byteV)⟩ List.mem_cons_self rfl ((64,.v _)::_) rfl (FromN.op 0 (by kernel_rfl) rfl rfl FromN.all) rfl rfl
   (Many.store ⟨4,b11,1000011,49,[.int .i64 0,.int .u8 0],[nI ps,nB pf],aggV ([nI ps,nB pf])⟩ (List.mem_cons_of_mem _ List.mem_cons_self) rfl ((65,.v _)::_) rfl (FromN.op 1 (by kernel_rfl) rfl rfl FromN.all) rfl rfl
   (Many.next ((66,.v _)::_) rfl rfl rfl (.inl rfl) (FromN.op 2 (by kernel_rfl) rfl rfl FromN.all) (ok_assign rfl)
   Many.nil))))))
  (FromE.op (t:=12) 5 rfl rfl FromE.all) (fun s hs=>by simp only[List.mem_cons,List.not_mem_nil,or_false] at hs; rcases hs with rfl|rfl<;>rfl) (fun s hs=>by simp only[List.mem_cons,List.not_mem_nil,or_false] at hs; rcases hs with rfl|rfl<;>first|exact hBb10|exact hBb11)
  (fun s hs s' hs'=>by simp only[List.mem_cons,List.not_mem_nil,or_false] at hs hs'; rcases hs with rfl|rfl<;>rcases hs' with rfl|rfl<;>first|exact .inl rfl|exact .inr ⟨fun h=>by simp at h,fun h=>by dsimp only at h; omega⟩)
  (fun s hs=>by simp only[List.mem_cons,List.not_mem_nil,or_false] at hs; rcases hs with rfl|rfl<;>first|exact SV.whole (size60.of (hYl)) (hYl.symm) (all_bytes _)|exact SV.whole (size49.of (rfl)) (rfl) (rfl)) (fun s hs=>by simp only[List.mem_cons,List.not_mem_nil,or_false] at hs; rcases hs with rfl|rfl<;>(dsimp only; exact(LV 10 rfl (LV 11 rfl (LV 16 rfl (LV 19 rfl (LV 20 rfl (LT 1000006 rfl (LT 1000007 rfl (LT 1000008 rfl (LT 1000009 rfl (LB 1000019 rfl (LB 1000020 rfl (LT 1000060 rfl (LO 1000200 rfl (LQ 1900000 rfl (LQ 1900001 rfl (LQ 1900002 rfl LN)))))))))))))))))) ?_
 refine A.sub (Sv [10,11,12,1000006,1000007,1000008,1000009,1000010,1000011,1000019,1000020,1000060,1000200,1900000,1900001,1900002] rfl) ?_;refine A.ret ?_;exact End.cell3V (s:=1000010) (s':=1000011) rfl U60 U49 rfl rfl (size60.of (hYl)) (size49.of (rfl)) rfl rfl rfl rfl rfl (rfl)
theorem sec_lt{x:Nat}(hx:x<n)(hs:s<2): 2*x+s<bs n (hg n+1):=by unfold bs; omega
theorem Data_abs(n:Nat)(h1:1<=n)(h2:n<=4096)(X:Nat->Prop)(S:Dk)(hS:S.length=bs n (hg n+1))(f:Nat->Nat)(hf:By f)(mk:List UInt8)(hmk:mk.length=32)(x:Nat)(hx:x<n)(r:RecT)(hr:r.Fit)(hk:r.ck=0)(hz:r.x.toNat≠0)(hc:lastC (hisC S (2*x+(r.x.toNat-1)))=none): FnM Tryz.prog 31 tabN [.v (nI (n)),diskD dT X S,.v (aggV (rowV 16 f++mk.map byteV)),.v (nI (x)),.v (aggV r.v)] (.v (DatT.no (2*x+(r.x.toNat-1)) 1).v):=by
 have hr2:r.x.toNat<=2:=by
  have hb:=RecT.ck_zero.1 hk
  unfold RecT.Bad BadR at hb
  omega
 exact Data_g n h1 h2 X S hS f hf mk hmk x hx r hr hk hz zD rfl (2*x+(r.x.toNat-1)) 1 9 fun g p7 p8 p9 q h2g hp₁ hp₂ hp₃=>acc_no 60 (.inr rfl) g h2g 64 p7 (rowV 16 f++mk.map byteV) 3 p8 [nI x] 57 p9 r.v hp₁ hp₂ hp₃ X S (2*x+(r.x.toNat-1)) (by rw[hS]; exact sec_lt hx (by omega)) (by rw[hS]; exact bs_cap h1 h2) q (dtL g p7 p8 p9) (by simp) _ hc
theorem Blk_1(m:Int)(X:Nat->Prop)(S:Dk)(c:CelT)(hc:c.Fit)(f:Nat->Nat)(hf:By f)(mk:List UInt8)(hmk:mk.length=32)(x:Int)(h:¬ (DkOk m S∧0<=x∧x<m)): Fn Tryz.prog 13 [.v (.int .i64 (m)),diskD dT X S,.v (aggV c.v),.v (aggV (rowV 16 f++mk.map byteV)),.v (.int .i64 (x))] (.v (.tuple #[aggV (zD.map byteV),aggV [.int .i64 0,.int .u8 0],.int .i64 1])):=by
 refine Fn.of Tryz.func13 rfl (by kernel_rfl) Tryz.ntmps13 (by simp) (fun w=>[(0,.v (.int .i64 (m))),(1,old w.heap.size (diskD dT X S)),(2,.v (aggV c.v)),(3,.v (aggV (rowV 16 f++mk.map byteV))),(4,.v (.int .i64 (x)))]) (fun w=>(Start.v rfl (Start.old rfl (Start.v rfl (Start.v rfl (Start.v rfl Start.nil)))))) fun w₀=>?_
 refine A.nameTl (t:=1) (k:=1000200) rfl fun v hv1=>?_
 refine GS (TN 0 (RN ?_));refine ZB 1000006 rfl fun b6 ⟨hBb6,hb6⟩=>?_
 refine TN 1 (RN ?_);refine ZB 1000007 rfl fun b7 ⟨hBb7,hb7⟩=>?_
 have hlt_b6_b7:=hb7 1000006 b6 _ _ rfl
 refine TN 2 (RN ?_);refine ZB 1000008 rfl fun b8 ⟨hBb8,hb8⟩=>?_
 have hlt_b6_b8:=hb8 1000006 b6 _ _ rfl
 have hlt_b7_b8:=hb8 1000007 b7 _ _ rfl
 refine TN 3 (RN ?_);refine ZN 1000010 zero60 fun b10 ⟨hBb10,hb10⟩=>?_
 have hlt_b6_b10:=hb10 1000006 b6 _ _ rfl
 have hlt_b7_b10:=hb10 1000007 b7 _ _ rfl
 have hlt_b8_b10:=hb10 1000008 b8 _ _ rfl
 refine TN 4 (RN ?_);refine ZN 1000011 zero49 fun b11 ⟨hBb11,hb11⟩=>?_
 have hlt_b6_b11:=hb11 1000006 b6 _ _ rfl
 have hlt_b7_b11:=hb11 1000007 b7 _ _ rfl
 have hlt_b8_b11:=hb11 1000008 b8 _ _ rfl
 have hlt_b10_b11:=hb11 1000010 b10 _ _ rfl
 refine TL (RVN 1 rfl ?_);refine GS (TN 9 (RM rfl ?_));refine RS (OpOk.tlO (k:=1000200) [nI S.length,nI (totC S)] (ok_loadA (s:=1000006) (by decide) U44 rfl (size44.of (rfl)) rfl rfl) rfl hv1 (by decide) rfl) ?_;refine RL 1000007 U35 rfl rfl (size35.of (hc.len)) ?_;refine RM rfl ?_;refine RS (ok_call (Rec_1 m X S c hc x h) (Args.cons rfl (Le.refl _) (Args.cons rfl (Le.old _ _) (A2 rfl rfl)))) ?_;refine RVN 4 rfl ?_;refine ZN 1000013 zero57 fun b13 ⟨hBb13,hb13⟩=>?_
 have hlt_b6_b13:=hb13 1000006 b6 _ _ rfl
 have hlt_b7_b13:=hb13 1000007 b7 _ _ rfl
 have hlt_b8_b13:=hb13 1000008 b8 _ _ rfl
 have hlt_b10_b13:=hb13 1000010 b10 _ _ rfl
 have hlt_b11_b13:=hb13 1000011 b11 _ _ rfl
 refine TN 10 (RN ?_);refine ZN 1000014 zero49 fun b14 ⟨hBb14,hb14⟩=>?_
 have hlt_b6_b14:=hb14 1000006 b6 _ _ rfl
 have hlt_b7_b14:=hb14 1000007 b7 _ _ rfl
 have hlt_b8_b14:=hb14 1000008 b8 _ _ rfl
 have hlt_b10_b14:=hb14 1000010 b10 _ _ rfl
 have hlt_b11_b14:=hb14 1000011 b11 _ _ rfl
 have hlt_b13_b14:=hb14 1000013 b13 _ _ rfl
 refine TF 11 (RN ?_);refine⟨_,eff_storeA (n:=39) (s:=1000013) (size57.of (rfl)) rfl rfl (RecT.one _) hBb13 rfl (rfl) (LT 1000006 rfl (LT 1000007 rfl (LT 1000008 rfl (LT 1000010 rfl (LT 1000011 rfl (LT 1000014 rfl (LO 1000200 rfl (LW [0,4,6,8,10,11,13,14,23,24] rfl)))))))),?_⟩
 refine TF 12 (RN ?_);refine ZA 1000014 (size49.of rfl) hBb14 rfl rfl rfl (LT 1000006 rfl (LT 1000007 rfl (LT 1000008 rfl (LT 1000010 rfl (LB 1000011 rfl (LT 1000013 rfl (LO 1000200 rfl (LW [0,4,6,8,10,11,13,14,24] rfl)))))))) ?_;refine TL (RVN 1 rfl ?_);refine QS (GT (RV 2 rfl ?_));refine RT ?_;refine RN (A.yes rfl ?_);refine A.regsMK [⟨3,b10,1000010,60,(List.replicate 32 (.int .u8 0)),(List.replicate 32 (.int .u8 0)),aggV ((List.replicate 32 (.int .u8 0)))⟩,⟨4,b11,1000011,49,[.int .i64 0,.int .u8 0],[.int .i64 0,.int .u8 0],aggV ([.int .i64 0,.int .u8 0])⟩] [_,_,_,undef,undef,_] (by kernel_rfl) (by kernel_rfl) (by kernel_rfl) (by kernel_rfl) (Sv [0,4,6,8,10,11,13,14,15,26,1000006,1000007,1000008,1000013,1000014,1000200] rfl)
  (Many.next (_) rfl rfl rfl (.inl rfl) FromN.all (ok_litP [] U60 info5 zero60 (by decide) trivial rfl)
   (Many.next (_) rfl rfl rfl (.inl rfl) FromN.all (ok_loadA (s:=1000014) (by decide) U49 rfl (size49.of (rfl)) rfl rfl)
   (Many.next (_) rfl rfl rfl (.inl rfl) FromN.all (ok_move rfl)
   (Many.store ⟨3,b10,1000010,60,(List.replicate 32 (.int .u8 0)),(List.replicate 32 (.int .u8 0)),aggV ((List.replicate 32 (.int .u8 0)))⟩ List.mem_cons_self rfl ((27,.v _)::_) rfl (FromN.op 0 (by kernel_rfl) rfl rfl FromN.all) rfl rfl
   (Many.store ⟨4,b11,1000011,49,[.int .i64 0,.int .u8 0],[.int .i64 0,.int .u8 0],aggV ([.int .i64 0,.int .u8 0])⟩ (List.mem_cons_of_mem _ List.mem_cons_self) rfl ((28,.v _)::_) rfl (FromN.op 1 (by kernel_rfl) rfl rfl FromN.all) rfl rfl
   (Many.next ((29,.v _)::_) rfl rfl rfl (.inl rfl) (FromN.op 2 (by kernel_rfl) rfl rfl FromN.all) (ok_assign rfl)
   Many.nil))))))
  (FromE.op (t:=12) 5 rfl rfl FromE.all) (fun s hs=>by simp only[List.mem_cons,List.not_mem_nil,or_false] at hs; rcases hs with rfl|rfl<;>rfl) (fun s hs=>by simp only[List.mem_cons,List.not_mem_nil,or_false] at hs; rcases hs with rfl|rfl<;>first|exact hBb10|exact hBb11)
  (fun s hs s' hs'=>by simp only[List.mem_cons,List.not_mem_nil,or_false] at hs hs'; rcases hs with rfl|rfl<;>rcases hs' with rfl|rfl<;>first|exact .inl rfl|exact .inr ⟨fun h=>by simp at h,fun h=>by dsimp only at h; omega⟩)
  (fun s hs=>by simp only[List.mem_cons,List.not_mem_nil,or_false] at hs; rcases hs with rfl|rfl<;>first|exact SV.whole (size60.of (rfl)) (rfl) (rfl)|exact SV.whole (size49.of (rfl)) (rfl) (rfl)) (fun s hs=>by simp only[List.mem_cons,List.not_mem_nil,or_false] at hs; rcases hs with rfl|rfl<;>(dsimp only; exact(LV 0 rfl (LV 4 rfl (LV 6 rfl (LV 8 rfl (LV 10 rfl (LV 11 rfl (LV 13 rfl (LV 14 rfl (LV 15 rfl (LV 26 rfl (LT 1000006 rfl (LT 1000007 rfl (LT 1000008 rfl (LT 1000013 rfl (LB 1000014 rfl (LO 1000200 rfl LN)))))))))))))))))) ?_
 refine A.sub (Sv [10,11,12,1000006,1000007,1000008,1000010,1000011,1000013,1000014,1000200] rfl) ?_;refine A.ret (End.ret_then ?_);exact End.cell3V (s:=1000010) (s':=1000011) rfl U60 U49 rfl rfl (size60.of (rfl)) (size49.of (rfl)) rfl rfl rfl rfl rfl (rfl)
theorem Blk_r(n:Nat)(h1:1<=n)(h2:n<=4096)(X:Nat->Prop)(S:Dk)(hS:S.length=bs n (hg n+1))(c:CelT)(hc:c.Fit)(f:Nat->Nat)(hf:By f)(mk:List UInt8)(hmk:mk.length=32)(x:Nat)(hx:x<n)(h0:(accT n S (hg n) 0 (c.e%2) c.t).f≠0): FnM Tryz.prog 13 tabN [.v (nI (n)),diskD dT X S,.v (aggV c.v),.v (aggV (rowV 16 f++mk.map byteV)),.v (nI (x))] (.v (.tuple #[aggV (zD.map byteV),aggV (accT n S (hg n) 0 (c.e%2) c.t).pv,.int .i64 9])):=by
 refine FnM.of Tryz.func13 rfl (by kernel_rfl) Tryz.ntmps13 (by simp) (by decide) (fun w=>[(0,.v (nI (n))),(1,old w.heap.size (diskD dT X S)),(2,.v (aggV c.v)),(3,.v (aggV (rowV 16 f++mk.map byteV))),(4,.v (nI (x))),(1900000,tab 0 (sizV)),(1900001,tab 1 (H8.list.map u32V)),(1900002,tab 2 (K64.map u32V))]) (fun w=>(StartM.v rfl (StartM.old rfl (StartM.v rfl (StartM.v rfl (StartM.v rfl (StartM.m (by simp[tabN]) (by decide) (StartM.m (by simp[tabN]) (by decide) (StartM.m (by simp[tabN]) (by decide) StartM.nil))))))))) fun w₀ hM=>?_
 have htab:=tabN_hi hM
 refine A.nameTl (t:=1) (k:=1000200) rfl fun v hv1=>?_
 refine GS (TN 0 (RN ?_));refine ZB 1000006 rfl fun b6 ⟨hBb6,hb6⟩=>?_
 refine TN 1 (RN ?_);refine ZB 1000007 rfl fun b7 ⟨hBb7,hb7⟩=>?_
 have hlt_b6_b7:=hb7 1000006 b6 _ _ rfl
 refine TN 2 (RN ?_);refine ZB 1000008 rfl fun b8 ⟨hBb8,hb8⟩=>?_
 have hlt_b6_b8:=hb8 1000006 b6 _ _ rfl
 have hlt_b7_b8:=hb8 1000007 b7 _ _ rfl
 refine TN 3 (RN ?_);refine ZN 1000010 zero60 fun b10 ⟨hBb10,hb10⟩=>?_
 have hlt_b6_b10:=hb10 1000006 b6 _ _ rfl
 have hlt_b7_b10:=hb10 1000007 b7 _ _ rfl
 have hlt_b8_b10:=hb10 1000008 b8 _ _ rfl
 refine TN 4 (RN ?_);refine ZN 1000011 zero49 fun b11 ⟨hBb11,hb11⟩=>?_
 have hlt_b6_b11:=hb11 1000006 b6 _ _ rfl
 have hlt_b7_b11:=hb11 1000007 b7 _ _ rfl
 have hlt_b8_b11:=hb11 1000008 b8 _ _ rfl
 have hlt_b10_b11:=hb11 1000010 b10 _ _ rfl
 refine TL (RVN 1 rfl ?_);refine GS (TN 9 (RM rfl ?_));refine RS (OpOk.tlO (k:=1000200) [nI S.length,nI (totC S)] (ok_loadA (s:=1000006) (by decide) U44 rfl (size44.of (rfl)) rfl rfl) rfl hv1 (by decide) rfl) ?_;refine RL 1000007 U35 rfl rfl (size35.of (hc.len)) ?_;refine RM rfl ?_;refine RS (ok_callMK (Rec_r n h1 h2 X S hS c hc x hx h0) (SubK.of (Sub.cons rfl (Sub.cons rfl (Sub.cons rfl KN))) tabN_v) (Args.cons rfl (Le.refl _) (Args.cons rfl (Le.old _ _) (A2 rfl rfl)))) ?_;refine RVN 4 rfl ?_;refine ZN 1000013 zero57 fun b13 ⟨hBb13,hb13⟩=>?_
 have hlt_b6_b13:=hb13 1000006 b6 _ _ rfl
 have hlt_b7_b13:=hb13 1000007 b7 _ _ rfl
 have hlt_b8_b13:=hb13 1000008 b8 _ _ rfl
 have hlt_b10_b13:=hb13 1000010 b10 _ _ rfl
 have hlt_b11_b13:=hb13 1000011 b11 _ _ rfl
 refine TN 10 (RN ?_);refine ZN 1000014 zero49 fun b14 ⟨hBb14,hb14⟩=>?_
 have hlt_b6_b14:=hb14 1000006 b6 _ _ rfl
 have hlt_b7_b14:=hb14 1000007 b7 _ _ rfl
 have hlt_b8_b14:=hb14 1000008 b8 _ _ rfl
 have hlt_b10_b14:=hb14 1000010 b10 _ _ rfl
 have hlt_b11_b14:=hb14 1000011 b11 _ _ rfl
 have hlt_b13_b14:=hb14 1000013 b13 _ _ rfl
 refine TF 11 (RN ?_);refine⟨_,eff_storeA (n:=39) (s:=1000013) (size57.of (rfl)) rfl rfl (RecT.one _) hBb13 rfl (rfl) (LT 1000006 rfl (LT 1000007 rfl (LT 1000008 rfl (LT 1000010 rfl (LT 1000011 rfl (LT 1000014 rfl (LO 1000200 rfl (LQ 1900000 rfl (LQ 1900001 rfl (LQ 1900002 rfl (LW [0,4,6,8,10,11,13,14,23,24] rfl))))))))))),?_⟩
 refine TF 12 (RN ?_);refine ZA 1000014 (size49.of rfl) hBb14 rfl rfl rfl (LT 1000006 rfl (LT 1000007 rfl (LT 1000008 rfl (LT 1000010 rfl (LB 1000011 rfl (LT 1000013 rfl (LO 1000200 rfl (LQ 1900000 rfl (LQ 1900001 rfl (LQ 1900002 rfl (LW [0,4,6,8,10,11,13,14,24] rfl))))))))))) ?_;refine TL (RVN 1 rfl ?_);refine QS (GT (RV 2 rfl ?_));refine RT ?_;refine RN (A.yes rfl ?_);refine A.regsMK [⟨3,b10,1000010,60,(List.replicate 32 (.int .u8 0)),(List.replicate 32 (.int .u8 0)),aggV ((List.replicate 32 (.int .u8 0)))⟩,⟨4,b11,1000011,49,[.int .i64 0,.int .u8 0],(accT n S (hg n) 0 (c.e%2) c.t).pv,aggV ((accT n S (hg n) 0 (c.e%2) c.t).pv)⟩] [_,_,_,undef,undef,_] (by kernel_rfl) (by kernel_rfl) (by kernel_rfl) (by kernel_rfl) (Sv [0,4,6,8,10,11,13,14,15,26,1000006,1000007,1000008,1000013,1000014,1000200,1900000,1900001,1900002] rfl)
  (Many.next (_) rfl rfl rfl (.inl rfl) FromN.all (ok_litP [] U60 info5 zero60 (by decide) trivial rfl)
   (Many.next (_) rfl rfl rfl (.inl rfl) FromN.all (ok_loadA (s:=1000014) (by decide) U49 rfl (size49.of (rfl)) rfl rfl)
   (Many.next (_) rfl rfl rfl (.inl rfl) FromN.all (ok_move rfl)
   (Many.store ⟨3,b10,1000010,60,(List.replicate 32 (.int .u8 0)),(List.replicate 32 (.int .u8 0)),aggV ((List.replicate 32 (.int .u8 0)))⟩ List.mem_cons_self rfl ((27,.v _)::_) rfl (FromN.op 0 (by kernel_rfl) rfl rfl FromN.all) rfl rfl
   (Many.store ⟨4,b11,1000011,49,[.int .i64 0,.int .u8 0],(accT n S (hg n) 0 (c.e%2) c.t).pv,aggV ((accT n S (hg n) 0 (c.e%2) c.t).pv)⟩ (List.mem_cons_of_mem _ List.mem_cons_self) rfl ((28,.v _)::_) rfl (FromN.op 1 (by kernel_rfl) rfl rfl FromN.all) rfl rfl
   (Many.next ((29,.v _)::_) rfl rfl rfl (.inl rfl) (FromN.op 2 (by kernel_rfl) rfl rfl FromN.all) (ok_assign rfl)
   Many.nil))))))
  (FromE.op (t:=12) 5 rfl rfl FromE.all) (fun s hs=>by simp only[List.mem_cons,List.not_mem_nil,or_false] at hs; rcases hs with rfl|rfl<;>rfl) (fun s hs=>by simp only[List.mem_cons,List.not_mem_nil,or_false] at hs; rcases hs with rfl|rfl<;>first|exact hBb10|exact hBb11)
  (fun s hs s' hs'=>by simp only[List.mem_cons,List.not_mem_nil,or_false] at hs hs'; rcases hs with rfl|rfl<;>rcases hs' with rfl|rfl<;>first|exact .inl rfl|exact .inr ⟨fun h=>by simp at h,fun h=>by dsimp only at h; omega⟩)
  (fun s hs=>by simp only[List.mem_cons,List.not_mem_nil,or_false] at hs; rcases hs with rfl|rfl<;>first|exact SV.whole (size60.of (rfl)) (rfl) (rfl)|exact SV.whole (size49.of (rfl)) (rfl) (rfl)) (fun s hs=>by simp only[List.mem_cons,List.not_mem_nil,or_false] at hs; rcases hs with rfl|rfl<;>(dsimp only; exact(LV 0 rfl (LV 4 rfl (LV 6 rfl (LV 8 rfl (LV 10 rfl (LV 11 rfl (LV 13 rfl (LV 14 rfl (LV 15 rfl (LV 26 rfl (LT 1000006 rfl (LT 1000007 rfl (LT 1000008 rfl (LT 1000013 rfl (LB 1000014 rfl (LO 1000200 rfl (LQ 1900000 rfl (LQ 1900001 rfl (LQ 1900002 rfl LN))))))))))))))))))))) ?_
 refine A.sub (Sv [10,11,12,1000006,1000007,1000008,1000010,1000011,1000013,1000014,1000200,1900000,1900001,1900002] rfl) ?_;refine A.ret (End.ret_then ?_);exact End.cell3V (s:=1000010) (s':=1000011) rfl U60 U49 rfl rfl (size60.of (rfl)) (size49.of (rfl)) rfl rfl rfl rfl rfl (rfl)
set_option maxHeartbeats 1000000 in
theorem Blk_ok(n:Nat)(h1:1<=n)(h2:n<=4096)(X:Nat->Prop)(S:Dk)(hS:S.length=bs n (hg n+1))(c:CelT)(hc:c.Fit)(f:Nat->Nat)(hf:By f)(mk:List UInt8)(hmk:mk.length=32)(x:Nat)(hx:x<n)(h0:(accT n S (hg n) 0 (c.e%2) c.t).f=0)(r:Nat)(hr:r<=hg n)(hgr:∀ k,k<r->Goes n S x (accT n S (hg n) 0 (c.e%2) c.t).x k)(he:r<hg n->(enK n S x (accT n S (hg n) 0 (c.e%2) c.t).x r).x.toNat=0)(Y:DatT)(hY:Y.b.length=32)(hD:FnM Tryz.prog 31 tabN [.v (nI (n)),diskD dT X S,.v (aggV (rowV 16 f++mk.map byteV)),.v (nI (x)),.v (aggV ((nK n S x (accT n S (hg n) 0 (c.e%2) c.t).x r).r (x%4)).v)] (.v Y.v)): FnM Tryz.prog 13 tabN [.v (nI (n)),diskD dT X S,.v (aggV c.v),.v (aggV (rowV 16 f++mk.map byteV)),.v (nI (x))] (.v (Y.v)):=by
 have hrf:=(nK_fit (n:=n) (S:=S) (x:=x) (accT_fit n S (hg n) 0 (c.e%2) c.t) r).r (x%4)
 have hYl:(Y.b.map byteV).length=32:=by rw[List.length_map,hY]
 refine FnM.of Tryz.func13 rfl (by kernel_rfl) Tryz.ntmps13 (by simp) (by decide) (fun w=>[(0,.v (nI (n))),(1,old w.heap.size (diskD dT X S)),(2,.v (aggV c.v)),(3,.v (aggV (rowV 16 f++mk.map byteV))),(4,.v (nI (x))),(1900000,tab 0 (sizV)),(1900001,tab 1 (H8.list.map u32V)),(1900002,tab 2 (K64.map u32V))]) (fun w=>(StartM.v rfl (StartM.old rfl (StartM.v rfl (StartM.v rfl (StartM.v rfl (StartM.m (by simp[tabN]) (by decide) (StartM.m (by simp[tabN]) (by decide) (StartM.m (by simp[tabN]) (by decide) StartM.nil))))))))) fun w₀ hM=>?_
 have htab:=tabN_hi hM
 refine A.nameTl (t:=1) (k:=1000200) rfl fun v hv1=>?_
 refine GS (TN 0 (RN ?_));refine ZB 1000006 rfl fun b6 ⟨hBb6,hb6⟩=>?_
 refine TN 1 (RN ?_);refine ZB 1000007 rfl fun b7 ⟨hBb7,hb7⟩=>?_
 have hlt_b6_b7:=hb7 1000006 b6 _ _ rfl
 refine TN 2 (RN ?_);refine ZB 1000008 rfl fun b8 ⟨hBb8,hb8⟩=>?_
 have hlt_b6_b8:=hb8 1000006 b6 _ _ rfl
 have hlt_b7_b8:=hb8 1000007 b7 _ _ rfl
 refine TN 3 (RN ?_);refine ZN 1000010 zero60 fun b10 ⟨hBb10,hb10⟩=>?_
 have hlt_b6_b10:=hb10 1000006 b6 _ _ rfl
 have hlt_b7_b10:=hb10 1000007 b7 _ _ rfl
 have hlt_b8_b10:=hb10 1000008 b8 _ _ rfl
 refine TN 4 (RN ?_);refine ZN 1000011 zero49 fun b11 ⟨hBb11,hb11⟩=>?_
 have hlt_b6_b11:=hb11 1000006 b6 _ _ rfl
 have hlt_b7_b11:=hb11 1000007 b7 _ _ rfl
 have hlt_b8_b11:=hb11 1000008 b8 _ _ rfl
 have hlt_b10_b11:=hb11 1000010 b10 _ _ rfl
 refine TL (RVN 1 rfl ?_);refine GS (TN 9 (RM rfl ?_));refine RS (OpOk.tlO (k:=1000200) [nI S.length,nI (totC S)] (ok_loadA (s:=1000006) (by decide) U44 rfl (size44.of (rfl)) rfl rfl) rfl hv1 (by decide) rfl) ?_;refine RL 1000007 U35 rfl rfl (size35.of (hc.len)) ?_;refine RM rfl ?_;refine RS (ok_callMK (Rec_ok n h1 h2 X S hS c hc x hx h0 r hr hgr he) (SubK.of (Sub.cons rfl (Sub.cons rfl (Sub.cons rfl KN))) tabN_v) (Args.cons rfl (Le.refl _) (Args.cons rfl (Le.old _ _) (A2 rfl rfl)))) ?_;refine RVN 4 rfl ?_;refine ZN 1000013 zero57 fun b13 ⟨hBb13,hb13⟩=>?_
 have hlt_b6_b13:=hb13 1000006 b6 _ _ rfl
 have hlt_b7_b13:=hb13 1000007 b7 _ _ rfl
 have hlt_b8_b13:=hb13 1000008 b8 _ _ rfl
 have hlt_b10_b13:=hb13 1000010 b10 _ _ rfl
 have hlt_b11_b13:=hb13 1000011 b11 _ _ rfl
 refine TN 10 (RN ?_);refine ZN 1000014 zero49 fun b14 ⟨hBb14,hb14⟩=>?_
 have hlt_b6_b14:=hb14 1000006 b6 _ _ rfl
 have hlt_b7_b14:=hb14 1000007 b7 _ _ rfl
 have hlt_b8_b14:=hb14 1000008 b8 _ _ rfl
 have hlt_b10_b14:=hb14 1000010 b10 _ _ rfl
 have hlt_b11_b14:=hb14 1000011 b11 _ _ rfl
 have hlt_b13_b14:=hb14 1000013 b13 _ _ rfl
 refine TF 11 (RN ?_);refine⟨_,eff_storeA (n:=39) (s:=1000013) (size57.of (hrf.len)) rfl rfl (RecT.one _) hBb13 rfl (by rw[hrf.len]; rfl) (LT 1000006 rfl (LT 1000007 rfl (LT 1000008 rfl (LT 1000010 rfl (LT 1000011 rfl (LT 1000014 rfl (LO 1000200 rfl (LQ 1900000 rfl (LQ 1900001 rfl (LQ 1900002 rfl (LW [0,4,6,8,10,11,13,14,23,24] rfl))))))))))),?_⟩
 refine TF 12 (RN ?_);refine ZA 1000014 (size49.of rfl) hBb14 rfl rfl rfl (LT 1000006 rfl (LT 1000007 rfl (LT 1000008 rfl (LT 1000010 rfl (LB 1000011 rfl (LT 1000013 rfl (LO 1000200 rfl (LQ 1900000 rfl (LQ 1900001 rfl (LQ 1900002 rfl (LW [0,4,6,8,10,11,13,14,24] rfl))))))))))) ?_;refine TL (RVN 1 rfl ?_);refine QS (GT (RV 2 rfl ?_));refine RF ?_;refine RN (A.no rfl ?_);refine QK (GS (TF 9 (RM rfl ?_)));refine RS (OpOk.tlO (k:=1000200) [nI S.length,nI (totC S)] (ok_loadA (s:=1000006) (by decide) U44 rfl (size44.of (rfl)) rfl rfl) rfl hv1 (by decide) rfl) ?_;refine RL 1000008 U64 rfl rfl (size64.of (by rw[List.length_append,rowV_length,List.length_map,hmk])) ?_;refine RM rfl ?_;refine RL 1000013 U57 rfl rfl (size57.of (hrf.len)) ?_;refine RS (ok_callMK hD (SubK.of (Sub.cons rfl (Sub.cons rfl (Sub.cons rfl KN))) tabN_v) (Args.cons rfl (Le.refl _) (Args.cons rfl (Le.old _ _) (A3 rfl rfl rfl)))) ?_;refine RVN 3 rfl ?_;refine⟨_,eff_storeA (n:=39) (s:=1000010) (size60.of (hYl)) rfl rfl (all_bytes _) hBb10 rfl (hYl.symm) (LT 1000006 rfl (LT 1000007 rfl (LT 1000008 rfl (LT 1000011 rfl (LT 1000013 rfl (LT 1000014 rfl (LO 1000200 rfl (LQ 1900000 rfl (LQ 1900001 rfl (LQ 1900002 rfl (LW [10,11,37,38] rfl))))))))))),?_⟩
 refine TF 10 (RN ?_);refine ZA 1000011 (size49.of rfl) hBb11 rfl rfl rfl (LT 1000006 rfl (LT 1000007 rfl (LT 1000008 rfl (LT 1000010 rfl (LT 1000013 rfl (LB 1000014 rfl (LO 1000200 rfl (LQ 1900000 rfl (LQ 1900001 rfl (LQ 1900002 rfl (LW [10,11,38] rfl))))))))))) ?_;refine TL (RVN 1 rfl ?_);refine A.sub (Sv [10,11,12,1000006,1000007,1000008,1000010,1000011,1000013,1000014,1000200,1900000,1900001,1900002] rfl) ?_;refine A.ret ?_;exact End.cell3V (s:=1000010) (s':=1000011) rfl U60 U49 rfl rfl (size60.of (hYl)) (size49.of (rfl)) rfl rfl rfl rfl rfl (rfl)
end
section
def slV (S:List Nat):List Value:=S.map fun(k:Nat)=>.int .i64 (k:Int)
abbrev blkV (L:List (List UInt8)):List Value:=L.flatMap fun b=>b.map byteV
structure VTy where
 l:TypeId
 v:TypeId
 b:TypeId
 r:TypeId
 s:TypeId
structure VolT where
 n:Nat
 en:List UInt8
 mc:List UInt8
 S:Dk
 c:CelT
 B:List (List UInt8)
 R:List RecT
 L:List Nat
structure VolT.Fit (x:VolT):Prop where
 en:x.en.length=16
 mc:x.mc.length=32
 c:x.c.Fit
def VolT.ce (x:VolT) (wL wB wR wS:Value):List Value:=nI x.n::(x.en.map byteV++(x.mc.map byteV++(wL::(x.c.v++[wB,wR,wS]))))
theorem VolT.Fit.len{x:VolT}(h:x.Fit)(wL wB wR wS:Value): (x.ce wL wB wR wS).length=87:=by
 simp[VolT.ce,h.en,h.mc,h.c.len]
theorem VolT.Fit.in{x:VolT}(h:x.Fit){wL wB wR wS:Value}(hm:m<=87): m<=(x.ce wL wB wR wS).length:=by rw[h.len]; exact hm
theorem VolT.one(x:VolT){wL wB wR wS:Value}(h1:wL.oneCell'=true)(h2:wB.oneCell'=true)(h3:wR.oneCell'=true)(h4:wS.oneCell'=true): (x.ce wL wB wR wS).all (·.oneCell')=true:=by
 have h5:=all_bytes x.en
 have h6:=all_bytes x.mc
 have h7:=CelT.one x.c
 simp only[VolT.ce,List.all_cons,List.all_append,List.all_nil,h1,h2,h3,h4,h5,h6,h7]
 rfl
section
variable (T:VTy)
abbrev fL (S:Dk):D:=lstT T.l (S.map (rowT T.v))
abbrev fB (base:Nat) (x:VolT):D:=ownP base T.b 32 x.B.length (blkV x.B)
abbrev fR (base:Nat) (x:VolT):D:=ownP base T.r 35 x.R.length (recsV x.R)
abbrev fS (base:Nat) (x:VolT):D:=ownP base T.s 1 x.L.length (slV x.L)
def volD (base:Nat) (x:VolT):D :=
 .p (fun B w v=>∃ wL wB wR wS:Value,v=aggV (x.ce wL wB wR wS)∧(wL.oneCell'=true∧wB.oneCell'=true∧wR.oneCell'=true∧wS.oneCell'=true)∧(fL T x.S).OfB B w wL∧(fB T base x).OfB B w wB∧(fR T base x).OfB B w wR∧(fS T base x).OfB B w wS)
  (fun _ _ _ _ g ⟨a,b,c,d,h1,h2,h3,h4,h5,h6⟩=>⟨a,b,c,d,h1,h2,h3.keep g,h4.keep g,h5.keep g,h6.keep g⟩) (fun _ _ _ _ g ⟨a,b,c,d,h1,h2,h3,h4,h5,h6⟩=>⟨a,b,c,d,h1,h2,h3.up g,h4.up g,h5.up g,h6.up g⟩)
end
variable {T:VTy}
theorem volD_mono{x:VolT}(B B':Nat)(h:B<=B'): Le (volD T B' x) (volD T B x):=fun _ _ _ ⟨a,b,c,d,h1,h2,h3,h4,h5,h6⟩=>⟨a,b,c,d,h1,h2,h3,ownP_mono h _ _ _ h4,ownP_mono h _ _ _ h5,ownP_mono h _ _ _ h6⟩
theorem Agg.vol{base:Nat}{x:VolT}(h:x.Fit): Agg 87 (volD T base x):=fun _ _ _ ⟨a,b,c,d,h1,⟨o1,o2,o3,o4⟩,_⟩=>⟨_,h1,h.len _ _ _ _,x.one o1 o2 o3 o4⟩
theorem Surv.vol{e base:Nat}{x:VolT}(h1:T.l≠e)(h2:T.v≠e)(h3:T.b≠e)(h4:T.r≠e)(h5:T.s≠e): Surv B e g (volD T base x):=fun w w' v k ⟨a,b,c,d,k1,k2,k3,k4,k5,k6⟩ =>
 ⟨a,b,c,d,k1,k2,Surv.lstT h1 (Surv.rows h2) w w' _ k k3,Surv.ownP h3 w w' _ k k4,Surv.ownP h4 w w' _ k k5,Surv.ownP h5 w w' _ k k6⟩
section
variable {P:Program} {n:Nat} {E:Env} {w₀:World} {c:Code} {Q:Exit->Act->World->Prop} {κ:Cx}
theorem A.openVol{k1 k2 k3 k4 Tv base:Nat}{x:VolT}(hk:E.look k=some (varK b Tv 87 (volD T base x)))
  (h:∀ wL wB wR wS:Value,wL.oneCell'=true->wB.oneCell'=true->wR.oneCell'=true->wS.oneCell'=true->A κ P w₀ n c ((k,blk b Tv (x.ce wL wB wR wS))::(k1,valM wL (fL T x.S))::(k2,valM wB (fB T base x))::(k3,valM wR (fR T base x))::(k4,valM wS (fS T base x))::E) Q): A κ P w₀ n c E Q:=fun a w gr hs=>by
 obtain⟨h1,cs,h2,h3,h4,wL,wB,wR,wS,h5,⟨o1,o2,o3,o4⟩,m1,m2,m3,m4⟩:=hs.of k _ hk
 have hcs:cs=x.ce wL wB wR wS:=by
  simp only[aggV,Value.agg.injEq] at h5
  exact List.toArray_inj h5
 subst hcs
 exact h wL wB wR wS o1 o2 o3 o4 a w gr (((((hs.push (t:=k4) (d:=valM wS (fS T base x)) m4).push (t:=k3) (d:=valM wR (fR T base x)) m3).push (t:=k2) (d:=valM wB (fB T base x)) m2).push (t:=k1) (d:=valM wL (fL T x.S)) m1).push (t:=k) (d:=blk b Tv (x.ce wL wB wR wS)) ⟨h1,by first|exact h4|exact h3⟩)
theorem End.vol{r k1 k2 k3 k4:Nat}{Tv e':TypeId}{x:VolT}{wL wB wR wS:Value}(hx:x.Fit)(hr:fn.results=#[.cell r Tv])(ht:P.underlying Tv=some td)(hp:(match td with | .struct _ | .array _ _=>true|_=>false)=true)(hsz:SizeIs P Tv 87)
  (h1:E.look r=some (.v (.pointer (some ⟨b,0,none⟩))))(h2:E.look s=some (blk b e' (x.ce wL wB wR wS)))(o:wL.oneCell'=true∧wB.oneCell'=true∧wR.oneCell'=true∧wS.oneCell'=true)(m1:E.look k1=some (valM wL (fL T x.S)))(m2:E.look k2=some (valM wB (fB T w₀.heap.size x)))(m3:E.look k3=some (valM wR (fR T w₀.heap.size x)))(m4:E.look k4=some (valM wS (fS T w₀.heap.size x))):
  End Cx.top w₀ n E (BP P fn (PostOf w₀ (volD T w₀.heap.size x)) .ret):=fun a w gr hs=>by
 have h3:a.tmps[r]?.getD undef = .pointer (some ⟨b,0,none⟩):=by rw[<- Array.getD_eq_getD_getElem?]; exact hs.of r _ h1
 obtain⟨_,hh⟩:=hs.of s _ h2
 exact BP.ret hs.defers ⟨aggV (x.ce wL wB wR wS),by simp[results,hr,h3,asAddr,load_cell (xs:=x.ce wL wB wR wS) ht hp (by rw[hx.len]; exact hsz) hh],_,rfl,gr,wL,wB,wR,wS,rfl,o,hs.of k1 _ m1,hs.of k2 _ m2,hs.of k3 _ m3,hs.of k4 _ m4⟩
end
theorem Agg.v{cs:List Value}(h:cs.length=m)(h1:cs.all (·.oneCell')=true): Agg m (.v (aggV cs)):=fun _ _ _ hx=>⟨cs,hx,h,h1⟩
theorem varK_blk{T:TypeId}{cs:List Value}: Le (varK b T m (.v (aggV cs))) (blk b T cs):=fun B w _ ⟨h1,ds,_,_,h4,h5⟩=>by
 have h6:ds=cs:=by
  simp only[D.OfB,aggV,Value.agg.injEq] at h5
  exact List.toArray_inj h5
 subst h6; exact⟨h1,h4⟩
def dkOf (S:Dk):Dk:=S.map fun h=>match lastC h with
 | none=>[]
 | some l=>[some l]
def dkTo (S:Dk) (i:Nat):Dk:=(dkOf (S.take i))++List.replicate (S.length-i) []
theorem dkOf_length(S:Dk): (dkOf S).length=S.length:=by simp[dkOf]
theorem dkTo_length{S:Dk}(h:i<=S.length): (dkTo S i).length=S.length:=by simp[dkTo,dkOf_length]; omega
theorem dkTo_zero(S:Dk): dkTo S 0=List.replicate S.length []:=by simp[dkTo,dkOf]
theorem dkTo_all(S:Dk): dkTo S S.length=dkOf S:=by simp[dkTo]
theorem dkTo_his{S:Dk}(h:i<S.length): hisC (dkTo S i) i=[]:=by
 unfold hisC dkTo
 rw[List.getD_eq_getElem?_getD,List.getElem?_append_right (by simp[dkOf_length]; omega)]
 simp[dkOf_length,List.getElem?_replicate,Nat.min_eq_left (Nat.le_of_lt h)]
 split<;>rfl
theorem dkTo_tail{S:Dk}(h:i<S.length): dkTo S (i+1)=dkOf (S.take i)++((match lastC S[i] with|none=>[]|some l=>[some l])::List.replicate (S.length-(i+1)) []):=by
 unfold dkTo dkOf
 rw[List.take_succ_eq_append_getElem h,List.map_append,List.append_assoc]; rfl
theorem dkTo_none{S:Dk}(h:i<S.length)(hc:lastC (hisC S i)=none): dkTo S (i+1)=dkTo S i:=by
 have h1:S[i]=hisC S i:=by unfold hisC; rw[List.getD_eq_getElem?_getD,List.getElem?_eq_getElem h]; rfl
 rw[dkTo_tail h,h1,hc,dkTo,show S.length-i=S.length-(i+1)+1 by omega,List.replicate_succ]
theorem dkTo_some{S:Dk}{l:List UInt8}(h:i<S.length)(hc:lastC (hisC S i)=some l): putC (dkTo S i) i (some l)=dkTo S (i+1):=by
 have h1:S[i]=hisC S i:=by unfold hisC; rw[List.getD_eq_getElem?_getD,List.getElem?_eq_getElem h]; rfl
 rw[dkTo_tail h,h1,hc,putC,dkTo_his h,dkTo,show S.length-i=S.length-(i+1)+1 by omega,List.replicate_succ,List.set_append_right _ _ (by simp[dkOf_length]; omega)]
 rw[show i-(dkOf (S.take i)).length=0 by simp[dkOf_length]; omega]; rfl
theorem dkTo_tot(S:Dk)(i:Nat)(h:i<=S.length): totC (dkTo S i)<=S.length:=by
 have h1:∀ T:Dk,totC (dkOf T)<=T.length:=fun T=>by
  induction T with
  | nil=>simp[totC,dkOf]
  | cons x T ih =>
   have:((match lastC x with|none=>([]:List Con)|some l=>[some l]).length)<=1:=by split<;>simp
   simp only[totC,dkOf,List.map_cons,List.sum_cons,List.length_cons] at ih ⊢
   omega
 have h2:=h1 (S.take i)
 have h3:totC (dkTo S i)=totC (dkOf (S.take i)):=by simp[totC,dkTo]
 rw[h3]; rw[List.length_take] at h2; omega
section
variable {x:VolT} {wL wB wR wS:Value}
theorem VolT.ce_parts(x:VolT)(wL wB wR wS:Value): x.ce wL wB wR wS=[nI x.n]++x.en.map byteV++x.mc.map byteV++[wL]++x.c.v++[wB,wR,wS]:=by simp[VolT.ce]
theorem splice{a b b' c:List Value}{o:Nat}(h:xs=a++b++c)(ho:a.length=o)(hb:b.length=m): xs.take o++b'++xs.drop (o+m)=a++b'++c:=by
 subst h; subst ho; subst hb
 rw[List.append_assoc a b c,List.take_left,<- List.drop_drop,List.drop_left,List.drop_left]
theorem set_at{a c:List Value}{b b':Value}{o:Nat}(ho:a.length=o): (a++[b]++c).set o b'=a++[b']++c:=by
 subst ho; simp
theorem VolT.Fit.setEn(h:x.Fit){e:List UInt8}(he:e.length=16): (x.ce wL wB wR wS).take 1++e.map byteV++(x.ce wL wB wR wS).drop (1+(e.map byteV).length)=({ x with en:=e }:VolT).ce wL wB wR wS:=by
 have e1:x.ce wL wB wR wS=[nI x.n]++x.en.map byteV++(x.mc.map byteV++[wL]++x.c.v++[wB,wR,wS]):=by simp[VolT.ce]
 rw[show(e.map byteV).length=16 by rw[List.length_map,he]]
 exact(splice e1 rfl (by rw[List.length_map,h.en])).trans (by simp[VolT.ce])
theorem VolT.Fit.setMc(h:x.Fit){e:List UInt8}(he:e.length=32): (x.ce wL wB wR wS).take 17++e.map byteV++(x.ce wL wB wR wS).drop (17+(e.map byteV).length)=({ x with mc:=e }:VolT).ce wL wB wR wS:=by
 have e1:x.ce wL wB wR wS=([nI x.n]++x.en.map byteV)++x.mc.map byteV++([wL]++x.c.v++[wB,wR,wS]):=by simp[VolT.ce]
 rw[show(e.map byteV).length=32 by rw[List.length_map,he]]
 exact(splice e1 (by rw[List.length_append,List.length_map,h.en]; rfl) (by rw[List.length_map,h.mc])).trans (by simp[VolT.ce])
theorem VolT.Fit.setL(h:x.Fit)(w':Value): (x.ce wL wB wR wS).take 49++[w']++(x.ce wL wB wR wS).drop (49+[w'].length)=x.ce w' wB wR wS:=by
 have e1:x.ce wL wB wR wS=([nI x.n]++x.en.map byteV++x.mc.map byteV)++[wL]++(x.c.v++[wB,wR,wS]):=by simp[VolT.ce]
 exact(splice e1 (by simp[h.en,h.mc]) rfl).trans (by simp[VolT.ce])
theorem VolT.Fit.setC(h:x.Fit){c:CelT}(hc:c.Fit): (x.ce wL wB wR wS).take 50++c.v++(x.ce wL wB wR wS).drop (50+c.v.length)=({ x with c:=c }:VolT).ce wL wB wR wS:=by
 have e1:x.ce wL wB wR wS=([nI x.n]++x.en.map byteV++x.mc.map byteV++[wL])++x.c.v++[wB,wR,wS]:=by simp[VolT.ce]
 rw[show c.v.length=x.c.v.length by rw[hc.len,h.c.len]]
 exact(splice e1 (by simp[h.en,h.mc]) rfl).trans (by simp[VolT.ce])
theorem VolT.Fit.setB(h:x.Fit)(w':Value): (x.ce wL wB wR wS).set 84 w'=x.ce wL w' wR wS:=by
 have e1:x.ce wL wB wR wS=([nI x.n]++x.en.map byteV++x.mc.map byteV++[wL]++x.c.v)++[wB]++[wR,wS]:=by simp[VolT.ce]
 rw[e1,set_at (by simp[h.en,h.mc,h.c.len])]; simp[VolT.ce]
theorem VolT.Fit.setR(h:x.Fit)(w':Value): (x.ce wL wB wR wS).set 85 w'=x.ce wL wB w' wS:=by
 have e1:x.ce wL wB wR wS=([nI x.n]++x.en.map byteV++x.mc.map byteV++[wL]++x.c.v++[wB])++[wR]++[wS]:=by simp[VolT.ce]
 rw[e1,set_at (by simp[h.en,h.mc,h.c.len])]; simp[VolT.ce]
theorem VolT.Fit.setS(h:x.Fit)(w':Value): (x.ce wL wB wR wS).set 86 w'=x.ce wL wB wR w':=by
 have e1:x.ce wL wB wR wS=([nI x.n]++x.en.map byteV++x.mc.map byteV++[wL]++x.c.v++[wB,wR])++[wS]++[]:=by simp[VolT.ce]
 rw[e1,set_at (by simp[h.en,h.mc,h.c.len])]; simp[VolT.ce]
theorem VolT.Fit.gB(h:x.Fit): (x.ce wL wB wR wS)[84]?=some wB:=by
 rw[VolT.ce_parts,List.getElem?_append_right (by simp[h.en,h.mc,h.c.len])]; simp[h.en,h.mc,h.c.len]
theorem VolT.Fit.gR(h:x.Fit): (x.ce wL wB wR wS)[85]?=some wR:=by
 rw[VolT.ce_parts,List.getElem?_append_right (by simp[h.en,h.mc,h.c.len])]; simp[h.en,h.mc,h.c.len]
theorem VolT.Fit.gS(h:x.Fit): (x.ce wL wB wR wS)[86]?=some wS:=by
 rw[VolT.ce_parts,List.getElem?_append_right (by simp[h.en,h.mc,h.c.len])]; simp[h.en,h.mc,h.c.len]
end
def volL (T:VTy) (x:VolT) (wB wR wS:Value):D :=
 .p (fun B w v=>∃ wL:Value,v=aggV (x.ce wL wB wR wS)∧wL.oneCell'=true∧(fL T x.S).OfB B w wL) (fun _ _ _ _ g ⟨a,h1,h2,h3⟩=>⟨a,h1,h2,h3.keep g⟩) (fun _ _ _ _ g ⟨a,h1,h2,h3⟩=>⟨a,h1,h2,h3.up g⟩)
theorem Le.valMlt{v:Value}: Le (valM v (ltD b d)) (valM v d):=fun _ _ _ h=>h.1
theorem Surv.ltT{T:Nat}(h:Surv B T g d): Surv B T g (ltD b d):=fun w w' x k hx=>⟨h w w' x k hx.1,hx.2⟩
theorem Surv.ltG{T base:Nat}{e:TypeId}(hg:b<=g): Surv B T g (ltD b (Go.Proofs.YtjigbkamgfidkaaGreatDoor.ownP base e sz n xs)):=fun w w' x k ⟨⟨h1,h2⟩,h3⟩=>by
 obtain⟨h4,h5⟩:=h1
 refine⟨⟨⟨h4,h5.imp id ?_⟩,fun j hj=>Nat.lt_of_lt_of_le (h2 j hj) k.size⟩,h3⟩
 rintro ⟨j,cap,cur,rfl,hj,hh,hr⟩
 have hlt:=h3 j (by simp[Value.ownBlock])
 exact⟨j,cap,cur,rfl,hj,(k.other j (h2 j (by simp[Value.ownBlock])) (by omega)).trans hh,hr⟩
section
variable {P:Program} {n:Nat} {E:Env} {w₀:World} {c:Code} {Q:Exit->Act->World->Prop} {κ:Cx}
theorem A.nilM{v:Value}(hd:∀ B w,d.OfB B w v)(h:A κ P w₀ n c ((k,valM v d)::E) Q): A κ P w₀ n c E Q:=fun a w gr hs=>h a w gr (hs.push (t:=k) (d:=valM v d) (hd _ _))
theorem A.closeVol{k1 k2 k3 k4 Tv base:Nat}{d1 d2 d3 d4:D}{cs:List Value}{wL wB wR wS:Value}(x:VolT)(hx:x.Fit)(hk:E.look k=some (blk b Tv cs))(e0:cs=x.ce wL wB wR wS)(o:wL.oneCell'=true∧wB.oneCell'=true∧wR.oneCell'=true∧wS.oneCell'=true)
  (m1:E.look k1=some (valM wL d1))(m2:E.look k2=some (valM wB d2))(m3:E.look k3=some (valM wR d3))(m4:E.look k4=some (valM wS d4))(e1:d1=fL T x.S)(e2:d2=fB T base x)(e3:d3=fR T base x)(e4:d4=fS T base x)
  (h:A κ P w₀ n c ((k,varK b Tv 87 (volD T base x))::E) Q): A κ P w₀ n c E Q:=fun a w gr hs=>by
 subst e0; subst e1; subst e2; subst e3; subst e4
 obtain⟨h1,h2⟩:=hs.of k _ hk
 exact h a w gr (hs.push (t:=k) (d:=varK b Tv 87 (volD T base x)) ⟨h1,_,hx.len wL wB wR wS,x.one o.1 o.2.1 o.2.2.1 o.2.2.2,h2,wL,wB,wR,wS,rfl,o,hs.of k1 _ m1,hs.of k2 _ m2,hs.of k3 _ m3,hs.of k4 _ m4⟩)
theorem A.openVL{k1 Tv:Nat}{x:VolT}{wB wR wS:Value}(hk:E.look k=some (varK b Tv 87 (volL T x wB wR wS)))
  (h:∀ wL:Value,wL.oneCell'=true->A κ P w₀ n c ((k,blk b Tv (x.ce wL wB wR wS))::(k1,valM wL (fL T x.S))::E) Q): A κ P w₀ n c E Q:=fun a w gr hs=>by
 obtain⟨h1,cs,h2,h3,h4,wL,h5,o1,m1⟩:=hs.of k _ hk
 have hcs:cs=x.ce wL wB wR wS:=by
  simp only[aggV,Value.agg.injEq] at h5
  exact List.toArray_inj h5
 subst hcs
 exact h wL o1 a w gr ((hs.push (t:=k1) (d:=valM wL (fL T x.S)) m1).push (t:=k) (d:=blk b Tv (x.ce wL wB wR wS)) ⟨h1,by first|exact h4|exact h3⟩)
theorem A.closeVL{k1 Tv:Nat}{d1:D}{cs:List Value}{wL wB wR wS:Value}(x:VolT)(hx:x.Fit)(hk:E.look k=some (blk b Tv cs))(e0:cs=x.ce wL wB wR wS)(o:wL.oneCell'=true∧wB.oneCell'=true∧wR.oneCell'=true∧wS.oneCell'=true)(m1:E.look k1=some (valM wL d1))(e1:d1=fL T x.S)
  (h:A κ P w₀ n c ((k,varK b Tv 87 (volL T x wB wR wS))::E) Q): A κ P w₀ n c E Q:=fun a w gr hs=>by
 subst e0; subst e1
 obtain⟨h1,h2⟩:=hs.of k _ hk
 exact h a w gr (hs.push (t:=k) (d:=varK b Tv 87 (volL T x wB wR wS)) ⟨h1,_,hx.len wL wB wR wS,x.one o.1 o.2.1 o.2.2.1 o.2.2.2,h2,wL,rfl,o.1,hs.of k1 _ m1⟩)
end
section
variable {P:Program} {n B:Nat} {ops:Array Oper} {E:Env}
theorem eff_nameT1{o:Oper}{d:Nat}{f:D}(ht:o.dst=some d)(hg:o.guard=none)(hok:OpOk P B o E (tlD [] f))(hdn:d<n)(hnv:n<=vbase)(hk:vbase<=k):
  EffG P n B ops o E (fun v:Value=>v.oneCell'=true) (fun v=>(d,.v (aggV [v]))::(k,valM v f)::E):=by
 intro κ a w K Q h hK
 rw[if_pos (by simp[Region.wanted,hg])]
 refine wp_of_out ht ((hok a.eval w h.base (h.virt hnv) fun x _ u hu=>h.at_ x _ hu).mono ?_)
 rintro x w' ⟨hgr,v,h1,h2,h3⟩
 refine hK v _ _ h1 (Below.mono hgr h.base) (St.put ((h.grow hgr).push (t:=k) (d:=valM v f) h3) hdn h2)
end
end
section
abbrev T17:VTy:=⟨178,121,60,57,3⟩
abbrev vlM (wL:Value) (S:Dk):Env:=[(1000401,valM wL (fL T17 S))]
def mstB (s:UInt8):List UInt8:=(List.range 32).map fun i=>UInt8.ofNat (s.toNat+3*i)
theorem mstB_len(s:UInt8): (mstB s).length=32:=by simp[mstB]
theorem mstB_get{s:UInt8}(h:i<32): (mstB s)[i]?=some (UInt8.ofNat (s.toNat+3*i)):=by simp[mstB,h]
def plaB (s:UInt8):List UInt8:=(List.range 32).map fun i=>UInt8.ofNat (s.toNat*(i+1))
theorem plaB_len(s:UInt8): (plaB s).length=32:=by simp[plaB]
theorem plaB_get{s:UInt8}(h:i<32): (plaB s)[i]?=some (UInt8.ofNat (s.toNat*(i+1))):=by simp[plaB,h]
theorem wrap_mul8(s:UInt8)(k:Nat): Value.int .u8 (IntKind.u8.wrap ((s.toNat:Int)*((UInt8.ofNat k).toNat:Int)))=byteV (UInt8.ofNat (s.toNat*k)):=by
 show _=Value.int .u8 _
 congr 1
 rw[show IntKind.u8.wrap ((s.toNat:Int)*((UInt8.ofNat k).toNat:Int))=((s.toNat:Int)*((UInt8.ofNat k).toNat:Int))%256 from rfl]
 simp only[UInt8.toNat_ofNat']
 rw[<- Int.natCast_mul,show(256:Int)=((256:Nat):Int) from rfl,<- Int.natCast_emod,Nat.mul_mod,Nat.mod_mod,<- Nat.mul_mod]
theorem VolT.Fit.ven{x:VolT}(h:x.Fit){wL wB wR wS:Value}: ((x.ce wL wB wR wS).drop 1).take 16=x.en.map byteV:=by
 show(x.en.map byteV++_).take 16=_
 rw[List.take_left' (by rw[List.length_map,h.en])]
theorem VolT.Fit.vmc{x:VolT}(h:x.Fit){wL wB wR wS:Value}: ((x.ce wL wB wR wS).drop 17).take 32=x.mc.map byteV:=by
 show((x.en.map byteV++(x.mc.map byteV++_)).drop 16).take 32=_
 rw[List.drop_left' (by rw[List.length_map,h.en]),List.take_left' (by rw[List.length_map,h.mc])]
theorem VolT.Fit.vL{x:VolT}(h:x.Fit){wL wB wR wS:Value}: (x.ce wL wB wR wS)[49]?=some wL:=by
 show(x.en.map byteV++(x.mc.map byteV++_))[48]?=_
 rw[List.getElem?_append_right (by rw[List.length_map,h.en]; decide),List.getElem?_append_right (by rw[List.length_map,List.length_map,h.en,h.mc]; decide),List.length_map,List.length_map,h.en,h.mc]; rfl
theorem VolT.Fit.vL1{x:VolT}(h:x.Fit){wL wB wR wS:Value}: ((x.ce wL wB wR wS).drop 49).take 1=[wL]:=by
 have h0:49<(x.ce wL wB wR wS).length:=by rw[h.len]; decide
 have h1:=h.vL (wL:=wL) (wB:=wB) (wR:=wR) (wS:=wS)
 rw[List.drop_eq_getElem_cons h0,List.take_succ_cons,List.take_zero]
 rw[List.getElem?_eq_getElem h0] at h1
 injection h1 with h1; rw[h1]
theorem VolT.Fit.vc{x:VolT}(h:x.Fit){wL wB wR wS:Value}: ((x.ce wL wB wR wS).drop 50).take 34=x.c.v:=by
 show((x.en.map byteV++(x.mc.map byteV++(wL::(x.c.v++_)))).drop 49).take 34=_
 rw[show 49=(x.en.map byteV).length+33 by rw[List.length_map,h.en],<- List.drop_drop,List.drop_left,show 33=(x.mc.map byteV).length+1 by rw[List.length_map,h.mc],<- List.drop_drop,List.drop_left]
 show(x.c.v++_).take 34=_
 rw[List.take_left' h.c.len]
theorem buildKs(a b:List UInt8)(ha:a.length=16)(hb:b.length=32): Tryz.prog.built 64 [(0,aggV (a.map byteV)),(1,aggV (b.map byteV))]=some (a.map byteV++b.map byteV:List Value).toArray:=by
 match a,ha with
 | [a0,a1,a2,a3,a4,a5,a6,a7,a8,a9,b0,b1,b2,b3,b4,b5],_ =>
  match b,hb with
  | [c0,c1,c2,c3,c4,c5,c6,c7,c8,c9,d0,d1,d2,d3,d4,d5,d6,d7,d8,d9,e0,e1,e2,e3,e4,e5,e6,e7,e8,e9,f0,f1],_=>show _=_; kernel_rfl
theorem zero40: ZeroIs Tryz.prog 40 (VolT.ce ⟨0,List.replicate 16 0,zD,[],CelT.zero,[],[],[]⟩ (.slice none 0 0) (.slice none 0 0) (.slice none 0 0) (.slice none 0 0)):=by unfold ZeroIs; kernel_rfl
theorem size40: SizeIs Tryz.prog 40 87:=by unfold SizeIs; kernel_rfl
theorem field40_0: FieldIs Tryz.prog 40 0 0 1:=by unfold FieldIs; kernel_rfl
theorem field40_1: FieldIs Tryz.prog 40 1 1 16:=by unfold FieldIs; kernel_rfl
theorem field40_2: FieldIs Tryz.prog 40 2 17 32:=by unfold FieldIs; kernel_rfl
theorem field40_3: FieldIs Tryz.prog 40 3 49 1:=by unfold FieldIs; kernel_rfl
theorem field40_4: FieldIs Tryz.prog 40 4 50 34:=by unfold FieldIs; kernel_rfl
theorem field40_5: FieldIs Tryz.prog 40 5 84 1:=by unfold FieldIs; kernel_rfl
theorem field40_6: FieldIs Tryz.prog 40 6 85 1:=by unfold FieldIs; kernel_rfl
theorem field40_7: FieldIs Tryz.prog 40 7 86 1:=by unfold FieldIs; kernel_rfl
theorem field25_0: FieldIs Tryz.prog 25 0 0 1:=by unfold FieldIs; kernel_rfl
theorem field25_1: FieldIs Tryz.prog 25 1 1 1:=by unfold FieldIs; kernel_rfl
theorem field25_2: FieldIs Tryz.prog 25 2 2 1:=by unfold FieldIs; kernel_rfl
theorem field25_3: FieldIs Tryz.prog 25 3 3 1:=by unfold FieldIs; kernel_rfl
theorem field25_4: FieldIs Tryz.prog 25 4 4 1:=by unfold FieldIs; kernel_rfl
theorem info36: InfoIs Tryz.prog 36 (.slice none 0 0) 24:=by unfold InfoIs; kernel_rfl
theorem info37: InfoIs Tryz.prog 37 (.slice none 0 0) 24:=by unfold InfoIs; kernel_rfl
theorem Master_fn(s:UInt8): Fn Tryz.prog 39 [.v (byteV s)] (.v (aggV ((mstB s).map byteV))):=by
 refine FV Tryz.func39 rfl Tryz.ntmps39 rfl fun w₀=>?_
 refine GS (TN 0 (RN ?_));refine ZN 1000002 zero28 fun b2 ⟨hBb2,hb2⟩=>?_
 refine TL (RN (GS (TN 0 (RN ?_))));refine ZN 1000003 zero28 fun b3 ⟨hBb3,hb3⟩=>?_
 have hlt_b2_b3:=hb3 1000002 b2 _ _ rfl
 refine TL (RN (QS (GV rfl (A.block ?_))));refine A.loop (ι:=Nat) (fun i=>i<=32) (fun i=>[(0,.v (byteV s)),(2,.v (ptr b2)),(3,.v (ptr b3)),(4,.v (nI (i))),(1000002,blk b2 28 (List.replicate 32 (.int .u8 0))),(1000003,blk b3 28 (((mstB s).take i).map byteV++List.replicate ((mstB s).length-i) (.int .u8 0)))]) (fun i=>32-i) 0 ?_ ?_ ?_
 ·exact Nat.zero_le _
 ·exact(KC 0 rfl (KC 2 rfl (KC 3 rfl (KE 4 rfl (by rfl) (KC 1000002 rfl (KE 1000003 rfl (by rw[mstB_len]; rfl) KN))))))
 intro i hG
 refine QS (GV rfl ?_);refine A.cond rfl (fun hc6=>?_) (fun hc6=>?_)
 ·have hi:i<32:=by simp at hc6; omega
  refine QK (QSB (GE (TF 7 (RV 4 rfl ?_))));refine Rw (3*i) ?_;refine RS (ok_conv U3 U5 rfl) ?_;refine RZ (byteV (UInt8.ofNat (3*i))) (by rw[wrap_u8_nat]; rfl) ?_;refine RB rfl rfl rfl ?_;refine RZ (byteV (UInt8.ofNat (s.toNat+3*i))) (add_u8 s (3*i)) ?_;refine RS (ok_index0 (i) U28 info5 rfl rfl (rfl) (hi)) ?_;refine RN ?_;refine⟨_,eff_storeS (n:=17) (s:=1000003) info5 rfl rfl rfl hBb3 rfl (by simp[mstB_len]; omega) (LB 1000002 rfl (LW [0,2,3,4] rfl)),?_⟩
  refine TL (RN (End.normal_block (EN (GTE (RV 2 rfl ?_)))));refine Rw (i+1) ?_;refine RVN 1 rfl ?_;refine End.normal_then ?_;refine End.again (i+1) ?_ ?_ ?_
  ·show _<=_; omega
  ·show _-_<_-_; omega
  ·exact(KC 0 rfl (KC 2 rfl (KC 3 rfl (KC 4 rfl (KC 1000002 rfl (KE 1000003 rfl (congrArg _ (fill_step (mstB_get hi))) KN))))))
 ·have hi2:i=32:=by simp at hc6; omega
  refine A.exit (End.exit_then (End.exit_then (End.exit_here (EN (GS (TF 1 (RL 1000003 U28 rfl rfl (size28.of (by rw[List.length_append,List.length_map,List.length_take,List.length_replicate,mstB_len]; omega)) ?_)))))));refine RZ (aggV ((mstB s).map byteV)) (by subst hi2; rw[mstB_len,Nat.sub_self,List.replicate_zero,List.append_nil,List.take_of_length_le (by rw[mstB_len]; exact Nat.le_refl _)]) ?_;refine RN ?_;refine⟨_,eff_storeA (n:=17) (s:=1000002) (size28.of (by rw[List.length_map,mstB_len])) rfl rfl (all_bytes _) hBb2 rfl (by rw[List.length_map,mstB_len]; rfl) (LV 2 rfl (LB 1000003 rfl LN)),?_⟩
  refine TL (RN (A.ret ?_));exact End.cell1 (s:=1000002) rfl U28 rfl (size28.of (by rw[List.length_map,mstB_len])) rfl rfl (Le.refl _)
theorem Plain_fn(s:UInt8): Fn Tryz.prog 35 [.v (byteV s)] (.v (aggV ((plaB s).map byteV))):=by
 refine FV Tryz.func35 rfl Tryz.ntmps35 rfl fun w₀=>?_
 refine GS (TN 0 (RN ?_));refine ZN 1000002 zero60 fun b2 ⟨hBb2,hb2⟩=>?_
 refine TL (RN (GS (TN 0 (RN ?_))));refine ZN 1000003 zero60 fun b3 ⟨hBb3,hb3⟩=>?_
 have hlt_b2_b3:=hb3 1000002 b2 _ _ rfl
 refine TL (RN (QS (GV rfl (A.block ?_))));refine A.loop (ι:=Nat) (fun i=>i<=32) (fun i=>[(0,.v (byteV s)),(2,.v (ptr b2)),(3,.v (ptr b3)),(4,.v (nI (i))),(1000002,blk b2 60 (List.replicate 32 (.int .u8 0))),(1000003,blk b3 60 (((plaB s).take i).map byteV++List.replicate ((plaB s).length-i) (.int .u8 0)))]) (fun i=>32-i) 0 ?_ ?_ ?_
 ·exact Nat.zero_le _
 ·exact(KC 0 rfl (KC 2 rfl (KC 3 rfl (KE 4 rfl (by rfl) (KC 1000002 rfl (KE 1000003 rfl (by rw[plaB_len]; rfl) KN))))))
 intro i hG
 refine QS (GV rfl ?_);refine A.cond rfl (fun hc6=>?_) (fun hc6=>?_)
 ·have hi:i<32:=by simp at hc6; omega
  refine QK (QSB (GE (TF 7 (RV 4 rfl ?_))));refine Rw (i+1) ?_;refine RS (ok_conv U3 U5 rfl) ?_;refine RZ (byteV (UInt8.ofNat (i+1))) (by rw[wrap_u8_nat]; rfl) ?_;refine RB rfl rfl rfl ?_;refine RZ (byteV (UInt8.ofNat (s.toNat*(i+1)))) (wrap_mul8 s (i+1)) ?_;refine RS (ok_index0 (i) U60 info5 rfl rfl (rfl) (hi)) ?_;refine RN ?_;refine⟨_,eff_storeS (n:=17) (s:=1000003) info5 rfl rfl rfl hBb3 rfl (by simp[plaB_len]; omega) (LB 1000002 rfl (LW [0,2,3,4] rfl)),?_⟩
  refine TL (RN (End.normal_block (EN (GTE (RV 2 rfl ?_)))));refine Rw (i+1) ?_;refine RVN 1 rfl ?_;refine End.normal_then ?_;refine End.again (i+1) ?_ ?_ ?_
  ·show _<=_; omega
  ·show _-_<_-_; omega
  ·exact(KC 0 rfl (KC 2 rfl (KC 3 rfl (KC 4 rfl (KC 1000002 rfl (KE 1000003 rfl (congrArg _ (fill_step (plaB_get hi))) KN))))))
 ·have hi2:i=32:=by simp at hc6; omega
  refine A.exit (End.exit_then (End.exit_then (End.exit_here (EN (GS (TF 1 (RL 1000003 U60 rfl rfl (size60.of (by rw[List.length_append,List.length_map,List.length_take,List.length_replicate,plaB_len]; omega)) ?_)))))));refine RZ (aggV ((plaB s).map byteV)) (by subst hi2; rw[plaB_len,Nat.sub_self,List.replicate_zero,List.append_nil,List.take_of_length_le (by rw[plaB_len]; exact Nat.le_refl _)]) ?_;refine RN ?_;refine⟨_,eff_storeA (n:=17) (s:=1000002) (size60.of (by rw[List.length_map,plaB_len])) rfl rfl (all_bytes _) hBb2 rfl (by rw[List.length_map,plaB_len]; rfl) (LV 2 rfl (LB 1000003 rfl LN)),?_⟩
  refine TL (RN (A.ret ?_));exact End.cell1 (s:=1000002) rfl U60 rfl (size60.of (by rw[List.length_map,plaB_len])) rfl rfl (Le.refl _)
theorem VKeys_fn(x:VolT)(hx:x.Fit)(wL wB wR wS:Value): Fn Tryz.prog 14 [.v (aggV (x.ce wL wB wR wS))] (.v (aggV (x.en.map byteV++x.mc.map byteV))):=by
 refine FV Tryz.func14 rfl Tryz.ntmps14 rfl fun w₀=>?_
 refine GS (TN 0 (RN ?_));refine ZB 1000001 rfl fun b1 ⟨hBb1,hb1⟩=>?_
 refine TN 1 (RN ?_);refine ZN 1000002 zero64 fun b2 ⟨hBb2,hb2⟩=>?_
 refine TL (RN (GS (TF 5 (Rf field40_1 ?_))));refine RS (ok_loadP (s:=1000001) (by decide) U26 rfl size26 rfl rfl (by rw[hx.len]; decide) (hx.ven)) ?_;refine Rf field40_2 ?_;refine RS (ok_loadP (s:=1000001) (by decide) U28 rfl size28 rfl rfl (by rw[hx.len]; decide) (hx.vmc)) ?_;refine RS (ok_litS [(0,aggV (x.en.map byteV)),(1,aggV (x.mc.map byteV))] (x.en.map byteV++x.mc.map byteV) ⟨rfl,rfl,rfl,rfl,trivial⟩ (buildKs _ _ hx.en hx.mc)) ?_;refine RN ?_;refine⟨_,eff_storeA (n:=8) (s:=1000002) (size64.of (by simp[hx.en,hx.mc])) rfl rfl (by rw[List.all_append,all_bytes,all_bytes]; rfl) hBb2 rfl (by simp[hx.en,hx.mc]) (LV 2 rfl (LT 1000001 rfl LN)),?_⟩
 refine TL (RN (A.ret ?_));exact End.cell1 (s:=1000002) rfl U64 rfl (size64.of (by simp[hx.en,hx.mc])) rfl rfl (Le.refl _)
set_option maxHeartbeats 4000000 in
theorem VDisk_fn(x:VolT)(hx:x.Fit)(hS1:1<=x.S.length)(hS2:x.S.length<=10922)(ht:totC x.S<=1000000)(h256:∀ (i:Nat) (b:List UInt8),lastC (hisC x.S i)=some b->b.length<=256)(wL wB wR wS:Value)(hw1:wL.oneCell'=true): FnM Tryz.prog 10 (vlM wL x.S) [.v (aggV (x.ce wL wB wR wS))] (diskD dT X0 (dkOf x.S)):=by
 refine FnM.ofO Tryz.func10 rfl (by kernel_rfl) Tryz.ntmps10 (by simp) (by decide) (fun w=>[(0,.v (aggV (x.ce wL wB wR wS))),(1000401,old w.heap.size (valM wL (fL T17 x.S)))]) (fun w=>(StartMO.v rfl (StartMO.mo (by simp[vlM]) (by decide) StartMO.nil))) fun w₀ hM=>?_
 skip
 refine GS (TN 0 (RN ?_));refine ZB 1000001 rfl fun b1 ⟨hBb1,hb1⟩=>?_
 refine TN 1 (RN ?_);refine ZN 1000002 zero44 fun b2 ⟨hBb2,hb2⟩=>?_
 refine TL (RN (GS (TN 8 (Rf field40_3 ?_))));refine Rf field31_0 ?_;refine RS (OpOk.valO (k:=1000401) (ok_loadV (s:=1000001) (by decide) U29 rfl rfl rfl (hx.vL)) (by decide) rfl) ?_;refine RS (OpOk.asV (nI x.S.length) (by rw[List.length_map]) (ok_len U29 rfl ((Le.old _ _).trans lstT_lst))) ?_;refine RS (ok_call (dNew_ok x.S.length hS1 hS2) (A1 rfl)) ?_;refine RM rfl ?_;refine RS (ok_extract rfl rfl) ?_;refine RS (ok_extract rfl rfl) ?_;refine RN ?_;refine ZN 1000003 zero44 fun b3 ⟨hBb3,hb3⟩=>?_
 have hlt_b2_b3:=hb3 1000002 b2 _ _ rfl
 refine TF 9 (RN ?_);refine⟨_,eff_storeK (n:=44) (s:=1000003) size44 rfl rfl (Le.refl _) (Agg.disk) hBb3 rfl (rfl) (Surv.disk (.inl (by decide))) (LT 1000001 rfl (LB 1000002 rfl (LO 1000401 rfl (LW [1,2,3,16] rfl)))),?_⟩
 refine TL (RVN 1 rfl ?_);refine QS (GV rfl (A.block ?_));refine A.loop (ι:=Nat) (fun i=>i<=x.S.length) (fun i=>[(1,.v (ptr b1)),(2,.v (ptr b2)),(3,.v (ptr b3)),(5,.v (nI (i))),(1000001,blk b1 40 (x.ce wL wB wR wS)),(1000002,blk b2 44 [.int .i64 0,.int .i64 0,.slice none 0 0]),(1000003,varK b3 44 3 (diskD dT X0 (dkTo x.S i))),(1000401,old w₀.heap.size (valM wL (fL T17 x.S)))]) (fun i=>x.S.length-i) 0 ?_ ?_ ?_
 ·exact Nat.zero_le _
 ·exact(KC 1 rfl (KC 2 rfl (KC 3 rfl (KE 5 rfl (by rfl) (KC 1000001 rfl (KC 1000002 rfl (KE 1000003 rfl (congrArg (fun S=>varK b3 44 3 (diskD dT X0 S)) (dkTo_zero x.S).symm) (KC 1000401 rfl KN))))))))
 intro i hG
 refine QS (GT (RM rfl ?_));refine Rf field40_3 ?_;refine Rf field31_0 ?_;refine RS (OpOk.valO (k:=1000401) (ok_loadV (s:=1000001) (by decide) U29 rfl rfl rfl (hx.vL)) (by decide) rfl) ?_;refine RS (OpOk.asV (nI x.S.length) (by rw[List.length_map]) (ok_len U29 rfl ((Le.old _ _).trans lstT_lst))) ?_;refine RVN 1 rfl ?_;refine A.cond rfl (fun hc22=>?_) (fun hc22=>?_)
 ·have hi:i<x.S.length:=by simp at hc22; omega
  refine QK (QSB (GS (TN 4 (Rf field40_3 ?_))));refine RS (OpOk.tlO (k:=1000401) [] (ok_loadP (s:=1000001) (by decide) U31 rfl size31 rfl rfl (by rw[hx.len]; decide) (hx.vL1)) rfl hw1 (by decide) rfl) ?_;refine RM rfl ?_;refine RS (ok_call (rLast_fn x.S hS2 ht i hi) (Args.cons rfl (Le.old _ _) (Args.cons rfl LA Args.nil))) ?_;refine RN ?_;refine⟨_,_,eff_allocV (n:=44) (d:=6) (k:=1000006) zero121 (by decide),fun b6 hb6=>?_⟩
  have hBb6:=hb6.1
  refine TF 5 (RN ?_);refine ZA 1000006 (size121.of rfl) hBb6 rfl rfl rfl (LT 1000001 rfl (LT 1000002 rfl (LeftS.cons (t:=1000003) rfl (Surv.varKT (by decide) (Surv.disk (.inl (by decide)))) (LO 1000401 rfl (LW [1,2,3,5,6] rfl))))) ?_;refine TL (RN (GT (Rf field121_0 ?_)));refine RLV 1000006 U4 rfl rfl rfl ?_;refine RN ?_;refine A.cond rfl (fun hc30=>?_) (fun hc30=>?_)
  ·obtain⟨b,hb⟩:∃ b,lastC (hisC x.S i)=some b:=Option.isSome_iff_exists.1 (by simpa using hc30)
   refine GS (TN 9 (RS (ok_loadVK (s:=1000003) (by decide) U44 rfl size44 rfl rfl) ?_));refine RM rfl ?_;refine Rf field121_1 ?_;refine RS (ok_loadV (s:=1000006) (by decide) U9 rfl rfl rfl (rfl)) ?_;refine RZ (.string ⟨b.toArray⟩) (by rw[hb]; rfl) ?_;refine RS (ok_strB (l:=b) U9 U23 U5 rfl (by have:=h256 i b hb; simp only[maxLen]; omega)) ?_;refine RS (OpOk.le (d':=tup [diskD dT X0 (dkTo x.S (i+1)),.v (.int .i64 0)]) (ok_call (dWrite_fn X0 (dkTo x.S i) i (by rw[dkTo_length (by omega)]; exact hi) (by rw[dkTo_length (by omega)]; exact hS2) b (h256 i b hb) (by have:=dkTo_tot x.S i (by omega); omega)) (Args.cons rfl LA (Args.cons rfl LA (Args.cons rfl LA Args.nil)))) (Le.eq (by rw[dkTo_some hi hb]))) ?_;refine RM rfl ?_;refine RS (ok_extract rfl rfl) ?_;refine RS (ok_extract rfl rfl) ?_;refine RN ?_;refine⟨_,_,eff_allocV (n:=44) (d:=7) (k:=1000007) zero44 (by decide),fun b7 hb7=>?_⟩
   have hBb7:=hb7.1
   have hlt_b2_b7:b2<b7:=hb7.2.1 1000002 _ _ _ rfl
   have hlt_b3_b7:b3<b7:=hb7.2.2 1000003 _ _ _ _ rfl
   refine TF 10 (RN ?_);refine⟨_,eff_storeK (n:=44) (s:=1000007) size44 rfl rfl (Le.refl _) (Agg.disk) hBb7 rfl (rfl) (Surv.disk (.inl (by decide))) (LT 1000001 rfl (LB 1000002 rfl (LeftS.cons (t:=1000003) rfl (Surv.varK (by omega) (Surv.disk (.inl (by decide)))) (LT 1000006 rfl (LO 1000401 rfl (LW [1,2,3,5,7,39] rfl)))))),?_⟩
   refine TL (RVN 1 rfl ?_);refine A.sub (Sv [1,2,3,5,7,8,1000001,1000002,1000003,1000006,1000007,1000401] rfl) ?_;refine GT (RV 2 rfl ?_);refine RT ?_;refine RN (A.yes rfl ?_);refine GE (TF 1 (RS (ok_loadVK (s:=1000007) (by decide) U44 rfl size44 rfl rfl) ?_));refine RN ?_;refine⟨_,eff_storeKK (n:=44) (s:=1000003) size44 rfl rfl (Le.refl _) (Agg.disk) hBb3 rfl (Surv.disk (.inl (by decide))) (LT 1000001 rfl (LB 1000002 rfl (LT 1000006 rfl (LeftS.cons (t:=1000007) rfl (Surv.varK (by omega) (Surv.disk (.inl (by decide)))) (LO 1000401 rfl (LW [1,2,3,5] rfl)))))),?_⟩
   refine TL (RN (End.normal_block (EN (GTE (RV 2 rfl ?_)))));refine Rw (i+1) ?_;refine RVN 1 rfl ?_;refine End.normal_then ?_;refine End.again (i+1) ?_ ?_ ?_
   ·show _<=_; omega
   ·show _-_<_-_; omega
   ·exact(KC 1 rfl (KC 2 rfl (KC 3 rfl (KC 5 rfl (KC 1000001 rfl (KC 1000002 rfl (KE 1000003 rfl (by first|rfl|exact congrArg (fun S=>varK b3 44 3 (diskD dT X0 S)) (dkTo_none hi hb).symm) (KC 1000401 rfl KN))))))))
  ·have hb:lastC (hisC x.S i)=none:=by simpa using hc30
   refine A.skip (End.normal_block (EN (GTE (RV 2 rfl ?_))));refine Rw (i+1) ?_;refine RVN 1 rfl ?_;refine End.normal_then ?_;refine End.again (i+1) ?_ ?_ ?_
   ·show _<=_; omega
   ·show _-_<_-_; omega
   ·exact(KC 1 rfl (KC 2 rfl (KC 3 rfl (KC 5 rfl (KC 1000001 rfl (KC 1000002 rfl (KE 1000003 rfl (by first|rfl|exact congrArg (fun S=>varK b3 44 3 (diskD dT X0 S)) (dkTo_none hi hb).symm) (KC 1000401 rfl KN))))))))
 ·have hi2:i=x.S.length:=by simp at hc22; omega
  refine A.exit (End.exit_then (End.exit_then (End.exit_here (EN (GS (TF 1 (RS (ok_loadVK (s:=1000003) (by decide) U44 rfl size44 rfl rfl) ?_)))))));refine RN ?_;refine⟨_,eff_storeK (n:=44) (s:=1000002) size44 rfl rfl (Le.refl _) (Agg.disk) hBb2 rfl (rfl) (Surv.disk (.inl (by decide))) (LV 2 rfl (LT 1000001 rfl (LeftS.cons (t:=1000003) rfl (Surv.varK (by omega) (Surv.disk (.inl (by decide)))) (LO 1000401 rfl LN)))),?_⟩
  refine TL (RN (A.ret ?_));exact End.varK1 (s:=1000002) rfl U44 rfl size44 rfl rfl (Le.eq (by rw[hi2,dkTo_all]))
end
section
structure VarN where
 a:Nat
 t:Nat
 T:TypeId
 zs:List Value
 s:Nat
 ys:List Value
section
variable {P:Program} {n B:Nat} {ops:Array Oper} {κ:Cx} {Q:Exit->Act->World->Prop} {vals:List (Option Value)} {vs:List VarN} {E0:Env}
theorem pre_snoc{α:Type}{pre vals:List α}{v:α}(h:∀ (j:Nat) (u:α),(pre++[v])[j]?=some u->vals[j]?=some u): (∀ (j:Nat) (u:α),pre[j]?=some u->vals[j]?=some u)∧vals[pre.length]?=some v :=
 ⟨fun j u hu=>h j u (by rw[List.getElem?_append_left (List.getElem?_eq_some_iff.1 hu).1]; exact hu),h _ _ (by simp)⟩
end
end
section
structure VarF where
 a:Nat
 t:Nat
 T:TypeId
 zs:List Value
 s:Nat
 m:Nat
 f:D
inductive FromF (ops:Array Oper) (vals:List (Option D)) (E0:Env) (o:Oper):Env->Prop
 | nil:FromF ops vals E0 o []
 | all:FromF ops vals E0 o E0
 | op {t:Nat} {v:D} {E:Env} (j:Nat) (he:(o.after.any fun e=>Region.binds .any e&&e.on==j)=true) (hd:(ops[j]?).bind (·.dst)=some t) (hv:vals[j]?=some (some v)) (hr:FromF ops vals E0 o E):FromF ops vals E0 o ((t,v)::E)
inductive FromFW (ops:Array Oper) (vals:List (Option D)) (E0:Env):Env->Prop
 | all:FromFW ops vals E0 E0
 | op {t:Nat} {v:D} {E:Env} (j:Nat) (hd:(ops[j]?).bind (·.dst)=some t) (hv:vals[j]?=some (some v)) (hr:FromFW ops vals E0 E):FromFW ops vals E0 ((t,v)::E)
def SurvF (vs:List VarF) (B:Nat) (d:D):Prop:=∀ V∈vs,∀ B' g,B<=g->Surv B' V.T g d
inductive KofOk (P:Program) (B:Nat) (ops:Array Oper) (vals:List (Option D)) (vs:List VarF) (E0:Env) (i:Nat):Oper->Prop
 | pure {o:Oper} {t:Nat} {v:D} (E:Env) (hv:vals[i]?=some (some v)) (hd:o.dst=some t) (h0:E0.look t=none) (hf:FromF ops vals E0 o E) (hs:SurvF vs B v) (hok:OpOk P B o E v):KofOk P B ops vals vs E0 i o
 | alloc {t:Tmp} {T ty:TypeId} {pos:String} {after:Array Edge} {V:VarF} (j:Nat) (hV:vs[j]?=some V) (ha:V.a=i) (hT:V.T=T) (ht:V.t=t) (hz:ZeroIs P T V.zs) (h0:E0.look t=none):KofOk P B ops vals vs E0 i ⟨some t,.alloc T,ty,pos,after,none⟩
 | store {t T ty:TypeId} {x:Operand} {pos:String} {after:Array Edge} {V:VarF} {dx:D} (j:Nat) (E:Env) (hV:vs[j]?=some V) (hs:V.s=i) (hT:V.T=T) (ht:V.t=t) (he:(after.any fun e=>Region.binds .any e&&e.on==V.a)=true) (hf:FromF ops vals E0 ⟨none,.store T (.tmp t) x,ty,pos,after,none⟩ E) (hx:E.at x=some dx) (hle:Le dx V.f)
   (hsz:SizeIs P T V.m) (hl:V.zs.length=V.m) (h1:Agg V.m V.f):KofOk P B ops vals vs E0 i ⟨none,.store T (.tmp t) x,ty,pos,after,none⟩
inductive Kofs (P:Program) (B:Nat) (ops:Array Oper) (vals:List (Option D)) (vs:List VarF) (E0:Env):Nat->List Oper->Prop
 | nil {i:Nat}:Kofs P B ops vals vs E0 i []
 | cons {i:Nat} {o:Oper} {rest:List Oper} (h:KofOk P B ops vals vs E0 i o) (hr:Kofs P B ops vals vs E0 (i+1) rest):Kofs P B ops vals vs E0 i (o::rest)
def varsOkF (ops:Array Oper) (vals:List (Option D)) (vs:List VarF):Bool:=(List.range vs.length).all fun j=>match vs[j]? with
 | none=>false
 | some V=>((ops[V.a]?).bind (·.dst)==some V.t)&&(match vals[V.a]? with|some none=>true|_=>false)&&(match vals[V.s]? with|some none=>true|_=>false)&&decide (V.a<ops.size)&&decide (V.s<ops.size)&&V.a != V.s&&(List.range vs.length).all fun j'=>match vs[j']? with
  | none=>false
  | some V'=>j==j'||(V.a != V'.a&&V.s != V'.s&&V.a != V'.s&&V.s != V'.a)
section
variable {P:Program} {n B:Nat} {ops:Array Oper} {κ:Cx} {Q:Exit->Act->World->Prop} {vals:List (Option D)} {vs:List VarF} {E0:Env}
theorem Kofs.nth{l:List Oper}(h:Kofs P B ops vals vs E0 k l): ∀ {i:Nat} {o:Oper},l[i]?=some o->KofOk P B ops vals vs E0 (k+i) o:=by
 induction h with
 | nil=>intro i o hi; simp at hi
 | @cons k o0 rest h _ ih =>
  intro i o hi
  cases i with
  | zero=>simp at hi; subst hi; exact h
  | succ i =>
   have:=ih (i:=i) (by simpa using hi)
   rwa [show k+(i+1)=k+1+i from by omega]
theorem varsOkF_get(h:varsOkF ops vals vs=true){V:VarF}(hj:vs[j]?=some V): (ops[V.a]?).bind (·.dst)=some V.t∧vals[V.a]?=some none∧vals[V.s]?=some none∧V.a<ops.size∧V.s<ops.size∧V.a≠V.s∧∀ j' V',vs[j']?=some V'->j≠j'->V.a≠V'.a∧V.s≠V'.s∧V.a≠V'.s∧V.s≠V'.a:=by
 have hlt:j<vs.length:=(List.getElem?_eq_some_iff.1 hj).1
 have h1:=List.all_eq_true.1 h j (List.mem_range.2 hlt)
 simp only[hj,Bool.and_eq_true] at h1
 obtain⟨⟨⟨⟨⟨⟨h2,h3⟩,h4⟩,h5⟩,h6⟩,h7⟩,h8⟩:=h1
 refine⟨by simpa using h2,?_,?_,by simpa using h5,by simpa using h6,by simpa using h7,fun j' V' hj' hne=>?_⟩
 ·cases hx:vals[V.a]? with
  | none=>rw[hx] at h3; cases h3
  | some x=>rw[hx] at h3; cases x with
   | none=>rfl
   | some _=>cases h3
 ·cases hx:vals[V.s]? with
  | none=>rw[hx] at h4; cases h4
  | some x=>rw[hx] at h4; cases x with
   | none=>rfl
   | some _=>cases h4
 ·have h9:=List.all_eq_true.1 h8 j' (List.mem_range.2 (List.getElem?_eq_some_iff.1 hj').1)
  simp only[hj',Bool.or_eq_true,beq_iff_eq,Bool.and_eq_true,bne_iff_ne,ne_eq] at h9
  rcases h9 with h9|h9
  ·exact absurd h9 hne
  ·exact⟨h9.1.1.1,h9.1.1.2,h9.1.2,h9.2⟩
def VarF.At (V:VarF) (b:Nat) (w:World):Bool->Prop
 | true=>∃ cs:List Value,cs.length=V.m∧cs.all (·.oneCell')=true∧w.heap[b]?=some (.cells cs.toArray V.T (0,0))∧V.f.Of w (aggV cs)
 | false=>w.heap[b]?=some (.cells V.zs.toArray V.T (0,0))
theorem VarF.At.grow{V:VarF}{w':World}{done:Bool}(h:V.At b w done)(hb:b<w.heap.size)(g:Grow w w'): V.At b w' done:=by
 cases done with
 | true=>obtain⟨cs,h1,h2,h3,h4⟩:=h; exact⟨cs,h1,h2,by rw[g.block _ hb]; exact h3,h4.grow g⟩
 | false=>exact(g.block _ hb).trans h
theorem VarF.At.wrote{V:VarF}{B' T:Nat}{w':World}{done:Bool}(h:V.At b w done)(hne:b≠g)(hb:b<w.heap.size)(k:Wrote B' T g w w')(hs:Surv B' T g V.f): V.At b w' done:=by
 cases done with
 | true=>obtain⟨cs,h1,h2,h3,h4⟩:=h; exact⟨cs,h1,h2,(k.other b hb hne).trans h3,hs _ _ _ k h4⟩
 | false=>exact(k.other b hb hne).trans h
structure InvF (κ:Cx) (n B:Nat) (ops:Array Oper) (vals:List (Option D)) (vs:List VarF) (E0:Env) (w1:World) (listed:Array Bool) (a:Act) (w:World):Prop where
 base:B<=w1.heap.size
 bel:Below w1.heap.size w1 w
 defers:a.defers=κ.df
 size:a.tmps.size=n
 facts:∀ t d,E0.look t=some d->d.OfB w1.heap.size w (a.tmps.getD t undef)
 lsize:listed.size=ops.size
 got:∀ (i:Nat) (o:Oper) (t:Nat) (v:D),ops[i]?=some o->listed.getD i false=true->o.dst=some t->vals[i]?=some (some v)->v.Of w (a.tmps.getD t undef)∧SurvF vs B v
 cl:∀ (j:Nat) (V:VarF),vs[j]?=some V->listed.getD V.s false=true->listed.getD V.a false=true
 var:∃ bs:Nat->Nat,(∀ (j:Nat) (V:VarF),vs[j]?=some V->listed.getD V.a false=true->w1.heap.size<=bs j∧bs j<w.heap.size∧a.tmps.getD V.t undef = .pointer (some ⟨bs j,0,none⟩)∧V.At (bs j) w (listed.getD V.s false)) ∧
  ∀ (j j':Nat) (V V':VarF),vs[j]?=some V->vs[j']?=some V'->listed.getD V.a false=true->listed.getD V'.a false=true->j≠j'->bs j≠bs j'
theorem InvF.st{w1:World}{listed:Array Bool}{a:Act}(I:InvF κ n B ops vals vs E0 w1 listed a w): St κ n B E0 a w :=
 ⟨Nat.le_trans I.base I.bel.size,I.defers,I.size,fun t d hl=>D.OfB.up (I.facts t d hl) I.bel.size⟩
theorem setF_self{listed:Array Bool}(h:i<listed.size): (listed.setIfInBounds i true).getD i false=true:=by simp[h]
theorem wp_varsF(hn0:n<=vbase)(hfit:fits n ops=true)(hd:downsN ops=true)(hv:varsOkF ops vals vs=true)(hn:Kofs P B ops vals vs E0 0 ops.toList)(hsv:∀ V∈vs,SurvF vs B V.f){w1:World}
  (hQ:∀ l a' w',InvF κ n B ops vals vs E0 w1 l a' w'->(∀ i,i<ops.size->l.getD i false=true)->Q .normal a' w'):
  ∀ (fuel:Nat) (listed:Array Bool) (a:Act) (w:World),unlisted ops listed<=fuel->InvF κ n B ops vals vs E0 w1 listed a w->wpAnyIn (FR κ.rd) 0 P .any ops Q fuel listed a w:=by
 have hmin:∀ (listed:Array Bool),listed.size=ops.size->Region.ready .any ops listed=[]->∀ i,i<ops.size->listed.getD i false=true:=by
  intro listed hl hr i
  induction i using Nat.strongRecOn with
  | _ i ih =>
   intro hi
   rcases hb:listed.getD i false with _|_
   ·exfalso
    have hdi:=(downs_get hd (Array.getElem?_eq_getElem hi)).2.1
    have:i∈Region.ready .any ops listed:=by
     rw[mem_ready]
     refine⟨?_,ops[i],Array.getElem?_eq_getElem hi,fun e he hbd=>ih e.on (hdi e he hbd) (Nat.lt_trans (hdi e he hbd) hi)⟩
     have:i<listed.size:=by rw[hl]; exact hi
     simp[this] at hb ⊢
     exact hb
    rw[hr] at this
    cases this
   ·rfl
 intro fuel
 induction fuel with
 | zero =>
  intro listed a w hc I
  have hr:Region.ready .any ops listed=[]:=by
   rcases hr:Region.ready .any ops listed with _|⟨i,l⟩
   ·rfl
   ·exfalso
    have hi:i∈Region.ready .any ops listed:=by rw[hr]; exact List.mem_cons_self
    obtain⟨hu,o,ho,_⟩:=mem_ready.1 hi
    have hpos:0<unlisted ops listed:=List.countP_pos_iff.2 ⟨i,List.mem_range.2 (Array.getElem?_eq_some_iff.1 ho).1,by simp only[hu]; rfl⟩
    omega
  exact⟨hr,hQ listed a w I (hmin listed I.lsize hr)⟩
 | succ fuel ih =>
  intro listed a w hc I
  refine⟨fun hr=>hQ listed a w I (hmin listed I.lsize hr),fun i hi=>?_⟩
  obtain⟨hu,o,ho,hall⟩:=mem_ready.1 hi
  have hlt:i<ops.size:=(Array.getElem?_eq_some_iff.1 ho).1
  have hli:i<listed.size:=by rw[I.lsize]; exact hlt
  have huf:listed.getD i false=false:=by
   have h1:listed.getD i true=false:=hu
   simp[hli] at h1 ⊢
   exact h1
  have hk:=hn.nth (i:=i) (o:=o) (by simpa using ho)
  rw[Nat.zero_add] at hk
  obtain⟨hg,_,hdis⟩:=downs_get hd ho
  have hst:∀ {E:Env},FromF ops vals E0 o E->∀ t d,E.look t=some d->d.Of w (a.tmps.getD t undef):=fun {E} h=>by
   induction h with
   | nil=>intro t d hl; cases hl
   | all=>exact fun t d hl=>D.OfB.up (I.facts t d hl) I.bel.size
   | @op s v E j he hdj hvj _ ih =>
    intro t d hl
    by_cases hts:s=t
    ·subst hts; rw[look_here] at hl; injection hl with hl; subst hl
     obtain⟨e,he1,he2⟩:=Array.any_eq_true'.1 he
     simp only[Bool.and_eq_true,beq_iff_eq] at he2
     have hl:=hall e he1 he2.1
     rw[he2.2] at hl
     cases hq:ops[j]? with
     | none=>rw[hq] at hdj; cases hdj
     | some q =>
      rw[hq] at hdj
      exact(I.got j q _ _ hq hl hdj hvj).1
    ·rw[look_past _ _ hts] at hl; exact ih t d hl
  have hE:∀ {E:Env},FromF ops vals E0 o E->St κ n B E a w:=fun h=>⟨Nat.le_trans I.base I.bel.size,I.defers,I.size,fun t d hl=>hst h t d hl⟩
  refine wpOpR_step ho fun K hK=>?_
  rw[if_pos (by simp[Region.wanted,hg])]
  have hcl:unlisted ops (listed.setIfInBounds i true)<=fuel:=by
   have:unlisted ops (listed.setIfInBounds i true)<unlisted ops listed:=by
    refine countP_lt (x:=i) (fun y hy=>?_) (List.mem_range.2 hlt) (by simp only[hu]; rfl) ?_
    ·by_cases hyi:i=y
     ·subst hyi
      simp[hli] at hy
     ·rw[getD_set_ne true hyi] at hy; exact hy
    ·simp[hli]
   omega
  have hset:∀ j,(listed.setIfInBounds i true).getD j false=true->j=i∨listed.getD j false=true:=fun j hj=>by
   by_cases hji:i=j
   ·exact .inl hji.symm
   ·rw[getD_set_ne false hji] at hj; exact .inr hj
  have hfar:∀ j,j≠i->(listed.setIfInBounds i true).getD j false=listed.getD j false:=fun j hj=>getD_set_ne false (fun h=>hj h.symm)
  obtain⟨bs,hb1,hb2⟩:=I.var
  cases hk with
  | @pure _ t v E hvi hdt h0 hf hsd hok =>
   have htn:t<n:=(fits_mem hfit (o:=o) (by simpa using Array.mem_of_getElem? ho)).2 t hdt
   have hnot:∀ (j:Nat) (V:VarF),vs[j]?=some V->V.a≠i∧V.s≠i∧V.t≠t:=fun j V hj=>by
    obtain⟨h1,h2,h3,_⟩:=varsOkF_get hv hj
    have hai:V.a≠i:=fun e=>by rw[e,hvi] at h2; cases h2
    refine⟨hai,fun e=>(by rw[e,hvi] at h3; cases h3),fun e=>?_⟩
    cases hq:ops[V.a]? with
    | none=>rw[hq] at h1; cases h1
    | some q =>
     rw[hq] at h1
     exact hdis V.a q hq hai (by rw[hdt]; simp) (by rw[hdt,show q.dst=some V.t from h1,e])
   have hs:=hE hf
   refine wp_of_out hdt ((hok a.eval w hs.base (hs.virt hn0) fun x _ u hu=>hs.at_ x _ hu).mono ?_)
   rintro x w' ⟨hgr,hx⟩
   refine hK _ _ (ih _ _ _ hcl ⟨I.base,I.bel.trans (Below.mono hgr I.bel.size),I.defers,by simp[Act.put,I.size],fun s d hs'=>?_,by simp[I.lsize],fun j q s u hj hl hds hvs=>?_,fun j V hj hl=>?_,bs,fun j V hj hl=>?_,fun j j' V V' hj hj' hl hl'=>?_⟩)
   ·have hts:t≠s:=fun e=>by subst e; rw[h0] at hs'; cases hs'
    rw[getD_put_past _ _ hts]; exact(I.facts s d hs').keep (Below.mono hgr I.bel.size)
   ·by_cases hji:j=i
    ·subst hji
     rw[ho] at hj; injection hj with hj; subst hj
     rw[hdt] at hds; injection hds with hds; subst hds
     rw[hvi] at hvs; injection hvs with hvs; injection hvs with hvs; subst hvs
     rw[getD_put_here _ _ (by rw[I.size]; exact htn)]
     exact⟨hx,hsd⟩
    ·rw[hfar _ hji] at hl
     have hne:t≠s:=fun he=>hdis j q hj hji (by rw[hdt]; simp) (by rw[hdt,hds,he])
     rw[getD_put_past _ _ hne]
     obtain⟨g1,g2⟩:=I.got j q s u hj hl hds hvs
     exact⟨g1.grow hgr,g2⟩
   ·obtain⟨h1,h2,_⟩:=hnot j V hj
    rw[hfar _ h2] at hl
    rw[hfar _ h1]; exact I.cl j V hj hl
   ·obtain⟨h1,h2,h3⟩:=hnot j V hj
    rw[hfar _ h1] at hl
    obtain⟨g1,g2,g3,g4⟩:=hb1 j V hj hl
    rw[hfar _ h2]
    exact⟨g1,Nat.lt_of_lt_of_le g2 hgr.size,by rw[getD_put_past _ _ (fun e=>h3 e.symm)]; exact g3,g4.grow g2 hgr⟩
   ·rw[hfar _ (hnot j V hj).1] at hl
    rw[hfar _ (hnot j' V' hj').1] at hl'
    exact hb2 j j' V V' hj hj' hl hl'
  | @alloc t T ty pos after V j0 hV ha hT ht hz h0 =>
   subst ha hT ht
   have hds:=(varsOkF_get hv hV).2.2.2.2.2.2
   have hns:V.s≠V.a:=fun e=>(varsOkF_get hv hV).2.2.2.2.2.1 e.symm
   have htn:V.t<n:=(fits_mem hfit (o:=⟨some V.t,.alloc V.T,ty,pos,after,none⟩) (by simpa using Array.mem_of_getElem? ho)).2 V.t rfl
   have hrun:(execOp a.eval ⟨some V.t,.alloc V.T,ty,pos,after,none⟩).run P w = .ok (.value (.pointer (some ⟨w.heap.size,0,none⟩))) (w.alloc (.cells V.zs.toArray V.T)):=by
    obtain⟨i,z,hi,hz,hc⟩:=hz.get
    simp[execOp,Instr.alloc,zeroValue,typeInfo,hi,hz,newVar,newRow,hc]
   refine opR (not_defer hrun) ?_
   unfold Oper.wp
   rw[hrun,Oper.upon_value]
   have hgr:Grow w (w.alloc (.cells V.zs.toArray V.T)):=Grow.alloc w _
   have hlt1:w.heap.size<(w.alloc (.cells V.zs.toArray V.T)).heap.size:=by simp
   have hother:∀ (j:Nat) (V':VarF),vs[j]?=some V'->j≠j0->V'.a≠V.a∧V'.s≠V.a∧V'.t≠V.t:=fun j V' hj hne=>by
    obtain⟨h1,h2,h3,h4⟩:=hds j V' hj (fun e=>hne e.symm)
    refine⟨fun e=>h1 e.symm,fun e=>h3 e.symm,fun e=>?_⟩
    obtain⟨g1,_⟩:=varsOkF_get hv hj
    cases hq:ops[V'.a]? with
    | none=>rw[hq] at g1; cases g1
    | some q =>
     rw[hq] at g1
     exact hdis V'.a q hq (fun e=>h1 e.symm) (by simp) (by rw[show q.dst=some V'.t from g1,e])
   have hsu:listed.getD V.s false=false:=by
    rcases hb:listed.getD V.s false with _|_
    ·rfl
    ·rw[I.cl j0 V hV hb] at huf; cases huf
   refine hK _ _ (ih _ _ _ hcl ⟨I.base,I.bel.trans (Below.mono hgr I.bel.size),I.defers,by simp[Act.put,I.size],fun s d hs'=>?_,by simp[I.lsize],fun j q s u hj hl hds hvs=>?_,fun j V' hj hl=>?_,fun j=>if j=j0 then w.heap.size else bs j,fun j V' hj hl=>?_,fun j j' V' V'' hj hj' hl hl' hne=>?_⟩)
   ·have hts:V.t≠s:=fun e=>by subst e; rw[h0] at hs'; cases hs'
    rw[getD_put_past _ _ hts]; exact(I.facts s d hs').keep (Below.mono hgr I.bel.size)
   ·have hji:j≠V.a:=fun e=>by
     subst e
     rw[(varsOkF_get hv hV).2.1] at hvs; cases hvs
    rw[hfar _ hji] at hl
    have hne:V.t≠s:=fun he=>hdis j q hj hji (by simp) (by rw[hds,he])
    rw[getD_put_past _ _ hne]
    obtain⟨g1,g2⟩:=I.got j q s u hj hl hds hvs
    exact⟨g1.grow hgr,g2⟩
   ·by_cases hj0:j=j0
    ·subst hj0; rw[hV] at hj; injection hj with hj; subst hj
     exact setF_self hli
    ·obtain⟨h1,h2,_⟩:=hother j V' hj hj0
     rw[hfar _ h2] at hl
     rw[hfar _ h1]; exact I.cl j V' hj hl
   ·by_cases hj0:j=j0
    ·subst hj0; rw[hV] at hj; injection hj with hj; subst hj
     dsimp only
     rw[if_pos rfl,hfar _ hns,hsu]
     exact⟨I.bel.size,hlt1,by rw[getD_put_here _ _ (by rw[I.size]; exact htn)],by simpa [VarF.At] using heap_alloc_new w _⟩
    ·obtain⟨h1,h2,h3⟩:=hother j V' hj hj0
     rw[hfar _ h1] at hl
     obtain⟨g1,g2,g3,g4⟩:=hb1 j V' hj hl
     dsimp only
     rw[if_neg hj0,hfar _ h2]
     exact⟨g1,Nat.lt_of_lt_of_le g2 hgr.size,by rw[getD_put_past _ _ (fun e=>h3 e.symm)]; exact g3,g4.grow g2 hgr⟩
   ·show(if j=j0 then w.heap.size else bs j)≠if j'=j0 then w.heap.size else bs j'
    by_cases hj0:j=j0
    ·rw[if_pos hj0,if_neg (fun e=>hne (by rw[hj0,e]))]
     rw[hfar _ (hother j' V'' hj' (fun e=>hne (by rw[hj0,e]))).1] at hl'
     have:=(hb1 j' V'' hj' hl').2.1
     omega
    ·rw[if_neg hj0]
     rw[hfar _ (hother j V' hj hj0).1] at hl
     by_cases hj0':j'=j0
     ·rw[if_pos hj0']
      have:=(hb1 j V' hj hl).2.1
      omega
     ·rw[if_neg hj0']
      rw[hfar _ (hother j' V'' hj' hj0').1] at hl'
      exact hb2 j j' V' V'' hj hj' hl hl' hne
  | @store t T ty x pos after V dx j0 E hV hs hT ht he hf hx hle hsz hl0 hag =>
   subst hs hT ht
   have hds:=(varsOkF_get hv hV).2.2.2.2.2.2
   have hna:V.a≠V.s:=(varsOkF_get hv hV).2.2.2.2.2.1
   have hla:listed.getD V.a false=true:=by
    obtain⟨e,he1,he2⟩:=Array.any_eq_true'.1 he
    simp only[Bool.and_eq_true,beq_iff_eq] at he2
    have hl:=hall e he1 he2.1
    rwa [he2.2] at hl
   obtain⟨g1,g2,g3,g4⟩:=hb1 j0 V hV hla
   rw[huf] at g4
   have g4:w.heap[bs j0]?=some (.cells V.zs.toArray V.T (0,0)):=g4
   have hp':a.eval (.tmp V.t) = .pointer (some ⟨bs j0,0,none⟩):=g3
   have hfx:=hle.of ((hE hf).at_ x _ hx)
   obtain⟨cs,hx',hcm,h1⟩:=hag _ _ _ hfx
   have hVm:V∈vs:=List.mem_of_getElem? hV
   have hrun:(execOp a.eval ⟨none,.store V.T (.tmp V.t) x,ty,pos,after,none⟩).run P w = .ok .skip (w.setRow (bs j0) cs.toArray):=by
    have:=run_storeVar_row (P:=P) w (bs j0) V.T V.T V.zs.toArray cs.toArray g4 (by simpa [SizeIs,hcm] using hsz) (by simpa [hcm] using hl0) (by simpa using h1)
    simp[execOp,hp',hx',Instr.storeAt,Instr.sureAddr,aggV,this]
   refine opR (by nofun) ?_
   unfold Oper.wp
   rw[hrun,Oper.upon_skip]
   have hput:a.put (none:Option Tmp) undef=a:=rfl
   try rw[hput]
   have hwr:=Wrote.setRow (B:=w1.heap.size) g1 g4 cs.toArray
   have hbw:Below w1.heap.size w (w.setRow (bs j0) cs.toArray):=hwr.below I.bel.size
   have hsame:∀ k,k≠bs j0->(w.setRow (bs j0) cs.toArray).heap[k]?=w.heap[k]?:=fun k hk=>setRow_other w (bs j0) k cs.toArray hk
   have hhere:(w.setRow (bs j0) cs.toArray).heap[bs j0]?=some (.cells cs.toArray V.T (0,0)):=by simp[World.setRow,Array.getElem?_modify,g4]
   have hsz':(w.setRow (bs j0) cs.toArray).heap.size=w.heap.size:=by simp[World.setRow]
   have hother:∀ (j:Nat) (V':VarF),vs[j]?=some V'->j≠j0->V'.a≠V.s∧V'.s≠V.s:=fun j V' hj hne=>by
    obtain⟨h1,h2,h3,h4⟩:=hds j V' hj (fun e=>hne e.symm)
    exact⟨fun e=>h4 e.symm,fun e=>h2 e.symm⟩
   refine hK _ _ (ih _ _ _ hcl ⟨I.base,I.bel.trans hbw,I.defers,I.size,fun s d hs'=>(I.facts s d hs').keep hbw,by simp[I.lsize],fun j q s u hj hl hds hvs=>?_,fun j V' hj hl=>?_,bs,fun j V' hj hl=>?_,fun j j' V' V'' hj hj' hl hl' hne=>?_⟩)
   ·have hji:j≠V.s:=fun e=>by
     subst e
     rw[(varsOkF_get hv hV).2.2.1] at hvs; cases hvs
    rw[hfar _ hji] at hl
    obtain⟨k1,k2⟩:=I.got j q s u hj hl hds hvs
    exact⟨k2 V hVm w1.heap.size (bs j0) (Nat.le_trans I.base g1) _ _ _ hwr k1,k2⟩
   ·by_cases hj0:j=j0
    ·subst hj0; rw[hV] at hj; injection hj with hj; subst hj
     rw[hfar _ hna]; exact hla
    ·obtain⟨h1,h2⟩:=hother j V' hj hj0
     rw[hfar _ h2] at hl
     rw[hfar _ h1]; exact I.cl j V' hj hl
   ·by_cases hj0:j=j0
    ·subst hj0; rw[hV] at hj; injection hj with hj; subst hj
     rw[setF_self hli]
     rw[hx'] at hfx
     exact⟨g1,by rw[hsz']; exact g2,g3,cs,hcm,h1,hhere,hsv V hVm V hVm w1.heap.size _ (Nat.le_trans I.base g1) _ _ _ hwr hfx⟩
    ·obtain⟨h1,h2⟩:=hother j V' hj hj0
     rw[hfar _ h1] at hl
     obtain⟨k1,k2,k3,k4⟩:=hb1 j V' hj hl
     rw[hfar _ h2]
     exact⟨k1,by rw[hsz']; exact k2,k3,k4.wrote (hb2 j j0 V' V hj hV hl hla hj0) k2 hwr (hsv V' (List.mem_of_getElem? hj) V hVm w1.heap.size (bs j0) (Nat.le_trans I.base g1))⟩
   ·have e1:∀ {j:Nat} {V':VarF},vs[j]?=some V'->(listed.setIfInBounds V.s true).getD V'.a false=true->listed.getD V'.a false=true:=fun {j V'} hj hl=>by
     by_cases hj0:j=j0
     ·subst hj0; rw[hV] at hj; injection hj with hj; subst hj; exact hla
     ·rwa [hfar _ (hother j V' hj hj0).1] at hl
    exact hb2 j j' V' V'' hj hj' (e1 hj hl) (e1 hj' hl') hne
def varEnvF (bs:Nat->Nat):Nat->List VarF->Env->Env
 | _,[],E=>E
 | j,V::r,E=>(V.t,.v (.pointer (some ⟨bs j,0,none⟩)))::(1000000+V.t,varK (bs j) V.T V.m V.f)::varEnvF bs (j+1) r E
theorem varEnvF_look {bs:Nat->Nat} {E:Env} {t:Nat} {d:D}:∀ {l:List VarF} {j:Nat},(varEnvF bs j l E).look t=some d->(∃ k V,l[k]?=some V∧((t=V.t∧d = .v (.pointer (some ⟨bs (j+k),0,none⟩)))∨(t=1000000+V.t∧d=varK (bs (j+k)) V.T V.m V.f)))∨E.look t=some d
 | [],_,h=>.inr h
 | V::r,j,h=>by
  unfold varEnvF at h
  by_cases h1:V.t=t
  ·subst h1; rw[look_here] at h; injection h with h
   exact .inl ⟨0,V,rfl,.inl ⟨rfl,h.symm⟩⟩
  ·rw[look_past _ _ h1] at h
   by_cases h2:1000000+V.t=t
   ·subst h2; rw[look_here] at h; injection h with h
    exact .inl ⟨0,V,rfl,.inr ⟨rfl,h.symm⟩⟩
   ·rw[look_past _ _ h2] at h
    rcases varEnvF_look h with ⟨k,V',h3,h4⟩|h3
    ·exact .inl ⟨k+1,V',by simpa using h3,by rw[show j+(k+1)=j+1+k from by omega]; exact h4⟩
    ·exact .inr h3
theorem A.regsVF{y:Code}{E1:Env}{id:Nat}(vals:List (Option D))(vs:List VarF)(hm:P.follows .mixedOrders=true)(hfit:fits n ops=true)(hd:downsN ops=true)(hv:varsOkF ops vals vs=true)(hn:Kofs P w₀.heap.size ops vals vs E0 0 ops.toList)(hsv:∀ V∈vs,SurvF vs w₀.heap.size V.f)(hf:FromFW ops vals E0 E1)
  (h:∀ bs:Nat->Nat,(∀ j,j<vs.length->NewK w₀.heap.size E0 (bs j))->(∀ j j',j<vs.length->j'<vs.length->j≠j'->bs j≠bs j')->A κ P w₀ n y (varEnvF bs 0 vs E1) Q): A κ P w₀ n (.seq (.region id ops true) y) E0 Q:=A.seq fun a w hg hst=>by
 have hdr:Below w₀.heap.size w w.drew:=(Below.refl _ w).drew
 have hn0:=fits_base hfit
 have hst':=hst.grow (Grow.refl w).drew
 have hfin:∀ l a' w',InvF κ n w₀.heap.size ops vals vs E0 w.drew l a' w'->(∀ i,i<ops.size->l.getD i false=true)->Exit.then (y.wpIn (FR κ.rd) 0 P Q) Q .normal a' w':=fun l a' w' I hall=>by
  have key:∀ t d,E1.look t=some d->d.Of w' (a'.tmps.getD t undef):=by
   clear h
   induction hf with
   | all=>exact I.st.of
   | @op s v E j hdj hvj _ ih =>
    intro t d hl
    by_cases hts:s=t
    ·subst hts; rw[look_here] at hl; injection hl with hl; subst hl
     cases hq:ops[j]? with
     | none=>rw[hq] at hdj; cases hdj
     | some q =>
      rw[hq] at hdj
      exact(I.got j q _ _ hq (hall j (Array.getElem?_eq_some_iff.1 hq).1) hdj hvj).1
    ·rw[look_past _ _ hts] at hl; exact ih t d hl
  obtain⟨bs,hb1,hb2⟩:=I.var
  have hla:∀ (j:Nat) (V:VarF),vs[j]?=some V->l.getD V.a false=true:=fun j V hj=>hall _ (varsOkF_get hv hj).2.2.2.1
  have hls:∀ (j:Nat) (V:VarF),vs[j]?=some V->l.getD V.s false=true:=fun j V hj=>hall _ (varsOkF_get hv hj).2.2.2.2.1
  refine h bs (fun j hj=>?_) (fun j j' hj hj' hne=>hb2 j j' _ _ (List.getElem?_eq_getElem hj) (List.getElem?_eq_getElem hj') (hla _ _ (List.getElem?_eq_getElem hj)) (hla _ _ (List.getElem?_eq_getElem hj')) hne) a' w' (hg.trans (hdr.trans (Below.mono I.bel I.base))) ⟨Nat.le_trans I.base I.bel.size,I.defers,I.size,fun t d hl=>?_⟩
  ·have hk:=(hb1 j _ (List.getElem?_eq_getElem hj) (hla _ _ (List.getElem?_eq_getElem hj))).1
   exact⟨Nat.le_trans I.base hk,fun s b' e xs hs=>Nat.lt_of_lt_of_le (hst'.of s _ hs).1 hk,fun s b' e m d hs=>Nat.lt_of_lt_of_le (hst'.of s _ hs).1 hk⟩
  ·rcases varEnvF_look hl with ⟨k,V,hk,hd'⟩|hl
   ·rw[Nat.zero_add] at hd'
    obtain⟨g1,g2,g3,g4⟩:=hb1 k V hk (hla k V hk)
    rw[hls k V hk] at g4
    rcases hd' with ⟨rfl,rfl⟩|⟨rfl,rfl⟩
    ·exact g3
    ·exact⟨g2,g4⟩
   ·exact key t d hl
 refine wpIn_region_any hm (wp_varsF hn0 hfit hd hv hn hsv hfin _ _ _ _ ?_ ⟨hst'.base,Below.refl _ _,hst'.defers,hst'.size,fun t d hl=>hst'.of t d hl,by simp,fun i o t v hi hl=>?_,fun j V hj hl=>?_,fun _=>0,fun j V hj hl=>?_,fun j j' V V' hj _ hl=>?_⟩)
 ·refine Nat.le_trans List.countP_le_length ?_
  simp
 ·simp[(Array.getElem?_eq_some_iff.1 hi).1] at hl
 ·simp[(varsOkF_get hv hj).2.2.2.2.1] at hl
 ·simp[(varsOkF_get hv hj).2.2.2.1] at hl
 ·simp[(varsOkF_get hv hj).2.2.2.1] at hl
theorem FromF.more{vals:List (Option D)}{o:Oper}{pre:List (Option D)}(hp:∀ (j:Nat) (v:Option D),pre[j]?=some v->vals[j]?=some v)(h:FromF ops pre E0 o E): FromF ops vals E0 o E:=by
 induction h with
 | nil=>exact .nil
 | all=>exact .all
 | op j he hd hv _ ih=>exact .op j he hd (hp _ _ hv) ih
def KofsK (P:Program) (B:Nat) (ops:Array Oper) (vs:List VarF) (E0:Env) (rest:List Oper) (pre:List (Option D)) (C:List (Option D)->Prop):Prop :=
 ∃ vals:List (Option D),(∀ (j:Nat) (v:Option D),pre[j]?=some v->vals[j]?=some v)∧Kofs P B ops vals vs E0 pre.length rest∧C vals
theorem KofsK.nil{pre:List (Option D)}{C:List (Option D)->Prop}(h:C pre): KofsK P B ops vs E0 [] pre C:=⟨pre,fun _ _ h=>h,.nil,h⟩
theorem KofsK.pure{o:Oper}{rest:List Oper}{pre:List (Option D)}{C:List (Option D)->Prop}{t:Nat}{v:D}(E:Env)(hd:o.dst=some t)(h0:E0.look t=none)(hf:FromF ops pre E0 o E)(hok:OpOk P B o E v)(hs:SurvF vs B v)
  (hr:KofsK P B ops vs E0 rest (pre++[some v]) C): KofsK P B ops vs E0 (o::rest) pre C:=by
 obtain⟨vals,h1,h2,h3⟩:=hr
 obtain⟨h4,h5⟩:=pre_snoc h1
 exact⟨vals,h4,.cons (.pure E h5 hd h0 (hf.more h4) hs hok) (by simpa using h2),h3⟩
theorem KofsK.alloc{rest:List Oper}{pre:List (Option D)}{C:List (Option D)->Prop}{t:Tmp}{T:TypeId}{V:VarF}(j:Nat)(hV:vs[j]?=some V)(ha:V.a=pre.length)(hT:V.T=T)(ht:V.t=t)(hz:ZeroIs P T V.zs)(h0:E0.look t=none)
  (hr:KofsK P B ops vs E0 rest (pre++[none]) C): KofsK P B ops vs E0 (⟨some t,.alloc T,ty,pos,after,none⟩::rest) pre C:=by
 obtain⟨vals,h1,h2,h3⟩:=hr
 obtain⟨h4,_⟩:=pre_snoc h1
 exact⟨vals,h4,.cons (.alloc j hV ha hT ht hz h0) (by simpa using h2),h3⟩
theorem KofsK.store{rest:List Oper}{pre:List (Option D)}{C:List (Option D)->Prop}{t T:TypeId}{x:Operand}{V:VarF}{dx:D}(j:Nat)(E:Env)(hV:vs[j]?=some V)(hs:V.s=pre.length)(hT:V.T=T)(ht:V.t=t)(he:(after.any fun e=>Region.binds .any e&&e.on==V.a)=true)
  (hf:FromF ops pre E0 ⟨none,.store T (.tmp t) x,ty,pos,after,none⟩ E)(hx:E.at x=some dx)(hle:Le dx V.f)(hsz:SizeIs P T V.m)(hl:V.zs.length=V.m)(h1:Agg V.m V.f)
  (hr:KofsK P B ops vs E0 rest (pre++[none]) C): KofsK P B ops vs E0 (⟨none,.store T (.tmp t) x,ty,pos,after,none⟩::rest) pre C:=by
 obtain⟨vals,g1,g2,g3⟩:=hr
 obtain⟨g4,_⟩:=pre_snoc g1
 exact⟨vals,g4,.cons (.store j E hV hs hT ht he (hf.more g4) hx hle hsz hl h1) (by simpa using g2),g3⟩
theorem SurvF.nil{vs:List VarF}{P:VarF->Prop}(h:vs=[]): ∀ V∈vs,P V:=fun V hV=>by subst h; cases hV
theorem SurvF.cons{V:VarF}{vs:List VarF}{Q:VarF->Prop}(h:Q V)(hr:∀ W∈vs,Q W): ∀ W∈V::vs,Q W:=fun W hW=>by
 rcases List.mem_cons.1 hW with rfl|hW
 ·exact h
 ·exact hr W hW
theorem A.regsF{y:Code}{id:Nat}(vs:List VarF)(hm:P.follows .mixedOrders=true)(hfit:fits n ops=true)(hd:downsN ops=true)(hsv:∀ V∈vs,SurvF vs w₀.heap.size V.f)
  (h:KofsK P w₀.heap.size ops vs E0 ops.toList [] fun vals=>varsOkF ops vals vs=true∧∃ E1,FromFW ops vals E0 E1∧∀ bs:Nat->Nat,(∀ j,j<vs.length->NewK w₀.heap.size E0 (bs j))->(∀ j j',j<vs.length->j'<vs.length->j≠j'->bs j≠bs j')->A κ P w₀ n y (varEnvF bs 0 vs E1) Q): A κ P w₀ n (.seq (.region id ops true) y) E0 Q:=by
 obtain⟨vals,_,h2,h3,E1,h4,h5⟩:=h
 exact A.regsVF vals vs hm hfit hd h3 h2 hsv h4 h5
end
end
section
variable {κ:Cx}
def elemV (v:Value) (j:Nat):D:=.p (fun _ _ x=>∃ g n c,v = .slice (some ⟨g,0,none⟩) n c∧x = .pointer (some ⟨g,j,none⟩)) (fun _ _ _ _ _ h=>h) (fun _ _ _ _ _ h=>h)
section
variable {P:Program} {B:Nat} {E:Env} {dst:Option Tmp} {ty:TypeId} {pos:String} {after:Array Edge} {guard:Option (Nat×Bool)}
theorem ok_indexVM{t e e':TypeId}{z:Value}{x i:Operand}{v:Value}{B':Nat}{ki:IntKind}(j:Nat)(ht:P.underlying t=some (.slice e))(hs:InfoIs P e z nb)(hx:E.at x=some (.v v))(hi:E.at i=some (.v (.int ki (j:Int))))(hkv:vbase<=k)(hk:E.look k=some (ownM B' v e' m xs))(hj:j<m):
  OpOk P B ⟨dst,.indexAddr t x i,ty,pos,after,guard⟩ E (elemV v j):=fun ρ w _ hv hρ=>by
 have h1:ρ x=v:=hρ x (by simp[Op.operands]) _ hx
 have hi':ρ i = .int ki j:=hρ i (by simp[Op.operands]) _ hi
 obtain⟨⟨_,h2⟩,_⟩:=hv k _ hkv hk
 obtain⟨info,hinfo,_,hsize,_⟩:=hs.get
 rcases h2 with ⟨rfl,rfl⟩|⟨g,cap,cur,rfl,_⟩
 ·omega
 ·refine out_val (x:=.pointer (some ((⟨g,0,none⟩:Addr).add j))) (w':=w) ?_ ⟨Grow.refl w,g,_,_,rfl,by rw[add_lit0,Nat.zero_add]⟩
  simp[execOp,h1,hi',Instr.indexAt,asIntOf,run_underlying ht,sizeOf,typeInfo,hinfo,hsize,hj]
end
section
variable {P:Program} {n B:Nat} {ops:Array Oper} {E:Env} {ty:TypeId} {pos:String} {after:Array Edge}
theorem eff_storeVM{t:TypeId}{z:Value}{p x:Operand}{B':Nat}{v u:Value}{e:TypeId}(hinfo:InfoIs P t z nb)(hp:E.at p=some (elemV v j))(hx:E.at x=some (.v u))(hu:u.oneCell'=true)(hkv:vbase<=k)(hk:E.look k=some (ownM B' v e m xs))(hB:B<=B')(hj:j<m)
  (hl:∀ g,B'<=g->v.ownBlock=some g->LeftS B e g E' E): Eff P n B ops ⟨none,.store t p x,ty,pos,after,none⟩ E ((k,ownM B' v e m (xs.set j u))::E'):=by
 obtain⟨i,hi,_,hs,_⟩:=hinfo.get
 intro κ a w K Q h hK
 obtain⟨g,n',c,hvv,hp'⟩:=h.at_ p _ hp
 have hx':a.eval x=u:=h.at_ x _ hx
 obtain⟨⟨hlen,h2⟩,hlt⟩:=h.of k _ hk
 rcases h2 with ⟨h2,_⟩|⟨g',cap,cur,h2,hg,hh,hnc,hcm,hcs,htk⟩
 ·rw[h2] at hvv; cases hvv
 ·have h20:=h2
  rw[h2] at hvv; injection hvv with h3 _ _; injection h3 with h3; injection h3 with h3 _ _; subst h3
  have hjc:j<cur.size:=by omega
  have hcell:w.cell? ⟨g',j,none⟩=some cur[j]:=by simp[World.cell?,hh,hjc]
  have hfr:w.frozen? ⟨g',j,none⟩=false:=by simp[World.frozen?,hh]
  have hcu:u.cells=#[u]:=by cases u<;>simp_all [Value.oneCell',Value.cells]
  have hadd:(⟨g',j,none⟩:Addr).add 0=⟨g',j,none⟩:=rfl
  have hset:=setCell_eq_setRow w g' j cur e (0,0) u hh
  have hrun:(execOp a.eval ⟨none,.store t p x,ty,pos,after,none⟩).run P w = .ok .skip (w.setRow g' (cur.setIfInBounds j u)):=by
   rw[<- hset]
   simp[execOp,hp',hx',Instr.storeAt,Instr.sureAddr,storeVar,hcu,sizeOf,typeInfo,hi,hs,storeCells,hadd,run_store P w ⟨g',j,none⟩ u .plain hu,hcell,hfr]
  rw[if_pos (by simp[Region.wanted])]
  refine opR (by nofun) ?_
  unfold Oper.wp
  rw[hrun,Oper.upon_skip]
  have hwr:=Wrote.setRow (Nat.le_trans hB hg) hh (cur.setIfInBounds j u)
  have hob:v.ownBlock=some g':=by rw[h20]; rfl
  refine hK _ _ (hwr.below h.base) (((hl g' hg hob).st h hwr).push (d:=ownM B' v e m (xs.set j u)) ⟨⟨by simpa using hlen,.inr ⟨g',cap,cur.setIfInBounds j u,h20,hg,setRow_heap w g' _ _ e _ hh,hnc,hcm,by simpa using hcs,?_⟩⟩,fun g hg'=>by simpa using hlt g hg'⟩)
  rw[<- htk]
  simp[List.take_set]
end
end
end Go.Proofs.YtjigbkamgfidkaaGreatDoor
