/- OWN TEXTS. -/
import Derived.Test.YtjigbkamgfidkaaGreatDoorQz4
import Derived.Test.YtjigbkamgfidkaaGreatDoorTie
import Derived.ProofKit
import Derived.LaidMore
import Derived.Stop.Joined
import Derived.WideLaws
namespace Go.Proofs.YtjigbkamgfidkaaGreatDoor
set_option linter.unusedVariables false
set_option linter.unusedSimpArgs false
set_option maxRecDepth 20000
open Go Go.RowKit
variable {P:Program} {n:Nat} {e:TypeId} {d:D} {xs:List Value} {w:World} {i:Nat} {b:Nat} {k:Nat} {B:Nat} {E:Env} {j:Nat} {m:Nat} {s:Nat} {ds:List D} {nb:Nat} {E':Env} {sz:Nat} {fn:Func} {g:Nat} {td:TypeDesc} {w₀:World} {ys:List Value} {dst:Option Tmp} {pos:String} {after:Array Edge} {guard:Option (Nat×Bool)} {ops:Array Oper} {ty:TypeId}
def prt (k:Nat) (l:List UInt8) (i:Nat):List UInt8:=(l.drop (k*i)).take k
theorem prt_len{l:List UInt8}(h:l.length=4*k)(hi:i<4): (prt k l i).length=k:=by
 have:=Nat.mul_le_mul_left k (Nat.succ_le_of_lt hi)
 rw[Nat.mul_succ] at this
 unfold prt
 rw[List.length_take,List.length_drop]; omega
theorem prt_byt(k:Nat)(l:List UInt8)(i:Nat): lst (((l.map byteD).take (k*(i+1))).drop (k*i))=byt (prt k l i):=by
 unfold byt prt
 rw[List.map_take,List.map_drop,List.drop_take,show k*(i+1)-k*i=k from by rw[Nat.mul_succ]; omega]
theorem prt_flat{α:Type}{v:α->List UInt8}{L:List α}(hL:L.length=4)(h:∀ a∈L,(v a).length=k)(hi:i<4)(z:α): prt k (L.flatMap v) i=v (L.getD i z):=by
 unfold prt
 rw[Nat.mul_comm]
 exact flat_getD h (by omega) z
def RecT.of (l:List UInt8):RecT:=⟨pX l,gS (pN l),gC (pN l),pT l⟩
def EntT.of (l:List UInt8):EntT:=⟨pX l,pD l⟩
theorem RecT.of_fit{l:List UInt8}(h:l.length=45): (RecT.of l).Fit:=⟨pT_len h,gS_lt _,gC_lt _⟩
theorem EntT.of_fit{l:List UInt8}(h:l.length=33): (EntT.of l).Fit:=⟨pD_len h⟩
theorem RecT.l_of{r:RecT}(h:r.Fit): RecT.of r.l=r:=by
 obtain⟨h1,h2,h3,h4⟩:=rec_front (x:=r.x) h.t h.s h.c
 unfold RecT.of RecT.l
 rw[h1,h2,h3,h4]
theorem EntT.l_of{r:EntT}(h:r.Fit): EntT.of r.l=r:=by
 obtain⟨h1,h2⟩:=ent_front (x:=r.x) h.t
 unfold EntT.of EntT.l
 rw[h1,h2]
def RecT.any (l:List UInt8):RecT:=if (RecT.of l).ck=0 then RecT.of l else RecT.zero
def EntT.any (l:List UInt8):EntT:=if (EntT.of l).ck=0 then EntT.of l else EntT.zero
theorem RecT.any_ok{l:List UInt8}(h:(RecT.of l).ck=0): RecT.any l=RecT.of l:=if_pos h
theorem EntT.any_ok{l:List UInt8}(h:(EntT.of l).ck=0): EntT.any l=EntT.of l:=if_pos h
theorem RecT.any_fit{l:List UInt8}(h:l.length=45): (RecT.any l).Fit:=by unfold RecT.any; split; exact RecT.of_fit h; exact RecT.zero_fit
theorem EntT.any_fit{l:List UInt8}(h:l.length=33): (EntT.any l).Fit:=by unfold EntT.any; split; exact EntT.of_fit h; exact EntT.zero_fit
theorem pg_store{α β:Type}{v:α->List β}{z:α}{f:Nat->α}(hz:(v z).length=k)(hf:∀ i,i<4->(v (f i)).length=k)(hi:i<4):
  ((pg z f i).flatMap v).take (0+i*k)++v (f i)++((pg z f i).flatMap v).drop (0+i*k+(v (f i)).length)=(pg z f (i+1)).flatMap v:=by
 rw[Nat.zero_add,hf i hi,flat_set (fun a ha=>(pg_mem ha).elim (fun e=>e▸hz) fun⟨j,hj,_,e⟩=>e▸hf j hj) (by rw[pg_length]; exact hi) (hf i hi),pg_set z f hi]
theorem pg_lens{α β:Type}{v:α->List β}{z:α}{f:Nat->α}(hz:(v z).length=k)(hf:∀ i,i<4->(v (f i)).length=k)(i:Nat): ((pg z f i).flatMap v).length=4*k:=by
 rw[flat_length (fun a ha=>(pg_mem ha).elim (fun e=>e▸hz) fun⟨j,hj,_,e⟩=>e▸hf j hj),pg_length]
def szN (l:List UInt8):Int:=if l.length=0 then 6 else if 5<(pX l).toNat then 1 else if l.length<NodT.sz (pX l).toNat then 6 else if NodT.sz (pX l).toNat<l.length then 5 else 0
def jN (l:List UInt8):Nat:=(getV ((l.drop 1).take 4) 4).toNat
abbrev rN (l:List UInt8) (i:Nat):RecT:=RecT.of (prt 45 (l.drop 5) i)
abbrev eN (l:List UInt8) (i:Nat):EntT:=EntT.of (prt 33 (l.drop 5) i)
def gtN (l:List UInt8):NodT:=if (pX l).toNat=0 then ⟨pX l,jN l,pg RecT.zero (rN l) 4,zerosE⟩ else ⟨pX l,jN l,zerosR,pg EntT.zero (eN l) 4⟩
def geN (l:List UInt8):Int:=if szN l≠0 then szN l else if (pX l).toNat=0 then fst4 fun i=>(rN l i).ck else fst4 fun i=>(eN l i).ck
theorem jN_lt(l:List UInt8): jN l<4294967296:=by
 unfold jN getV
 split
 ·rename_i h; have:=num_lt ((l.drop 1).take 4); rw[h] at this; omega
 ·decide
theorem szN_ok{l:List UInt8}(h:szN l=0): 0<l.length∧(pX l).toNat<=5∧l.length=NodT.sz (pX l).toNat:=by
 unfold szN at h
 split at h
 ·cases h
 ·split at h
  ·cases h
  ·split at h
   ·cases h
   ·split at h
    ·cases h
    ·omega
theorem lenR{l:List UInt8}(h:szN l=0)(h0:(pX l).toNat=0): l.length=185∧(l.drop 5).length=4*45:=by
 have h1:=(szN_ok h).2.2
 rw[h0] at h1
 refine⟨h1,?_⟩
 rw[List.length_drop,h1]; rfl
theorem lenE{l:List UInt8}(h:szN l=0)(h0:¬ (pX l).toNat=0): l.length=137∧(l.drop 5).length=4*33:=by
 have h1:=(szN_ok h).2.2
 unfold NodT.sz at h1
 rw[if_neg h0] at h1
 refine⟨h1,?_⟩
 rw[List.length_drop,h1]
theorem gtN_R{l:List UInt8}(h0:(pX l).toNat=0): gtN l=⟨pX l,jN l,pg RecT.zero (rN l) 4,zerosE⟩:=if_pos h0
theorem gtN_E{l:List UInt8}(h0:¬ (pX l).toNat=0): gtN l=⟨pX l,jN l,zerosR,pg EntT.zero (eN l) 4⟩:=if_neg h0
theorem geN_sz{l:List UInt8}(h:szN l≠0): geN l=szN l:=if_pos h
theorem geN_R{l:List UInt8}(h:szN l=0)(h0:(pX l).toNat=0): geN l=fst4 fun i=>(rN l i).ck:=by unfold geN; rw[if_neg (by simp[h]),if_pos h0]
theorem geN_E{l:List UInt8}(h:szN l=0)(h0:¬ (pX l).toNat=0): geN l=fst4 fun i=>(eN l i).ck:=by unfold geN; rw[if_neg (by simp[h]),if_neg h0]
theorem zr_get: (zerosR.getD i RecT.zero)=RecT.zero:=by
 unfold zerosR
 rw[List.getD_eq_getElem?_getD,List.getElem?_replicate]; split<;>rfl
theorem ze_get: (zerosE.getD i EntT.zero)=EntT.zero:=by
 unfold zerosE
 rw[List.getD_eq_getElem?_getD,List.getElem?_replicate]; split<;>rfl
theorem gtN_fit{l:List UInt8}(h:szN l=0): (gtN l).Fit:=by
 by_cases h0:(pX l).toNat=0
 ·rw[gtN_R h0]
  exact⟨jN_lt l,pg_length _ _ _,rfl,fun a ha=>(pg_mem ha).elim (fun e=>e▸RecT.zero_fit) fun⟨j,hj,_,e⟩=>e▸RecT.of_fit (prt_len (lenR h h0).2 hj),NodT.ze_fit⟩
 ·rw[gtN_E h0]
  exact⟨jN_lt l,rfl,pg_length _ _ _,NodT.zr_fit,fun a ha=>(pg_mem ha).elim (fun e=>e▸EntT.zero_fit) fun⟨j,hj,_,e⟩=>e▸EntT.of_fit (prt_len (lenE h h0).2 hj)⟩
theorem geN_szN{l:List UInt8}(h:geN l=0): szN l=0:=by
 by_cases hs:szN l=0
 ·exact hs
 ·rw[geN_sz hs] at h; exact h
theorem gtN_ck{l:List UInt8}(h:geN l=0): (gtN l).ck=0:=by
 have hs:=geN_szN h
 by_cases h0:(pX l).toNat=0
 ·rw[geN_R hs h0] at h
  rw[gtN_R h0]
  refine NodT.ok_R h0 (fun i hi=>by unfold NodT.e; rw[ze_get]; exact EntT.z_iff.2 rfl) fun i hi=>?_
  unfold NodT.r
  rw[pg_getD _ _ _ hi,if_pos hi]
  exact RecT.ck_zero.1 (fst4_zero h i hi)
 ·rw[geN_E hs h0] at h
  rw[gtN_E h0]
  refine NodT.ok_E (by have:=(szN_ok hs).2.1; show ¬ 5<(pX l).toNat; omega) h0 (fun i hi=>by unfold NodT.r; rw[zr_get]; exact RecT.z_iff.2 rfl) fun i hi=>?_
  unfold NodT.e
  rw[pg_getD _ _ _ hi,if_pos hi]
  exact EntT.ck_zero.1 (fst4_zero h i hi)
theorem bl_x(x:NodT): pX x.bl=x.l:=rfl
theorem bl_j{x:NodT}(hx:x.Fit): jN x.bl=x.j:=by
 unfold jN NodT.bl
 rw[List.drop_one,List.tail_cons,List.take_left' (be_length 4 x.j),getV,if_pos (be_length 4 x.j),num_be,Nat.mod_eq_of_lt (by have:=hx.j; omega),Int.toNat_natCast]
theorem bl_drop(x:NodT): x.bl.drop 5=if x.l.toNat=0 then x.R.flatMap RecT.l else x.E.flatMap EntT.l:=by
 unfold NodT.bl
 rw[show 5=4+1 from rfl,List.drop_succ_cons,List.drop_left' (be_length 4 x.j)]
theorem bl_sz{x:NodT}(hx:x.Fit)(hl:x.l.toNat<=5): szN x.bl=0:=by
 have h1:=hx.bl_length
 have h2:=sz_le x.l.toNat
 unfold szN
 rw[bl_x,if_neg (by omega),if_neg (by omega),if_neg (by omega),if_neg (by omega)]
theorem rest_zero{α:Type}{L:List α}{z:α}{Z:α->Prop}(hz:∀ a,Z a->a=z)(hL:L.length=4)(h:∀ i,i<4->Z (L.getD i z)): L=List.replicate 4 z :=
 ext4 hL (by simp) z fun i hi=>by rw[hz _ (h i hi),List.getD_eq_getElem?_getD,List.getElem?_replicate,if_pos hi]; rfl
theorem bl_back{x:NodT}(hx:x.Fit)(hk:x.ck=0): gtN x.bl=x∧geN x.bl=0:=by
 obtain⟨h5,hR,hE⟩:=NodT.ck_ok hk
 have hs:=bl_sz hx h5
 by_cases h0:x.l.toNat=0
 ·have hd:=bl_drop x
  rw[if_pos h0] at hd
  have hp:∀ i,i<4->rN x.bl i=x.r i:=fun i hi=>by
   unfold rN
   rw[hd,prt_flat hx.lr (RecT.lensL hx.fr) hi RecT.zero]; exact RecT.l_of (hx.r i)
  refine⟨?_,?_⟩
  ·rw[gtN_R (l:=x.bl) h0,bl_x,bl_j hx]
   have h1:pg RecT.zero (rN x.bl) 4=x.R:=ext4 (pg_length _ _ _) hx.lr RecT.zero fun i hi=>by rw[pg_getD _ _ _ hi,if_pos hi,hp i hi]; rfl
   have h2:zerosE=x.E:=(rest_zero (fun _ h=>EntT.z_iff.1 h) hx.le (hR h0).1).symm
   rw[h1,h2]
  ·rw[geN_R hs h0]
   exact fst4_no fun i hi=>by rw[hp i hi]; exact RecT.ck_zero.2 ((hR h0).2 i hi)
 ·have hd:=bl_drop x
  rw[if_neg h0] at hd
  have hp:∀ i,i<4->eN x.bl i=x.e i:=fun i hi=>by
   unfold eN
   rw[hd,prt_flat hx.le (EntT.lensL hx.fe) hi EntT.zero]; exact EntT.l_of (hx.e i)
  refine⟨?_,?_⟩
  ·rw[gtN_E (l:=x.bl) h0,bl_x,bl_j hx]
   have h1:pg EntT.zero (eN x.bl) 4=x.E:=ext4 (pg_length _ _ _) hx.le EntT.zero fun i hi=>by rw[pg_getD _ _ _ hi,if_pos hi,hp i hi]; rfl
   have h2:zerosR=x.R:=(rest_zero (fun _ h=>RecT.z_iff.1 h) hx.lr (hE h0).1).symm
   rw[h1,h2]
  ·rw[geN_E hs h0]
   exact fst4_no fun i hi=>by rw[hp i hi]; exact EntT.ck_zero.2 ((hE h0).2 i hi)
open Classical in
noncomputable def ftN (n:Int) (x:NodT):Int:=if ¬ (1<=n∧n<=4096) then 1 else if x.ck≠0 then x.ck else if ¬ IsP n.toNat x.l.toNat x.j then 17 else if ∀ i,pts n.toNat x.l.toNat x.j<=i->i<4->(x.r i).Z∧(x.e i).Z then 0 else 17
theorem ft_bad{n:Int}{x:NodT}(h:¬ (1<=n∧n<=4096)): ftN n x=1:=if_pos h
theorem ft_ck{x:NodT}(h1:1<=n)(h2:n<=4096)(h:x.ck≠0): ftN n x=x.ck:=by unfold ftN; rw[if_neg (by omega),if_pos h]
theorem ft_no{x:NodT}(h1:1<=n)(h2:n<=4096)(h:x.ck=0)(hp:¬ IsP n x.l.toNat x.j): ftN n x=17:=by unfold ftN; rw[if_neg (by omega),if_neg (by simp[h]),Int.toNat_natCast,if_pos hp]
theorem ft_ok{x:NodT}(h1:1<=n)(h2:n<=4096)(h:x.ck=0)(hp:IsP n x.l.toNat x.j)(hz:∀ i,pts n x.l.toNat x.j<=i->i<4->(x.r i).Z∧(x.e i).Z): ftN n x=0:=by unfold ftN; rw[if_neg (by omega),if_neg (by simp[h]),Int.toNat_natCast,if_neg (fun h=>h hp),if_pos hz]
theorem ft_part{x:NodT}(h1:1<=n)(h2:n<=4096)(h:x.ck=0)(hp:IsP n x.l.toNat x.j)(hz:¬ ∀ i,pts n x.l.toNat x.j<=i->i<4->(x.r i).Z∧(x.e i).Z): ftN n x=17:=by unfold ftN; rw[if_neg (by omega),if_neg (by simp[h]),Int.toNat_natCast,if_neg (fun h=>h hp),if_neg hz]
theorem NodT.Fit.rec_drop{x:NodT}(h:x.Fit)(hm:m<=4): (x.v.drop (if 4=m then 0+2 else 0+2+m*35)).take ((x.R.drop m).length*35)=(x.R.drop m).flatMap RecT.v:=by
 by_cases h4:4=m
 ·subst h4
  rw[show x.R.drop 4=[] from List.drop_eq_nil_of_le (by rw[h.lr]; exact Nat.le_refl _)]
  rw[List.length_nil,Nat.zero_mul,List.take_zero,List.flatMap_nil]
 ·rw[if_neg h4,Nat.zero_add,<- List.drop_drop]
  show List.take _ (List.drop (m*35) (recsV x.R++entsV x.E))=_
  rw[List.drop_append_of_le_length (by rw[h.lenR]; omega),recsV,flat_drop (RecT.lens h.fr),List.take_left' (flat_length (fun a ha=>(h.fr a (List.mem_of_mem_drop ha)).len))]
theorem NodT.Fit.ent_drop{x:NodT}(h:x.Fit)(hm:m<=4): (x.v.drop (if 4=m then 0+142 else 0+142+m*33)).take ((x.E.drop m).length*33)=(x.E.drop m).flatMap EntT.v:=by
 by_cases h4:4=m
 ·subst h4
  rw[show x.E.drop 4=[] from List.drop_eq_nil_of_le (by rw[h.le]; exact Nat.le_refl _)]
  rw[List.length_nil,Nat.zero_mul,List.take_zero,List.flatMap_nil]
 ·rw[if_neg h4,Nat.zero_add,<- List.drop_drop]
  show List.take _ (List.drop (m*33) (List.drop 140 (recsV x.R++entsV x.E)))=_
  rw[List.drop_left' h.lenR,entsV,flat_drop (EntT.lens h.fe),List.take_of_length_le (Nat.le_of_eq (flat_length (fun a ha=>(h.fe a (List.mem_of_mem_drop ha)).len)))]
theorem drop_getD{α:Type}(L:List α)(m i:Nat)(z:α): (L.drop m).getD i z=L.getD (m+i) z:=by rw[List.getD_eq_getElem?_getD,List.getD_eq_getElem?_getD,List.getElem?_drop]
theorem buildX0(a:UInt8): Tryz.prog.built 72 [(0,byteV a)]=some (NodT.emp a 0).v.toArray:=by kernel_rfl
theorem buildX(a:UInt8)(j:Nat): Tryz.prog.built 72 [(0,byteV a),(1,.int .u32 (j:Int))]=some (NodT.emp a j).v.toArray:=by kernel_rfl
theorem sub_byt(l:List UInt8)(a b:Nat): lst (((l.map byteD).take b).drop a)=byt ((l.drop a).take (b-a)):=by
 unfold byt
 rw[List.map_take,List.map_drop,List.drop_take]
theorem end_byt(l:List UInt8)(a:Nat): lst (((l.map byteD).take l.length).drop a)=byt (l.drop a):=by
 unfold byt
 rw[List.take_of_length_le (by rw[List.length_map]; exact Nat.le_refl _),List.map_drop]
theorem setR_emp(a:UInt8)(j:Nat){L:List RecT}(h:(recsV L).length=140): (NodT.emp a j).v.take (0+2)++recsV L++(NodT.emp a j).v.drop (0+2+(recsV L).length)=(⟨a,j,L,zerosE⟩:NodT).v:=by
 rw[h]
 show[byteV a,nW j]++recsV L++List.drop 140 (recsV zerosR++entsV zerosE)=_
 rw[List.drop_left' (by rfl),List.append_assoc]; rfl
theorem setE_emp(a:UInt8)(j:Nat){L:List EntT}(h:(entsV L).length=132): (NodT.emp a j).v.take (0+142)++entsV L++(NodT.emp a j).v.drop (0+142+(entsV L).length)=(⟨a,j,zerosR,L⟩:NodT).v:=by
 rw[h,List.drop_eq_nil_of_le (by rw[show(NodT.emp a j).v.length=274 from rfl]; decide),List.append_nil]
 show([byteV a,nW j]++List.take 140 (recsV zerosR++entsV zerosE))++entsV L=_
 rw[List.take_left' (by rfl),List.append_assoc]; rfl
abbrev tabN:Env:=(1900000,tab 0 sizV)::tabs
theorem tabN_v: ∀ p∈tabN,vbase<=p.1:=fun p hp=>(List.mem_cons.1 hp).elim (fun h=>by subst h; decide) (tabs_v p)
theorem tabN_hi(h:∀ p∈tabN,p.2.Of w undef): 2<w.heap.size:=tabs_hi fun p hp=>h p (List.mem_cons_of_mem _ hp)
theorem px_get{l:List UInt8}(h:¬ l.length=0): (l.map byteD)[0]?=some (byteD (pX l)):=by cases l with|nil=>exact absurd rfl h|cons a l=>rfl
theorem nSize_fn(l:List UInt8): FnM Tryz.prog 129 tabS [byt l] (.v (.int .i64 (szN l))):=by
 refine FnM.of Tryz.func129 rfl (by kernel_rfl) Tryz.ntmps129 (by simp) (by decide) (fun w=>[(0,old w.heap.size (byt l)),(1900000,tab 0 (sizV))]) (fun w=>(StartM.old rfl (StartM.m (by simp[tabS]) (by decide) StartM.nil))) fun w₀ hM=>?_
 have htab:=tabS_hi hM
 refine GV rfl (QSB (GT (RM rfl ?_)));refine RS (ok_lenB U23 rfl LA) ?_;refine RVN 2 rfl ?_;refine A.cond rfl (fun hc3=>?_) (fun hc3=>?_)
 ·have h0:l.length=0:=by simp at hc3; simp[hc3]
  refine GV rfl (A.ret (End.ret_block (End.ret_then ?_)));exact End.ret1 rfl rfl (Le.v (congrArg (Value.int .i64) (by unfold szN; first|rw[if_pos h0]|rw[if_neg h0,if_pos h5]|rw[if_neg h0,if_neg h5,if_pos h6]|rw[if_neg h0,if_neg h5,if_neg h6,if_pos h7]|rw[if_neg h0,if_neg h5,if_neg h6,if_neg h7])))
 ·have h0:¬ l.length=0:=by simp at hc3; simp[hc3]
  refine GT (RM rfl ?_);refine RS (ok_index (d:=byteD (pX l)) U23 info5 rfl LA rfl (by decide) (px_get h0)) ?_;refine RS (ok_load U5 rfl rfl) ?_;refine RVN 2 rfl ?_;refine A.cond rfl (fun hc7=>?_) (fun hc7=>?_)
  ·have h5:5<(pX l).toNat:=by simp at hc7; omega
   refine GV rfl (A.ret (End.ret_block (End.ret_then ?_)));exact End.ret1 rfl rfl (Le.v (congrArg (Value.int .i64) (by unfold szN; first|rw[if_pos h0]|rw[if_neg h0,if_pos h5]|rw[if_neg h0,if_neg h5,if_pos h6]|rw[if_neg h0,if_neg h5,if_neg h6,if_pos h7]|rw[if_neg h0,if_neg h5,if_neg h6,if_neg h7])))
  ·have h5:¬ 5<(pX l).toNat:=by simp at hc7; omega
   refine GT (RM rfl ?_);refine RS (ok_lenB U23 rfl LA) ?_;refine RM rfl ?_;refine RS (ok_index (d:=byteD (pX l)) U23 info5 rfl LA rfl (by decide) (px_get h0)) ?_;refine RS (ok_load U5 rfl rfl) ?_;refine RS (ok_index0 (pX l).toNat U243 info3 rfl rfl rfl (by omega)) ?_;refine RS (ok_loadVT (s:=1900000) (by decide) U3 rfl rfl rfl (siz_get (by omega))) ?_;refine RVN 2 rfl ?_;refine A.cond rfl (fun hc12=>?_) (fun hc12=>?_)
   ·have h6:l.length<NodT.sz (pX l).toNat:=by simp at hc12; omega
    refine GV rfl (A.ret (End.ret_block (End.ret_then ?_)));exact End.ret1 rfl rfl (Le.v (congrArg (Value.int .i64) (by unfold szN; first|rw[if_pos h0]|rw[if_neg h0,if_pos h5]|rw[if_neg h0,if_neg h5,if_pos h6]|rw[if_neg h0,if_neg h5,if_neg h6,if_pos h7]|rw[if_neg h0,if_neg h5,if_neg h6,if_neg h7])))
   ·have h6:¬ l.length<NodT.sz (pX l).toNat:=by simp at hc12; omega
    refine GT (RM rfl ?_);refine RS (ok_lenB U23 rfl LA) ?_;refine RM rfl ?_;refine RS (ok_index (d:=byteD (pX l)) U23 info5 rfl LA rfl (by decide) (px_get h0)) ?_;refine RS (ok_load U5 rfl rfl) ?_;refine RS (ok_index0 (pX l).toNat U243 info3 rfl rfl rfl (by omega)) ?_;refine RS (ok_loadVT (s:=1900000) (by decide) U3 rfl rfl rfl (siz_get (by omega))) ?_;refine RVN 2 rfl ?_;refine A.sub (Sv [21,1900000] rfl) ?_;refine A.cond rfl (fun hc21=>?_) (fun hc21=>?_)
    ·have h7:NodT.sz (pX l).toNat<l.length:=by simp at hc21; omega
     refine GV rfl (A.ret (End.ret_block (End.ret_then ?_)));exact End.ret1 rfl rfl (Le.v (congrArg (Value.int .i64) (by unfold szN; first|rw[if_pos h0]|rw[if_neg h0,if_pos h5]|rw[if_neg h0,if_neg h5,if_pos h6]|rw[if_neg h0,if_neg h5,if_neg h6,if_pos h7]|rw[if_neg h0,if_neg h5,if_neg h6,if_neg h7])))
    ·have h7:¬ NodT.sz (pX l).toNat<l.length:=by simp at hc21; omega
     refine A.skip (End.normal_block (EN (GV rfl (A.ret ?_))));exact End.ret1 rfl rfl (Le.v (congrArg (Value.int .i64) (by unfold szN; first|rw[if_pos h0]|rw[if_neg h0,if_pos h5]|rw[if_neg h0,if_neg h5,if_pos h6]|rw[if_neg h0,if_neg h5,if_neg h6,if_pos h7]|rw[if_neg h0,if_neg h5,if_neg h6,if_neg h7])))
theorem GetRecord_any(l:List UInt8)(h:l.length=45): Fn Tryz.prog 133 [byt l] (.v (.tuple #[aggV (RecT.any l).v,.int .i64 (RecT.of l).ck])):=by
 by_cases hk:(RecT.of l).ck=0
 ·rw[RecT.any_ok hk,hk]; exact GetRecord_ok l h (RecT.ck_zero.1 hk)
 ·rw[show RecT.any l=RecT.zero from if_neg hk,(RecT.of l).ck_one.resolve_left hk]; exact GetRecord_bad l h (RecT.ck_bad hk)
theorem nytR{f:Nat->Int}(hF:fst4 f≠0)(hG:i<4∧∀ j,j<i->f j=0)(hk:f i=0): i+1<4∧∀ j,j<i+1->f j=0:=by
 have h1:∀ j,j<i+1->f j=0:=fun j hj=>(Nat.lt_or_ge j i).elim (hG.2 j) fun h=>by rw[show j=i from by omega]; exact hk
 refine⟨?_,h1⟩
 rcases Nat.lt_or_ge (i+1) 4 with h|h
 ·exact h
 ·exact absurd (fst4_no fun k hk=>h1 k (by omega)) hF
theorem getPartsR_ok(l:List UInt8)(h:l.length=4*45)(hF:(fst4 fun i=>(RecT.of (prt 45 l i)).ck)=0): Fn Tryz.prog 132 [byt l,.v (.func (.func 133) #[] #[])] (.v (.tuple #[aggV (recsV (pg RecT.zero (fun i=>RecT.of (prt 45 l i)) 4)),.int .i64 0])):=by
 refine Fn.of Tryz.func132 rfl (by kernel_rfl) Tryz.ntmps132 (by simp) (fun w=>[(0,old w.heap.size (byt l)),(1,.v (.func (.func 133) #[] #[]))]) (fun w=>(Start.old rfl (Start.v rfl Start.nil))) fun w₀=>?_
 refine GS (TN 0 (RN ?_));refine ZN 1000004 zero67 fun b4 ⟨hBb4,hb4⟩=>?_
 refine TL (RVN 1 rfl ?_);refine GS (TN 0 (RN ?_));refine ZN 1000006 zero67 fun b6 ⟨hBb6,hb6⟩=>?_
 have hlt_b4_b6:=hb6 1000004 b4 _ _ rfl
 refine TL (RN (GT (RM rfl ?_)));refine RS (ok_lenB U23 rfl LA) ?_;refine RS (ok_div rfl rfl (by decide)) ?_;refine RZ (nI (45)) (by rw[h,tdiv_lit _ (by decide)]; rfl) ?_;refine RVN 1 rfl ?_;refine QS (GV rfl (A.block ?_));refine A.loop (ι:=Nat) (fun i=>i<=4) (fun i=>[(0,old w₀.heap.size (byt l)),(1,.v (.func (.func 133) #[] #[])),(4,.v (ptr b4)),(6,.v (ptr b6)),(7,.v (nI (45))),(14,.v (nI (i))),(1000004,blk b4 67 (recsV zerosR)),(1000006,blk b6 67 (recsV (pg RecT.zero (fun i=>RecT.of (prt 45 l i)) i)))]) (fun i=>4-i) 0 ?_ ?_ ?_
 ·exact Nat.zero_le _
 ·exact(KC 0 rfl (KC 1 rfl (KC 4 rfl (KC 6 rfl (KC 7 rfl (KE 14 rfl (by rfl) (KC 1000004 rfl (KE 1000006 rfl (by rfl) KN))))))))
 intro i hG
 refine GV rfl (QS ?_);refine A.cond rfl (fun hc15=>?_) (fun hc15=>?_)
 ·have hi:i<4:=by simp at hc15; omega
  have hk:(RecT.of (prt 45 l i)).ck=0:=fst4_zero (f:=fun i=>(RecT.of (prt 45 l i)).ck) hF i hi
  refine QK (QSB (GV rfl (GS (TN 14 (RV 5 rfl ?_)))));refine Rw (45*i) ?_;refine RV 3 rfl ?_;refine Rw (i+1) ?_;refine RB rfl rfl rfl ?_;refine RZ (nI (45*(i+1))) (wrap_eq (by omega) (by omega)) ?_;refine RS (ok_sliceO (45*i) (45*(i+1)) U23 info5 rfl (Le.refl _) (.inl ⟨_,_,rfl,rfl⟩) (.inl ⟨_,_,rfl,rfl⟩) (by omega) (by rw[List.length_map,h]; omega)) ?_;refine RS (ok_callV0 (GetRecord_any (prt 45 l i) (prt_len h hi)) rfl (Args.cons rfl ((Le.old _ _).trans (Le.eq (prt_byt 45 l i))) Args.nil)) ?_;refine RVN 3 rfl ?_;refine ZN 1000009 zero57 fun b9 ⟨hBb9,hb9⟩=>?_
  refine TF 15 (RN ?_);refine⟨_,eff_storeA (n:=40) (s:=1000009) (size57.of ((RecT.any_fit (prt_len h hi)).len)) rfl rfl (by first|exact NodT.one _|exact RecT.one _|exact EntT.one _|exact RecT.all1 _|exact EntT.all1 _|exact all_byte _|exact all_bytes _) hBb9 rfl (by first|rfl|(rw[(RecT.any_fit (prt_len h hi)).len]; rfl)) (LO 0 rfl (LT 1000004 rfl (LT 1000006 rfl (LW [1,4,6,7,8,9,14,30] rfl)))),?_⟩
  refine TL (RVN 1 rfl ?_);refine QS (GT (RV 2 rfl ?_));refine RZ (.bool false) (by rw[hk]; rfl) ?_;refine RN (A.no rfl ?_);refine QK (GE (TF 3 (RM rfl ?_)));refine RL 1000009 U57 rfl rfl (size57.of ((RecT.any_fit (prt_len h hi)).len)) ?_;refine RZ (aggV (RecT.of (prt 45 l i)).v) (by rw[RecT.any_ok hk]) ?_;refine RS (ok_indexN _ U67 size57 rfl rfl (rfl) (by omega)) ?_;refine RN ?_;refine⟨_,eff_storeP (n:=40) (s:=1000006) (size57.of ((RecT.of_fit (prt_len h hi)).len)) rfl rfl (RecT.one _) hBb6 rfl (by rw[(RecT.of_fit (prt_len h hi)).len,pg_lens RecT.zero_fit.len (fun i hi=>(RecT.of_fit (prt_len h hi)).len)]; omega) (LO 0 rfl (LB 1000004 rfl (LT 1000009 rfl (LW [1,4,6,7,14] rfl)))),?_⟩
  refine TL (RN (End.sub (KC 0 rfl (KC 1 rfl (KC 4 rfl (KC 6 rfl (KC 7 rfl (KC 14 rfl (KC 1000004 rfl (KE 1000006 rfl (show _=blk b6 67 _ from congrArg _ (pg_store RecT.zero_fit.len (fun i hi=>(RecT.of_fit (prt_len h hi)).len) hi)) (KC 1000009 rfl KN))))))))) ?_));refine End.normal_block (EN (GTE (RB rfl rfl rfl ?_)));refine Rw (i+1) ?_;refine RVN 1 rfl ?_;refine End.normal_then ?_;refine End.again (i+1) ?_ ?_ ?_
  ·exact hi
  ·show _-_<_-_; omega
  ·exact(Sv [0,1,4,6,7,14,1000004,1000006] rfl)
 ·have hi2:i=4:=by simp at hc15; omega
  subst hi2
  refine A.exit (End.exit_then (End.exit_then (End.exit_here (EN (GS (TF 1 (RS (ok_loadA (s:=1000006) (by decide) U67 rfl (size67.of (pg_lens RecT.zero_fit.len (fun i hi=>(RecT.of_fit (prt_len h hi)).len) 4)) rfl rfl) ?_)))))));refine RN ?_;refine⟨_,eff_storeA (n:=40) (s:=1000004) (size67.of (pg_lens RecT.zero_fit.len (fun i hi=>(RecT.of_fit (prt_len h hi)).len) 4)) rfl rfl (RecT.all1 _) hBb4 rfl (by rw[pg_lens RecT.zero_fit.len (fun i hi=>(RecT.of_fit (prt_len h hi)).len) 4]; rfl) (LV 4 rfl (LB 1000006 rfl LN)),?_⟩
  refine TL (RVN 1 rfl ?_);refine A.ret ?_;exact End.cellV (s:=1000004) rfl U67 rfl (size67.of (pg_lens RecT.zero_fit.len (fun i hi=>(RecT.of_fit (prt_len h hi)).len) 4)) rfl rfl rfl
theorem getPartsR_bad(l:List UInt8)(h:l.length=4*45)(hF:(fst4 fun i=>(RecT.of (prt 45 l i)).ck)≠0): Fn Tryz.prog 132 [byt l,.v (.func (.func 133) #[] #[])] (.v (.tuple #[aggV (recsV zerosR),.int .i64 (fst4 fun i=>(RecT.of (prt 45 l i)).ck)])):=by
 refine Fn.of Tryz.func132 rfl (by kernel_rfl) Tryz.ntmps132 (by simp) (fun w=>[(0,old w.heap.size (byt l)),(1,.v (.func (.func 133) #[] #[]))]) (fun w=>(Start.old rfl (Start.v rfl Start.nil))) fun w₀=>?_
 refine GS (TN 0 (RN ?_));refine ZN 1000004 zero67 fun b4 ⟨hBb4,hb4⟩=>?_
 refine TL (RVN 1 rfl ?_);refine GS (TN 0 (RN ?_));refine ZN 1000006 zero67 fun b6 ⟨hBb6,hb6⟩=>?_
 have hlt_b4_b6:=hb6 1000004 b4 _ _ rfl
 refine TL (RN (GT (RM rfl ?_)));refine RS (ok_lenB U23 rfl LA) ?_;refine RS (ok_div rfl rfl (by decide)) ?_;refine RZ (nI (45)) (by rw[h,tdiv_lit _ (by decide)]; rfl) ?_;refine RVN 1 rfl ?_;refine QS (GV rfl (A.block ?_));refine A.loop (ι:=Nat) (fun i=>i<4∧∀ j,j<i->(RecT.of (prt 45 l j)).ck=0) (fun i=>[(0,old w₀.heap.size (byt l)),(1,.v (.func (.func 133) #[] #[])),(4,.v (ptr b4)),(6,.v (ptr b6)),(7,.v (nI (45))),(14,.v (nI (i))),(1000004,blk b4 67 (recsV zerosR)),(1000006,blk b6 67 (recsV (pg RecT.zero (fun i=>RecT.of (prt 45 l i)) i)))]) (fun i=>4-i) 0 ?_ ?_ ?_
 ·exact⟨by decide,fun j h=>absurd h (Nat.not_lt_zero _)⟩
 ·exact(KC 0 rfl (KC 1 rfl (KC 4 rfl (KC 6 rfl (KC 7 rfl (KE 14 rfl (by rfl) (KC 1000004 rfl (KE 1000006 rfl (by rfl) KN))))))))
 intro i hG
 have hi:=hG.1
 refine GT (RB rfl rfl rfl ?_);refine RZ (.bool true) (by have:=hG.1; simp; omega) ?_;refine RN (QS (A.yes rfl ?_));refine QK (QSB (GV rfl (GS (TN 14 (RV 5 rfl ?_)))));refine Rw (45*i) ?_;refine RV 3 rfl ?_;refine Rw (i+1) ?_;refine RB rfl rfl rfl ?_;refine RZ (nI (45*(i+1))) (wrap_eq (by omega) (by omega)) ?_;refine RS (ok_sliceO (45*i) (45*(i+1)) U23 info5 rfl (Le.refl _) (.inl ⟨_,_,rfl,rfl⟩) (.inl ⟨_,_,rfl,rfl⟩) (by omega) (by rw[List.length_map,h]; omega)) ?_;refine RS (ok_callV0 (GetRecord_any (prt 45 l i) (prt_len h hi)) rfl (Args.cons rfl ((Le.old _ _).trans (Le.eq (prt_byt 45 l i))) Args.nil)) ?_;refine RVN 3 rfl ?_;refine ZN 1000009 zero57 fun b9 ⟨hBb9,hb9⟩=>?_
 refine TF 15 (RN ?_);refine⟨_,eff_storeA (n:=40) (s:=1000009) (size57.of ((RecT.any_fit (prt_len h hi)).len)) rfl rfl (by first|exact NodT.one _|exact RecT.one _|exact EntT.one _|exact RecT.all1 _|exact EntT.all1 _|exact all_byte _|exact all_bytes _) hBb9 rfl (by first|rfl|(rw[(RecT.any_fit (prt_len h hi)).len]; rfl)) (LO 0 rfl (LT 1000004 rfl (LT 1000006 rfl (LW [1,4,6,7,8,9,14,30] rfl)))),?_⟩
 refine TL (RVN 1 rfl ?_);refine QS (GV rfl ?_);refine A.cond rfl (fun hc32=>?_) (fun hc32=>?_)
 ·have hk:(RecT.of (prt 45 l i)).ck≠0:=by simpa using hc32
  refine GS (TF 2 (RS (ok_lit [] (recsV zerosR) (fun _ _=>rfl) (by kernel_rfl)) ?_));refine RM rfl ?_;refine RZ (.int .i64 (fst4 fun i=>(RecT.of (prt 45 l i)).ck)) (congrArg (Value.int .i64) (fst4_at (f:=fun i=>(RecT.of (prt 45 l i)).ck) hi hG.2 hk)) ?_;refine RN ?_;refine⟨_,eff_storeA (n:=40) (s:=1000004) (size67.of (rfl)) rfl rfl (RecT.all1 _) hBb4 rfl (rfl) (LB 1000006 rfl (LT 1000009 rfl (LW [4,34] rfl))),?_⟩
  refine TL (RVN 1 rfl ?_);refine A.sub (Sv [4,5,1000004,1000006,1000009] rfl) ?_;refine A.ret (End.ret_then (End.ret_block (End.ret_then (End.ret_then (End.ret_block (End.ret_then ?_))))));exact End.cellV (s:=1000004) rfl U67 rfl (size67.of rfl) rfl rfl rfl
 ·have hk:(RecT.of (prt 45 l i)).ck=0:=by simpa using hc32
  refine QK (GE (TF 3 (RM rfl ?_)));refine RL 1000009 U57 rfl rfl (size57.of ((RecT.any_fit (prt_len h hi)).len)) ?_;refine RZ (aggV (RecT.of (prt 45 l i)).v) (by rw[RecT.any_ok hk]) ?_;refine RS (ok_indexN _ U67 size57 rfl rfl (rfl) (by omega)) ?_;refine RN ?_;refine⟨_,eff_storeP (n:=40) (s:=1000006) (size57.of ((RecT.of_fit (prt_len h hi)).len)) rfl rfl (RecT.one _) hBb6 rfl (by rw[(RecT.of_fit (prt_len h hi)).len,pg_lens RecT.zero_fit.len (fun i hi=>(RecT.of_fit (prt_len h hi)).len)]; omega) (LO 0 rfl (LB 1000004 rfl (LT 1000009 rfl (LW [1,4,6,7,14] rfl)))),?_⟩
  refine TL (RN (End.sub (KC 0 rfl (KC 1 rfl (KC 4 rfl (KC 6 rfl (KC 7 rfl (KC 14 rfl (KC 1000004 rfl (KE 1000006 rfl (show _=blk b6 67 _ from congrArg _ (pg_store RecT.zero_fit.len (fun i hi=>(RecT.of_fit (prt_len h hi)).len) hi)) (KC 1000009 rfl KN))))))))) ?_));refine End.normal_block (EN (GTE (RB rfl rfl rfl ?_)));refine Rw (i+1) ?_;refine RVN 1 rfl ?_;refine End.normal_then ?_;refine End.again (i+1) ?_ ?_ ?_
  ·exact nytR (f:=fun i=>(RecT.of (prt 45 l i)).ck) hF hG hk
  ·show _-_<_-_; omega
  ·exact(Sv [0,1,4,6,7,14,1000004,1000006] rfl)
theorem GetEntry_any(l:List UInt8)(h:l.length=33): Fn Tryz.prog 135 [byt l] (.v (.tuple #[aggV (EntT.any l).v,.int .i64 (EntT.of l).ck])):=by
 by_cases hk:(EntT.of l).ck=0
 ·rw[EntT.any_ok hk,hk]; exact GetEntry_ok l h (EntT.ck_zero.1 hk)
 ·rw[show EntT.any l=EntT.zero from if_neg hk,(EntT.of l).ck_one.resolve_left hk]; exact GetEntry_bad l h (EntT.ck_bad hk)
theorem nytE{f:Nat->Int}(hF:fst4 f≠0)(hG:i<4∧∀ j,j<i->f j=0)(hk:f i=0): i+1<4∧∀ j,j<i+1->f j=0:=by
 have h1:∀ j,j<i+1->f j=0:=fun j hj=>(Nat.lt_or_ge j i).elim (hG.2 j) fun h=>by rw[show j=i from by omega]; exact hk
 refine⟨?_,h1⟩
 rcases Nat.lt_or_ge (i+1) 4 with h|h
 ·exact h
 ·exact absurd (fst4_no fun k hk=>h1 k (by omega)) hF
theorem getPartsE_ok(l:List UInt8)(h:l.length=4*33)(hF:(fst4 fun i=>(EntT.of (prt 33 l i)).ck)=0): Fn Tryz.prog 134 [byt l,.v (.func (.func 135) #[] #[])] (.v (.tuple #[aggV (entsV (pg EntT.zero (fun i=>EntT.of (prt 33 l i)) 4)),.int .i64 0])):=by
 refine Fn.of Tryz.func134 rfl (by kernel_rfl) Tryz.ntmps134 (by simp) (fun w=>[(0,old w.heap.size (byt l)),(1,.v (.func (.func 135) #[] #[]))]) (fun w=>(Start.old rfl (Start.v rfl Start.nil))) fun w₀=>?_
 refine GS (TN 0 (RN ?_));refine ZN 1000004 zero70 fun b4 ⟨hBb4,hb4⟩=>?_
 refine TL (RVN 1 rfl ?_);refine GS (TN 0 (RN ?_));refine ZN 1000006 zero70 fun b6 ⟨hBb6,hb6⟩=>?_
 have hlt_b4_b6:=hb6 1000004 b4 _ _ rfl
 refine TL (RN (GT (RM rfl ?_)));refine RS (ok_lenB U23 rfl LA) ?_;refine RS (ok_div rfl rfl (by decide)) ?_;refine RZ (nI (33)) (by rw[h,tdiv_lit _ (by decide)]; rfl) ?_;refine RVN 1 rfl ?_;refine QS (GV rfl (A.block ?_));refine A.loop (ι:=Nat) (fun i=>i<=4) (fun i=>[(0,old w₀.heap.size (byt l)),(1,.v (.func (.func 135) #[] #[])),(4,.v (ptr b4)),(6,.v (ptr b6)),(7,.v (nI (33))),(14,.v (nI (i))),(1000004,blk b4 70 (entsV zerosE)),(1000006,blk b6 70 (entsV (pg EntT.zero (fun i=>EntT.of (prt 33 l i)) i)))]) (fun i=>4-i) 0 ?_ ?_ ?_
 ·exact Nat.zero_le _
 ·exact(KC 0 rfl (KC 1 rfl (KC 4 rfl (KC 6 rfl (KC 7 rfl (KE 14 rfl (by rfl) (KC 1000004 rfl (KE 1000006 rfl (by rfl) KN))))))))
 intro i hG
 refine GV rfl (QS ?_);refine A.cond rfl (fun hc15=>?_) (fun hc15=>?_)
 ·have hi:i<4:=by simp at hc15; omega
  have hk:(EntT.of (prt 33 l i)).ck=0:=fst4_zero (f:=fun i=>(EntT.of (prt 33 l i)).ck) hF i hi
  refine QK (QSB (GV rfl (GS (TN 14 (RV 5 rfl ?_)))));refine Rw (33*i) ?_;refine RV 3 rfl ?_;refine Rw (i+1) ?_;refine RB rfl rfl rfl ?_;refine RZ (nI (33*(i+1))) (wrap_eq (by omega) (by omega)) ?_;refine RS (ok_sliceO (33*i) (33*(i+1)) U23 info5 rfl (Le.refl _) (.inl ⟨_,_,rfl,rfl⟩) (.inl ⟨_,_,rfl,rfl⟩) (by omega) (by rw[List.length_map,h]; omega)) ?_;refine RS (ok_callV0 (GetEntry_any (prt 33 l i) (prt_len h hi)) rfl (Args.cons rfl ((Le.old _ _).trans (Le.eq (prt_byt 33 l i))) Args.nil)) ?_;refine RVN 3 rfl ?_;refine ZN 1000009 zero69 fun b9 ⟨hBb9,hb9⟩=>?_
  refine TF 15 (RN ?_);refine⟨_,eff_storeA (n:=40) (s:=1000009) (size69.of ((EntT.any_fit (prt_len h hi)).len)) rfl rfl (by first|exact NodT.one _|exact RecT.one _|exact EntT.one _|exact RecT.all1 _|exact EntT.all1 _|exact all_byte _|exact all_bytes _) hBb9 rfl (by first|rfl|(rw[(EntT.any_fit (prt_len h hi)).len]; rfl)) (LO 0 rfl (LT 1000004 rfl (LT 1000006 rfl (LW [1,4,6,7,8,9,14,30] rfl)))),?_⟩
  refine TL (RVN 1 rfl ?_);refine QS (GT (RV 2 rfl ?_));refine RZ (.bool false) (by rw[hk]; rfl) ?_;refine RN (A.no rfl ?_);refine QK (GE (TF 3 (RM rfl ?_)));refine RL 1000009 U69 rfl rfl (size69.of ((EntT.any_fit (prt_len h hi)).len)) ?_;refine RZ (aggV (EntT.of (prt 33 l i)).v) (by rw[EntT.any_ok hk]) ?_;refine RS (ok_indexN _ U70 size69 rfl rfl (rfl) (by omega)) ?_;refine RN ?_;refine⟨_,eff_storeP (n:=40) (s:=1000006) (size69.of ((EntT.of_fit (prt_len h hi)).len)) rfl rfl (EntT.one _) hBb6 rfl (by rw[(EntT.of_fit (prt_len h hi)).len,pg_lens EntT.zero_fit.len (fun i hi=>(EntT.of_fit (prt_len h hi)).len)]; omega) (LO 0 rfl (LB 1000004 rfl (LT 1000009 rfl (LW [1,4,6,7,14] rfl)))),?_⟩
  refine TL (RN (End.sub (KC 0 rfl (KC 1 rfl (KC 4 rfl (KC 6 rfl (KC 7 rfl (KC 14 rfl (KC 1000004 rfl (KE 1000006 rfl (show _=blk b6 70 _ from congrArg _ (pg_store EntT.zero_fit.len (fun i hi=>(EntT.of_fit (prt_len h hi)).len) hi)) (KC 1000009 rfl KN))))))))) ?_));refine End.normal_block (EN (GTE (RB rfl rfl rfl ?_)));refine Rw (i+1) ?_;refine RVN 1 rfl ?_;refine End.normal_then ?_;refine End.again (i+1) ?_ ?_ ?_
  ·exact hi
  ·show _-_<_-_; omega
  ·exact(Sv [0,1,4,6,7,14,1000004,1000006] rfl)
 ·have hi2:i=4:=by simp at hc15; omega
  subst hi2
  refine A.exit (End.exit_then (End.exit_then (End.exit_here (EN (GS (TF 1 (RS (ok_loadA (s:=1000006) (by decide) U70 rfl (size70.of (pg_lens EntT.zero_fit.len (fun i hi=>(EntT.of_fit (prt_len h hi)).len) 4)) rfl rfl) ?_)))))));refine RN ?_;refine⟨_,eff_storeA (n:=40) (s:=1000004) (size70.of (pg_lens EntT.zero_fit.len (fun i hi=>(EntT.of_fit (prt_len h hi)).len) 4)) rfl rfl (EntT.all1 _) hBb4 rfl (by rw[pg_lens EntT.zero_fit.len (fun i hi=>(EntT.of_fit (prt_len h hi)).len) 4]; rfl) (LV 4 rfl (LB 1000006 rfl LN)),?_⟩
  refine TL (RVN 1 rfl ?_);refine A.ret ?_;exact End.cellV (s:=1000004) rfl U70 rfl (size70.of (pg_lens EntT.zero_fit.len (fun i hi=>(EntT.of_fit (prt_len h hi)).len) 4)) rfl rfl rfl
theorem getPartsE_bad(l:List UInt8)(h:l.length=4*33)(hF:(fst4 fun i=>(EntT.of (prt 33 l i)).ck)≠0): Fn Tryz.prog 134 [byt l,.v (.func (.func 135) #[] #[])] (.v (.tuple #[aggV (entsV zerosE),.int .i64 (fst4 fun i=>(EntT.of (prt 33 l i)).ck)])):=by
 refine Fn.of Tryz.func134 rfl (by kernel_rfl) Tryz.ntmps134 (by simp) (fun w=>[(0,old w.heap.size (byt l)),(1,.v (.func (.func 135) #[] #[]))]) (fun w=>(Start.old rfl (Start.v rfl Start.nil))) fun w₀=>?_
 refine GS (TN 0 (RN ?_));refine ZN 1000004 zero70 fun b4 ⟨hBb4,hb4⟩=>?_
 refine TL (RVN 1 rfl ?_);refine GS (TN 0 (RN ?_));refine ZN 1000006 zero70 fun b6 ⟨hBb6,hb6⟩=>?_
 have hlt_b4_b6:=hb6 1000004 b4 _ _ rfl
 refine TL (RN (GT (RM rfl ?_)));refine RS (ok_lenB U23 rfl LA) ?_;refine RS (ok_div rfl rfl (by decide)) ?_;refine RZ (nI (33)) (by rw[h,tdiv_lit _ (by decide)]; rfl) ?_;refine RVN 1 rfl ?_;refine QS (GV rfl (A.block ?_));refine A.loop (ι:=Nat) (fun i=>i<4∧∀ j,j<i->(EntT.of (prt 33 l j)).ck=0) (fun i=>[(0,old w₀.heap.size (byt l)),(1,.v (.func (.func 135) #[] #[])),(4,.v (ptr b4)),(6,.v (ptr b6)),(7,.v (nI (33))),(14,.v (nI (i))),(1000004,blk b4 70 (entsV zerosE)),(1000006,blk b6 70 (entsV (pg EntT.zero (fun i=>EntT.of (prt 33 l i)) i)))]) (fun i=>4-i) 0 ?_ ?_ ?_
 ·exact⟨by decide,fun j h=>absurd h (Nat.not_lt_zero _)⟩
 ·exact(KC 0 rfl (KC 1 rfl (KC 4 rfl (KC 6 rfl (KC 7 rfl (KE 14 rfl (by rfl) (KC 1000004 rfl (KE 1000006 rfl (by rfl) KN))))))))
 intro i hG
 have hi:=hG.1
 refine GT (RB rfl rfl rfl ?_);refine RZ (.bool true) (by have:=hG.1; simp; omega) ?_;refine RN (QS (A.yes rfl ?_));refine QK (QSB (GV rfl (GS (TN 14 (RV 5 rfl ?_)))));refine Rw (33*i) ?_;refine RV 3 rfl ?_;refine Rw (i+1) ?_;refine RB rfl rfl rfl ?_;refine RZ (nI (33*(i+1))) (wrap_eq (by omega) (by omega)) ?_;refine RS (ok_sliceO (33*i) (33*(i+1)) U23 info5 rfl (Le.refl _) (.inl ⟨_,_,rfl,rfl⟩) (.inl ⟨_,_,rfl,rfl⟩) (by omega) (by rw[List.length_map,h]; omega)) ?_;refine RS (ok_callV0 (GetEntry_any (prt 33 l i) (prt_len h hi)) rfl (Args.cons rfl ((Le.old _ _).trans (Le.eq (prt_byt 33 l i))) Args.nil)) ?_;refine RVN 3 rfl ?_;refine ZN 1000009 zero69 fun b9 ⟨hBb9,hb9⟩=>?_
 refine TF 15 (RN ?_);refine⟨_,eff_storeA (n:=40) (s:=1000009) (size69.of ((EntT.any_fit (prt_len h hi)).len)) rfl rfl (by first|exact NodT.one _|exact RecT.one _|exact EntT.one _|exact RecT.all1 _|exact EntT.all1 _|exact all_byte _|exact all_bytes _) hBb9 rfl (by first|rfl|(rw[(EntT.any_fit (prt_len h hi)).len]; rfl)) (LO 0 rfl (LT 1000004 rfl (LT 1000006 rfl (LW [1,4,6,7,8,9,14,30] rfl)))),?_⟩
 refine TL (RVN 1 rfl ?_);refine QS (GV rfl ?_);refine A.cond rfl (fun hc32=>?_) (fun hc32=>?_)
 ·have hk:(EntT.of (prt 33 l i)).ck≠0:=by simpa using hc32
  refine GS (TF 2 (RS (ok_lit [] (entsV zerosE) (fun _ _=>rfl) (by kernel_rfl)) ?_));refine RM rfl ?_;refine RZ (.int .i64 (fst4 fun i=>(EntT.of (prt 33 l i)).ck)) (congrArg (Value.int .i64) (fst4_at (f:=fun i=>(EntT.of (prt 33 l i)).ck) hi hG.2 hk)) ?_;refine RN ?_;refine⟨_,eff_storeA (n:=40) (s:=1000004) (size70.of (rfl)) rfl rfl (EntT.all1 _) hBb4 rfl (rfl) (LB 1000006 rfl (LT 1000009 rfl (LW [4,34] rfl))),?_⟩
  refine TL (RVN 1 rfl ?_);refine A.sub (Sv [4,5,1000004,1000006,1000009] rfl) ?_;refine A.ret (End.ret_then (End.ret_block (End.ret_then (End.ret_then (End.ret_block (End.ret_then ?_))))));exact End.cellV (s:=1000004) rfl U70 rfl (size70.of rfl) rfl rfl rfl
 ·have hk:(EntT.of (prt 33 l i)).ck=0:=by simpa using hc32
  refine QK (GE (TF 3 (RM rfl ?_)));refine RL 1000009 U69 rfl rfl (size69.of ((EntT.any_fit (prt_len h hi)).len)) ?_;refine RZ (aggV (EntT.of (prt 33 l i)).v) (by rw[EntT.any_ok hk]) ?_;refine RS (ok_indexN _ U70 size69 rfl rfl (rfl) (by omega)) ?_;refine RN ?_;refine⟨_,eff_storeP (n:=40) (s:=1000006) (size69.of ((EntT.of_fit (prt_len h hi)).len)) rfl rfl (EntT.one _) hBb6 rfl (by rw[(EntT.of_fit (prt_len h hi)).len,pg_lens EntT.zero_fit.len (fun i hi=>(EntT.of_fit (prt_len h hi)).len)]; omega) (LO 0 rfl (LB 1000004 rfl (LT 1000009 rfl (LW [1,4,6,7,14] rfl)))),?_⟩
  refine TL (RN (End.sub (KC 0 rfl (KC 1 rfl (KC 4 rfl (KC 6 rfl (KC 7 rfl (KC 14 rfl (KC 1000004 rfl (KE 1000006 rfl (show _=blk b6 70 _ from congrArg _ (pg_store EntT.zero_fit.len (fun i hi=>(EntT.of_fit (prt_len h hi)).len) hi)) (KC 1000009 rfl KN))))))))) ?_));refine End.normal_block (EN (GTE (RB rfl rfl rfl ?_)));refine Rw (i+1) ?_;refine RVN 1 rfl ?_;refine End.normal_then ?_;refine End.again (i+1) ?_ ?_ ?_
  ·exact nytE (f:=fun i=>(EntT.of (prt 33 l i)).ck) hF hG hk
  ·show _-_<_-_; omega
  ·exact(Sv [0,1,4,6,7,14,1000004,1000006] rfl)
theorem nGet_sz(l:List UInt8)(h:szN l≠0): FnM Tryz.prog 98 tabS [byt l] (.v (.tuple #[aggV (NodT.emp 0 0).v,.int .i64 (szN l)])):=by
 refine FnM.of Tryz.func98 rfl (by kernel_rfl) Tryz.ntmps98 (by simp) (by decide) (fun w=>[(0,old w.heap.size (byt l)),(1900000,tab 0 (sizV))]) (fun w=>(StartM.old rfl (StartM.m (by simp[tabS]) (by decide) StartM.nil))) fun w₀ hM=>?_
 have htab:=tabS_hi hM
 refine GS (TN 0 (RN ?_));refine ZN 1000002 zero72 fun b2 ⟨hBb2,hb2⟩=>?_
 refine TL (RVN 1 rfl ?_);refine QS (GT (RM rfl ?_));refine RS (ok_callM (nSize_fn l) (Sub.cons rfl KN) tabS_v (Args.cons rfl (Le.old _ _) Args.nil)) ?_;refine RVN 1 rfl ?_;refine GT (RV 2 rfl ?_);refine RT ?_;refine RN (A.yes rfl ?_);refine GS (TF 2 (RS (ok_lit [] (NodT.v (NodT.emp 0 0)) (fun _ _=>rfl) (by kernel_rfl)) ?_));refine RVN 1 rfl ?_;refine⟨_,eff_storeA (n:=45) (s:=1000002) (size72.of (rfl)) rfl rfl (by first|exact NodT.one _|exact RecT.one _|exact EntT.one _|exact RecT.all1 _|exact EntT.all1 _|exact all_byte _|exact all_bytes _) hBb2 rfl (by first|rfl|(rw[rfl]; rfl)) (LQ 1900000 rfl (LW [2,12] rfl)),?_⟩
 refine TL (RVN 1 rfl ?_);refine A.ret (End.ret_then ?_);exact End.cellV (s:=1000002) rfl U72 rfl (size72.of (rfl)) rfl rfl rfl
set_option maxHeartbeats 2000000 in
theorem nGet_R1(l:List UInt8)(h:szN l=0)(h0':(pX l).toNat=0)(hF:(fst4 fun i=>(rN l i).ck)=0): FnM Tryz.prog 98 tabS [byt l] (.v (.tuple #[aggV (⟨pX l,jN l,pg RecT.zero (rN l) 4,zerosE⟩:NodT).v,.int .i64 0])):=by
 obtain⟨h1,h2⟩:=lenR h h0'
 have h0:¬ l.length=0:=by omega
 have hxf:NodT.Fit (⟨pX l,jN l,pg RecT.zero (rN l) 4,zerosE⟩:NodT):=by have:=gtN_fit h; rwa [gtN_R h0'] at this
 refine FnM.of Tryz.func98 rfl (by kernel_rfl) Tryz.ntmps98 (by simp) (by decide) (fun w=>[(0,old w.heap.size (byt l)),(1900000,tab 0 (sizV))]) (fun w=>(StartM.old rfl (StartM.m (by simp[tabS]) (by decide) StartM.nil))) fun w₀ hM=>?_
 have htab:=tabS_hi hM
 refine GS (TN 0 (RN ?_));refine ZN 1000002 zero72 fun b2 ⟨hBb2,hb2⟩=>?_
 refine TL (RVN 1 rfl ?_);refine QS (GT (RM rfl ?_));refine RS (ok_callM (nSize_fn l) (Sub.cons rfl KN) tabS_v (Args.cons rfl (Le.old _ _) Args.nil)) ?_;refine RZ (.int .i64 0) (by rw[h]) ?_;refine RVN 1 rfl ?_;refine GT (RV 2 rfl ?_);refine RF ?_;refine RN (A.no rfl ?_);refine QK (GS (TN 4 (RM rfl ?_)));refine RS (ok_index (d:=byteD (pX l)) U23 info5 rfl LA rfl (by decide) (px_get h0)) ?_;refine RS (ok_load U5 rfl rfl) ?_;refine RS (ok_litS [(0,byteV (pX l))] (NodT.emp (pX l) 0).v ⟨rfl,rfl,trivial⟩ (buildX0 _)) ?_;refine RN ?_;refine ZN 1000005 zero72 fun b5 ⟨hBb5,hb5⟩=>?_
 have hlt_b2_b5:=hb5 1000002 b2 _ _ rfl
 refine TF 5 (RN ?_);refine⟨_,eff_storeA (n:=45) (s:=1000005) (size72.of (rfl)) rfl rfl (by first|exact NodT.one _|exact RecT.one _|exact EntT.one _|exact RecT.all1 _|exact EntT.all1 _|exact all_byte _|exact all_bytes _) hBb5 rfl (by first|rfl|(rw[rfl]; rfl)) (LO 0 rfl (LB 1000002 rfl (LQ 1900000 rfl (LW [2,5] rfl)))),?_⟩
 refine TL (RN (GS (TF 7 (RM rfl ?_))));refine RS (ok_sliceO 1 5 U23 info5 rfl (Le.refl _) (.inl ⟨_,_,rfl,rfl⟩) (.inl ⟨_,_,rfl,rfl⟩) (by decide) (by rw[List.length_map]; omega)) ?_;refine RS (ok_call (Get32_fn ((l.drop 1).take 4)) (Args.cons rfl ((Le.old _ _).trans (Le.eq (sub_byt l 1 5))) Args.nil)) ?_;refine RM rfl ?_;refine RS (ok_extract rfl rfl) ?_;refine RZ (.int .u32 (jN l:Int)) (congrArg (Value.int .u32) (getV_nat _ 4).symm) ?_;refine RS (ok_extract rfl rfl) ?_;refine Rf field72_1 ?_;refine RN ?_;refine⟨_,eff_storeS (n:=45) (s:=1000005) info53 rfl rfl rfl hBb5 rfl (by rw[(NodT.emp_fit (pX l) (by decide)).len]; decide) (LO 0 rfl (LB 1000002 rfl (LQ 1900000 rfl (LW [2,5] rfl)))),?_⟩
 refine TL (RN (A.sub (KC 0 rfl (KC 2 rfl (KC 5 rfl (KC 1000002 rfl (KE 1000005 rfl (show _=blk b5 72 (NodT.emp (pX l) (jN l)).v from rfl) (KC 1900000 rfl KN)))))) ?_));refine GV rfl (QS (GT (RL 1000005 U72 rfl rfl (size72.of ((NodT.emp_fit (pX l) (jN_lt l)).len)) ?_)));refine RS (ok_call (isGroup_y (NodT.emp (pX l) (jN l)) (NodT.emp_fit _ (jN_lt l)) h0') (A1 rfl)) ?_;refine RN (A.yes rfl ?_);refine GE (TF 7 (RM rfl ?_));refine RS (ok_sliceO 5 l.length U23 info5 rfl (Le.refl _) (.inl ⟨_,_,rfl,rfl⟩) (.inr ⟨rfl,by rw[List.length_map]⟩) (by omega) (by rw[List.length_map]; exact Nat.le_refl _)) ?_;refine RS (ok_call (getPartsR_ok (l.drop 5) h2 hF) (Args.cons rfl ((Le.old _ _).trans (Le.eq (end_byt l 5))) (A1 rfl))) ?_;refine RV 3 rfl ?_;refine Rf field72_2 ?_;refine RN ?_;refine⟨_,eff_storeP (n:=45) (s:=1000005) (size67.of (pg_lens RecT.zero_fit.len (fun i hi=>(RecT.of_fit (prt_len h2 hi)).len) 4)) rfl rfl (RecT.all1 _) hBb5 rfl (by rw[pg_lens RecT.zero_fit.len (fun i hi=>(RecT.of_fit (prt_len h2 hi)).len) 4,(NodT.emp_fit (pX l) (jN_lt l)).len]; decide) (LB 1000002 rfl (LQ 1900000 rfl (LW [2,5,31] rfl))),?_⟩
 refine TL (RVN 1 rfl ?_);refine End.sub (KC 2 rfl (KC 5 rfl (KC 6 rfl (KC 1000002 rfl (KE 1000005 rfl (show _=blk b5 72 ((⟨pX l,jN l,pg RecT.zero (rN l) 4,zerosE⟩:NodT)).v from congrArg _ (setR_emp _ _ (pg_lens RecT.zero_fit.len (fun i hi=>(RecT.of_fit (prt_len h2 hi)).len) 4))) (KC 1900000 rfl KN)))))) ?_;refine EN (QS (GT (RV 2 rfl ?_)));refine RF ?_;refine RN (A.no rfl ?_);refine QK (GS (TF 1 (RL 1000005 U72 rfl rfl (size72.of (hxf.len)) ?_)));refine RN ?_;refine⟨_,eff_storeA (n:=45) (s:=1000002) (size72.of (hxf.len)) rfl rfl (NodT.one _) hBb2 rfl (by rw[hxf.len]; rfl) (LV 2 rfl (LB 1000005 rfl (LQ 1900000 rfl LN))),?_⟩
 refine TL (RVN 1 rfl ?_);refine A.ret ?_;exact End.cellV (s:=1000002) rfl U72 rfl (size72.of (hxf.len)) rfl rfl rfl
set_option maxHeartbeats 2000000 in
theorem nGet_R0(l:List UInt8)(h:szN l=0)(h0':(pX l).toNat=0)(hF:(fst4 fun i=>(rN l i).ck)≠0): FnM Tryz.prog 98 tabS [byt l] (.v (.tuple #[aggV (NodT.emp 0 0).v,.int .i64 (fst4 fun i=>(rN l i).ck)])):=by
 obtain⟨h1,h2⟩:=lenR h h0'
 have h0:¬ l.length=0:=by omega
 have hxf:NodT.Fit (⟨pX l,jN l,pg RecT.zero (rN l) 4,zerosE⟩:NodT):=by have:=gtN_fit h; rwa [gtN_R h0'] at this
 refine FnM.of Tryz.func98 rfl (by kernel_rfl) Tryz.ntmps98 (by simp) (by decide) (fun w=>[(0,old w.heap.size (byt l)),(1900000,tab 0 (sizV))]) (fun w=>(StartM.old rfl (StartM.m (by simp[tabS]) (by decide) StartM.nil))) fun w₀ hM=>?_
 have htab:=tabS_hi hM
 refine GS (TN 0 (RN ?_));refine ZN 1000002 zero72 fun b2 ⟨hBb2,hb2⟩=>?_
 refine TL (RVN 1 rfl ?_);refine QS (GT (RM rfl ?_));refine RS (ok_callM (nSize_fn l) (Sub.cons rfl KN) tabS_v (Args.cons rfl (Le.old _ _) Args.nil)) ?_;refine RZ (.int .i64 0) (by rw[h]) ?_;refine RVN 1 rfl ?_;refine GT (RV 2 rfl ?_);refine RF ?_;refine RN (A.no rfl ?_);refine QK (GS (TN 4 (RM rfl ?_)));refine RS (ok_index (d:=byteD (pX l)) U23 info5 rfl LA rfl (by decide) (px_get h0)) ?_;refine RS (ok_load U5 rfl rfl) ?_;refine RS (ok_litS [(0,byteV (pX l))] (NodT.emp (pX l) 0).v ⟨rfl,rfl,trivial⟩ (buildX0 _)) ?_;refine RN ?_;refine ZN 1000005 zero72 fun b5 ⟨hBb5,hb5⟩=>?_
 have hlt_b2_b5:=hb5 1000002 b2 _ _ rfl
 refine TF 5 (RN ?_);refine⟨_,eff_storeA (n:=45) (s:=1000005) (size72.of (rfl)) rfl rfl (by first|exact NodT.one _|exact RecT.one _|exact EntT.one _|exact RecT.all1 _|exact EntT.all1 _|exact all_byte _|exact all_bytes _) hBb5 rfl (by first|rfl|(rw[rfl]; rfl)) (LO 0 rfl (LB 1000002 rfl (LQ 1900000 rfl (LW [2,5] rfl)))),?_⟩
 refine TL (RN (GS (TF 7 (RM rfl ?_))));refine RS (ok_sliceO 1 5 U23 info5 rfl (Le.refl _) (.inl ⟨_,_,rfl,rfl⟩) (.inl ⟨_,_,rfl,rfl⟩) (by decide) (by rw[List.length_map]; omega)) ?_;refine RS (ok_call (Get32_fn ((l.drop 1).take 4)) (Args.cons rfl ((Le.old _ _).trans (Le.eq (sub_byt l 1 5))) Args.nil)) ?_;refine RM rfl ?_;refine RS (ok_extract rfl rfl) ?_;refine RZ (.int .u32 (jN l:Int)) (congrArg (Value.int .u32) (getV_nat _ 4).symm) ?_;refine RS (ok_extract rfl rfl) ?_;refine Rf field72_1 ?_;refine RN ?_;refine⟨_,eff_storeS (n:=45) (s:=1000005) info53 rfl rfl rfl hBb5 rfl (by rw[(NodT.emp_fit (pX l) (by decide)).len]; decide) (LO 0 rfl (LB 1000002 rfl (LQ 1900000 rfl (LW [2,5] rfl)))),?_⟩
 refine TL (RN (A.sub (KC 0 rfl (KC 2 rfl (KC 5 rfl (KC 1000002 rfl (KE 1000005 rfl (show _=blk b5 72 (NodT.emp (pX l) (jN l)).v from rfl) (KC 1900000 rfl KN)))))) ?_));refine GV rfl (QS (GT (RL 1000005 U72 rfl rfl (size72.of ((NodT.emp_fit (pX l) (jN_lt l)).len)) ?_)));refine RS (ok_call (isGroup_y (NodT.emp (pX l) (jN l)) (NodT.emp_fit _ (jN_lt l)) h0') (A1 rfl)) ?_;refine RN (A.yes rfl ?_);refine GE (TF 7 (RM rfl ?_));refine RS (ok_sliceO 5 l.length U23 info5 rfl (Le.refl _) (.inl ⟨_,_,rfl,rfl⟩) (.inr ⟨rfl,by rw[List.length_map]⟩) (by omega) (by rw[List.length_map]; exact Nat.le_refl _)) ?_;refine RS (ok_call (getPartsR_bad (l.drop 5) h2 hF) (Args.cons rfl ((Le.old _ _).trans (Le.eq (end_byt l 5))) (A1 rfl))) ?_;refine RV 3 rfl ?_;refine Rf field72_2 ?_;refine RN ?_;refine⟨_,eff_storeP (n:=45) (s:=1000005) (size67.of (rfl)) rfl rfl (RecT.all1 _) hBb5 rfl (by rw[(NodT.emp_fit (pX l) (jN_lt l)).len]; decide) (LB 1000002 rfl (LQ 1900000 rfl (LW [2,5,31] rfl))),?_⟩
 refine TL (RVN 1 rfl ?_);refine EN (QS (GT (RV 2 rfl ?_)));refine RT ?_;refine RN (A.yes rfl ?_);refine GS (TF 2 (RS (ok_lit [] (NodT.v (NodT.emp 0 0)) (fun _ _=>rfl) (by kernel_rfl)) ?_));refine RVN 1 rfl ?_;refine⟨_,eff_storeA (n:=45) (s:=1000002) (size72.of (rfl)) rfl rfl (by first|exact NodT.one _|exact RecT.one _|exact EntT.one _|exact RecT.all1 _|exact EntT.all1 _|exact all_byte _|exact all_bytes _) hBb2 rfl (by first|rfl|(rw[rfl]; rfl)) (LB 1000005 rfl (LQ 1900000 rfl (LW [2,43] rfl))),?_⟩
 refine TL (RVN 1 rfl ?_);refine A.ret (End.ret_then ?_);exact End.cellV (s:=1000002) rfl U72 rfl (size72.of (rfl)) rfl rfl rfl
set_option maxHeartbeats 2000000 in
theorem nGet_E1(l:List UInt8)(h:szN l=0)(h0':¬ (pX l).toNat=0)(hF:(fst4 fun i=>(eN l i).ck)=0): FnM Tryz.prog 98 tabS [byt l] (.v (.tuple #[aggV (⟨pX l,jN l,zerosR,pg EntT.zero (eN l) 4⟩:NodT).v,.int .i64 0])):=by
 obtain⟨h1,h2⟩:=lenE h h0'
 have h0:¬ l.length=0:=by omega
 have hxf:NodT.Fit (⟨pX l,jN l,zerosR,pg EntT.zero (eN l) 4⟩:NodT):=by have:=gtN_fit h; rwa [gtN_E h0'] at this
 refine FnM.of Tryz.func98 rfl (by kernel_rfl) Tryz.ntmps98 (by simp) (by decide) (fun w=>[(0,old w.heap.size (byt l)),(1900000,tab 0 (sizV))]) (fun w=>(StartM.old rfl (StartM.m (by simp[tabS]) (by decide) StartM.nil))) fun w₀ hM=>?_
 have htab:=tabS_hi hM
 refine GS (TN 0 (RN ?_));refine ZN 1000002 zero72 fun b2 ⟨hBb2,hb2⟩=>?_
 refine TL (RVN 1 rfl ?_);refine QS (GT (RM rfl ?_));refine RS (ok_callM (nSize_fn l) (Sub.cons rfl KN) tabS_v (Args.cons rfl (Le.old _ _) Args.nil)) ?_;refine RZ (.int .i64 0) (by rw[h]) ?_;refine RVN 1 rfl ?_;refine GT (RV 2 rfl ?_);refine RF ?_;refine RN (A.no rfl ?_);refine QK (GS (TN 4 (RM rfl ?_)));refine RS (ok_index (d:=byteD (pX l)) U23 info5 rfl LA rfl (by decide) (px_get h0)) ?_;refine RS (ok_load U5 rfl rfl) ?_;refine RS (ok_litS [(0,byteV (pX l))] (NodT.emp (pX l) 0).v ⟨rfl,rfl,trivial⟩ (buildX0 _)) ?_;refine RN ?_;refine ZN 1000005 zero72 fun b5 ⟨hBb5,hb5⟩=>?_
 have hlt_b2_b5:=hb5 1000002 b2 _ _ rfl
 refine TF 5 (RN ?_);refine⟨_,eff_storeA (n:=45) (s:=1000005) (size72.of (rfl)) rfl rfl (by first|exact NodT.one _|exact RecT.one _|exact EntT.one _|exact RecT.all1 _|exact EntT.all1 _|exact all_byte _|exact all_bytes _) hBb5 rfl (by first|rfl|(rw[rfl]; rfl)) (LO 0 rfl (LB 1000002 rfl (LQ 1900000 rfl (LW [2,5] rfl)))),?_⟩
 refine TL (RN (GS (TF 7 (RM rfl ?_))));refine RS (ok_sliceO 1 5 U23 info5 rfl (Le.refl _) (.inl ⟨_,_,rfl,rfl⟩) (.inl ⟨_,_,rfl,rfl⟩) (by decide) (by rw[List.length_map]; omega)) ?_;refine RS (ok_call (Get32_fn ((l.drop 1).take 4)) (Args.cons rfl ((Le.old _ _).trans (Le.eq (sub_byt l 1 5))) Args.nil)) ?_;refine RM rfl ?_;refine RS (ok_extract rfl rfl) ?_;refine RZ (.int .u32 (jN l:Int)) (congrArg (Value.int .u32) (getV_nat _ 4).symm) ?_;refine RS (ok_extract rfl rfl) ?_;refine Rf field72_1 ?_;refine RN ?_;refine⟨_,eff_storeS (n:=45) (s:=1000005) info53 rfl rfl rfl hBb5 rfl (by rw[(NodT.emp_fit (pX l) (by decide)).len]; decide) (LO 0 rfl (LB 1000002 rfl (LQ 1900000 rfl (LW [2,5] rfl)))),?_⟩
 refine TL (RN (A.sub (KC 0 rfl (KC 2 rfl (KC 5 rfl (KC 1000002 rfl (KE 1000005 rfl (show _=blk b5 72 (NodT.emp (pX l) (jN l)).v from rfl) (KC 1900000 rfl KN)))))) ?_));refine GV rfl (QS (GT (RL 1000005 U72 rfl rfl (size72.of ((NodT.emp_fit (pX l) (jN_lt l)).len)) ?_)));refine RS (ok_call (isGroup_n (NodT.emp (pX l) (jN l)) (NodT.emp_fit _ (jN_lt l)) h0') (A1 rfl)) ?_;refine RN (A.no rfl ?_);refine GE (TF 7 (RM rfl ?_));refine RS (ok_sliceO 5 l.length U23 info5 rfl (Le.refl _) (.inl ⟨_,_,rfl,rfl⟩) (.inr ⟨rfl,by rw[List.length_map]⟩) (by omega) (by rw[List.length_map]; exact Nat.le_refl _)) ?_;refine RS (ok_call (getPartsE_ok (l.drop 5) h2 hF) (Args.cons rfl ((Le.old _ _).trans (Le.eq (end_byt l 5))) (A1 rfl))) ?_;refine RV 3 rfl ?_;refine Rf field72_3 ?_;refine RN ?_;refine⟨_,eff_storeP (n:=45) (s:=1000005) (size70.of (pg_lens EntT.zero_fit.len (fun i hi=>(EntT.of_fit (prt_len h2 hi)).len) 4)) rfl rfl (EntT.all1 _) hBb5 rfl (by rw[pg_lens EntT.zero_fit.len (fun i hi=>(EntT.of_fit (prt_len h2 hi)).len) 4,(NodT.emp_fit (pX l) (jN_lt l)).len]; decide) (LB 1000002 rfl (LQ 1900000 rfl (LW [2,5,38] rfl))),?_⟩
 refine TL (RVN 1 rfl ?_);refine End.sub (KC 2 rfl (KC 5 rfl (KC 6 rfl (KC 1000002 rfl (KE 1000005 rfl (show _=blk b5 72 ((⟨pX l,jN l,zerosR,pg EntT.zero (eN l) 4⟩:NodT)).v from congrArg _ (setE_emp _ _ (pg_lens EntT.zero_fit.len (fun i hi=>(EntT.of_fit (prt_len h2 hi)).len) 4))) (KC 1900000 rfl KN)))))) ?_;refine EN (QS (GT (RV 2 rfl ?_)));refine RF ?_;refine RN (A.no rfl ?_);refine QK (GS (TF 1 (RL 1000005 U72 rfl rfl (size72.of (hxf.len)) ?_)));refine RN ?_;refine⟨_,eff_storeA (n:=45) (s:=1000002) (size72.of (hxf.len)) rfl rfl (NodT.one _) hBb2 rfl (by rw[hxf.len]; rfl) (LV 2 rfl (LB 1000005 rfl (LQ 1900000 rfl LN))),?_⟩
 refine TL (RVN 1 rfl ?_);refine A.ret ?_;exact End.cellV (s:=1000002) rfl U72 rfl (size72.of (hxf.len)) rfl rfl rfl
set_option maxHeartbeats 2000000 in
theorem nGet_E0(l:List UInt8)(h:szN l=0)(h0':¬ (pX l).toNat=0)(hF:(fst4 fun i=>(eN l i).ck)≠0): FnM Tryz.prog 98 tabS [byt l] (.v (.tuple #[aggV (NodT.emp 0 0).v,.int .i64 (fst4 fun i=>(eN l i).ck)])):=by
 obtain⟨h1,h2⟩:=lenE h h0'
 have h0:¬ l.length=0:=by omega
 have hxf:NodT.Fit (⟨pX l,jN l,zerosR,pg EntT.zero (eN l) 4⟩:NodT):=by have:=gtN_fit h; rwa [gtN_E h0'] at this
 refine FnM.of Tryz.func98 rfl (by kernel_rfl) Tryz.ntmps98 (by simp) (by decide) (fun w=>[(0,old w.heap.size (byt l)),(1900000,tab 0 (sizV))]) (fun w=>(StartM.old rfl (StartM.m (by simp[tabS]) (by decide) StartM.nil))) fun w₀ hM=>?_
 have htab:=tabS_hi hM
 refine GS (TN 0 (RN ?_));refine ZN 1000002 zero72 fun b2 ⟨hBb2,hb2⟩=>?_
 refine TL (RVN 1 rfl ?_);refine QS (GT (RM rfl ?_));refine RS (ok_callM (nSize_fn l) (Sub.cons rfl KN) tabS_v (Args.cons rfl (Le.old _ _) Args.nil)) ?_;refine RZ (.int .i64 0) (by rw[h]) ?_;refine RVN 1 rfl ?_;refine GT (RV 2 rfl ?_);refine RF ?_;refine RN (A.no rfl ?_);refine QK (GS (TN 4 (RM rfl ?_)));refine RS (ok_index (d:=byteD (pX l)) U23 info5 rfl LA rfl (by decide) (px_get h0)) ?_;refine RS (ok_load U5 rfl rfl) ?_;refine RS (ok_litS [(0,byteV (pX l))] (NodT.emp (pX l) 0).v ⟨rfl,rfl,trivial⟩ (buildX0 _)) ?_;refine RN ?_;refine ZN 1000005 zero72 fun b5 ⟨hBb5,hb5⟩=>?_
 have hlt_b2_b5:=hb5 1000002 b2 _ _ rfl
 refine TF 5 (RN ?_);refine⟨_,eff_storeA (n:=45) (s:=1000005) (size72.of (rfl)) rfl rfl (by first|exact NodT.one _|exact RecT.one _|exact EntT.one _|exact RecT.all1 _|exact EntT.all1 _|exact all_byte _|exact all_bytes _) hBb5 rfl (by first|rfl|(rw[rfl]; rfl)) (LO 0 rfl (LB 1000002 rfl (LQ 1900000 rfl (LW [2,5] rfl)))),?_⟩
 refine TL (RN (GS (TF 7 (RM rfl ?_))));refine RS (ok_sliceO 1 5 U23 info5 rfl (Le.refl _) (.inl ⟨_,_,rfl,rfl⟩) (.inl ⟨_,_,rfl,rfl⟩) (by decide) (by rw[List.length_map]; omega)) ?_;refine RS (ok_call (Get32_fn ((l.drop 1).take 4)) (Args.cons rfl ((Le.old _ _).trans (Le.eq (sub_byt l 1 5))) Args.nil)) ?_;refine RM rfl ?_;refine RS (ok_extract rfl rfl) ?_;refine RZ (.int .u32 (jN l:Int)) (congrArg (Value.int .u32) (getV_nat _ 4).symm) ?_;refine RS (ok_extract rfl rfl) ?_;refine Rf field72_1 ?_;refine RN ?_;refine⟨_,eff_storeS (n:=45) (s:=1000005) info53 rfl rfl rfl hBb5 rfl (by rw[(NodT.emp_fit (pX l) (by decide)).len]; decide) (LO 0 rfl (LB 1000002 rfl (LQ 1900000 rfl (LW [2,5] rfl)))),?_⟩
 refine TL (RN (A.sub (KC 0 rfl (KC 2 rfl (KC 5 rfl (KC 1000002 rfl (KE 1000005 rfl (show _=blk b5 72 (NodT.emp (pX l) (jN l)).v from rfl) (KC 1900000 rfl KN)))))) ?_));refine GV rfl (QS (GT (RL 1000005 U72 rfl rfl (size72.of ((NodT.emp_fit (pX l) (jN_lt l)).len)) ?_)));refine RS (ok_call (isGroup_n (NodT.emp (pX l) (jN l)) (NodT.emp_fit _ (jN_lt l)) h0') (A1 rfl)) ?_;refine RN (A.no rfl ?_);refine GE (TF 7 (RM rfl ?_));refine RS (ok_sliceO 5 l.length U23 info5 rfl (Le.refl _) (.inl ⟨_,_,rfl,rfl⟩) (.inr ⟨rfl,by rw[List.length_map]⟩) (by omega) (by rw[List.length_map]; exact Nat.le_refl _)) ?_;refine RS (ok_call (getPartsE_bad (l.drop 5) h2 hF) (Args.cons rfl ((Le.old _ _).trans (Le.eq (end_byt l 5))) (A1 rfl))) ?_;refine RV 3 rfl ?_;refine Rf field72_3 ?_;refine RN ?_;refine⟨_,eff_storeP (n:=45) (s:=1000005) (size70.of (rfl)) rfl rfl (EntT.all1 _) hBb5 rfl (by rw[(NodT.emp_fit (pX l) (jN_lt l)).len]; decide) (LB 1000002 rfl (LQ 1900000 rfl (LW [2,5,38] rfl))),?_⟩
 refine TL (RVN 1 rfl ?_);refine EN (QS (GT (RV 2 rfl ?_)));refine RT ?_;refine RN (A.yes rfl ?_);refine GS (TF 2 (RS (ok_lit [] (NodT.v (NodT.emp 0 0)) (fun _ _=>rfl) (by kernel_rfl)) ?_));refine RVN 1 rfl ?_;refine⟨_,eff_storeA (n:=45) (s:=1000002) (size72.of (rfl)) rfl rfl (by first|exact NodT.one _|exact RecT.one _|exact EntT.one _|exact RecT.all1 _|exact EntT.all1 _|exact all_byte _|exact all_bytes _) hBb2 rfl (by first|rfl|(rw[rfl]; rfl)) (LB 1000005 rfl (LQ 1900000 rfl (LW [2,43] rfl))),?_⟩
 refine TL (RVN 1 rfl ?_);refine A.ret (End.ret_then ?_);exact End.cellV (s:=1000002) rfl U72 rfl (size72.of (rfl)) rfl rfl rfl
theorem nGet_ok(l:List UInt8)(h:geN l=0): FnM Tryz.prog 98 tabS [byt l] (.v (.tuple #[aggV (gtN l).v,.int .i64 0])):=by
 have hs:=geN_szN h
 by_cases h0:(pX l).toNat=0
 ·rw[geN_R hs h0] at h
  rw[gtN_R h0]; exact nGet_R1 l hs h0 h
 ·rw[geN_E hs h0] at h
  rw[gtN_E h0]; exact nGet_E1 l hs h0 h
theorem nGet_bad(l:List UInt8)(h:geN l≠0): FnM Tryz.prog 98 tabS [byt l] (.v (.tuple #[aggV (NodT.emp 0 0).v,.int .i64 (geN l)])):=by
 by_cases hs:szN l=0
 ·by_cases h0:(pX l).toNat=0
  ·rw[geN_R hs h0] at h ⊢; exact nGet_R0 l hs h0 h
  ·rw[geN_E hs h0] at h ⊢; exact nGet_E0 l hs h0 h
 ·rw[geN_sz hs]; exact nGet_sz l hs
section
theorem nDigest_ok(x:NodT)(hx:x.Fit)(hk:x.ck=0): FnM Tryz.prog 101 tabN [.v (aggV x.v)] (.v (.tuple #[aggV ((sha x.bl).map byteV),.int .i64 0])):=by
 refine FnM.of Tryz.func101 rfl (by kernel_rfl) Tryz.ntmps101 (by simp) (by decide) (fun w=>[(0,.v (aggV x.v)),(1900000,tab 0 (sizV)),(1900001,tab 1 (H8.list.map u32V)),(1900002,tab 2 (K64.map u32V))]) (fun w=>(StartM.v rfl (StartM.m (by simp[tabN]) (by decide) (StartM.m (by simp[tabN]) (by decide) (StartM.m (by simp[tabN]) (by decide) StartM.nil))))) fun w₀ hM=>?_
 have htab:=tabN_hi hM
 refine GS (TN 0 (RN ?_));refine ZB 1000001 rfl fun b1 ⟨hBb1,hb1⟩=>?_
 refine TN 1 (RN ?_);refine ZN 1000002 zero32 fun b2 ⟨hBb2,hb2⟩=>?_
 refine TL (RVN 1 rfl ?_);refine GT (RL 1000001 U72 rfl rfl (size72.of (hx.len)) ?_);refine RS (ok_callM (nPut_ok x hx hk) (Sub.cons rfl KN) tabS_v (A1 rfl)) ?_;refine RM rfl ?_;refine RS (ok_extract rfl rfl) ?_;refine RS (ok_extract rfl rfl) ?_;refine RVN 2 rfl ?_;refine QS (GT (RV 2 rfl ?_));refine RF ?_;refine RN (A.no rfl ?_);refine QK (GS (TF 3 (RM rfl ?_)));refine RS (ok_build [bytes x.bl (NodT.sz x.l.toNat)] U259 info23 rfl (by decide) (by decide) rfl ⟨rfl,rfl,trivial⟩ (fun d hd w x h=>by simp only[List.mem_cons,List.not_mem_nil,or_false] at hd; subst hd; exact list_one h)) ?_;refine RS (ok_callM (Of_fn [x.bl] x.bl (by simp) (Nat.le_of_ble_eq_true rfl) (by rw[hx.bl_length]; have:=sz_le x.l.toNat; omega)) (Sub.cons rfl (Sub.cons rfl KN)) tabs_v (Args.cons rfl (list_lst1 (le_byt _ _)) Args.nil)) ?_;refine RN ?_;refine⟨_,eff_storeA (n:=18) (s:=1000002) (size32.of (by rw[List.length_map,sha_length])) rfl rfl (all_bytes _) hBb2 rfl (by rw[List.length_map,sha_length]; rfl) (LV 2 rfl (LT 1000001 rfl (LQ 1900000 rfl (LQ 1900001 rfl (LQ 1900002 rfl LN))))),?_⟩
 refine TL (RVN 1 rfl ?_);refine A.ret ?_;exact End.cellV (s:=1000002) rfl U32 rfl (size32.of (by rw[List.length_map,sha_length])) rfl rfl rfl
theorem nFits_bad(m:Int)(hm:¬ (1<=m∧m<=4096))(x:NodT)(hx:x.Fit): Fn Tryz.prog 66 [.v (.int .i64 (m)),.v (aggV x.v)] (.v (.int .i64 (1))):=by
 refine FV Tryz.func66 rfl Tryz.ntmps66 rfl fun w₀=>?_
 refine GS (TN 0 (RN ?_));refine ZB 1000003 rfl fun b3 ⟨hBb3,hb3⟩=>?_
 refine TL (RVN 1 rfl ?_);refine QS (GT (RM rfl ?_));refine RS (ok_call (Check_bad m hm) (A1 rfl)) ?_;refine RVN 1 rfl ?_;refine GT (RV 2 rfl ?_);refine RT ?_;refine RN (A.yes rfl ?_);refine GV rfl (A.ret (End.ret_then ?_));exact ER rfl rfl
theorem nFits_ck(n:Nat)(h1:1<=n)(h2:n<=4096)(x:NodT)(hx:x.Fit)(hk:x.ck≠0): Fn Tryz.prog 66 [.v (nI (n)),.v (aggV x.v)] (.v (.int .i64 (x.ck))):=by
 refine FV Tryz.func66 rfl Tryz.ntmps66 rfl fun w₀=>?_
 refine GS (TN 0 (RN ?_));refine ZB 1000003 rfl fun b3 ⟨hBb3,hb3⟩=>?_
 refine TL (RVN 1 rfl ?_);refine QS (GT (RM rfl ?_));refine RS (ok_call (Check_ok n h1 h2) (A1 rfl)) ?_;refine RVN 1 rfl ?_;refine GT (RV 2 rfl ?_);refine RF ?_;refine RN (A.no rfl ?_);refine QK (QS (GT (RL 1000003 U72 rfl rfl (size72.of (hx.len)) ?_)));refine RS (ok_call (nCheck_fn x hx) (A1 rfl)) ?_;refine RVN 1 rfl ?_;refine GT (RV 2 rfl ?_);refine RZ (.bool true) (by simp[hk]) ?_;refine RN (A.yes rfl ?_);refine GV rfl (A.ret (End.ret_then ?_));exact ER rfl rfl
theorem nFits_no(n:Nat)(h1:1<=n)(h2:n<=4096)(x:NodT)(hx:x.Fit)(hk:x.ck=0)(hp:¬ IsP n x.l.toNat x.j): Fn Tryz.prog 66 [.v (nI (n)),.v (aggV x.v)] (.v (.int .i64 (17))):=by
 refine FV Tryz.func66 rfl Tryz.ntmps66 rfl fun w₀=>?_
 refine GS (TN 0 (RN ?_));refine ZB 1000003 rfl fun b3 ⟨hBb3,hb3⟩=>?_
 refine TL (RVN 1 rfl ?_);refine QS (GT (RM rfl ?_));refine RS (ok_call (Check_ok n h1 h2) (A1 rfl)) ?_;refine RVN 1 rfl ?_;refine GT (RV 2 rfl ?_);refine RF ?_;refine RN (A.no rfl ?_);refine QK (QS (GT (RL 1000003 U72 rfl rfl (size72.of (hx.len)) ?_)));refine RS (ok_call (nCheck_fn x hx) (A1 rfl)) ?_;refine RVN 1 rfl ?_;refine GT (RV 2 rfl ?_);refine RZ (.bool false) (by simp[hk]) ?_;refine RN (A.no rfl ?_);refine QK (GT (RM rfl ?_));refine Rf field72_0 ?_;refine RLV 1000003 U5 rfl rfl rfl ?_;refine RS (ok_conv U5 U3 rfl) ?_;refine RZ (nI (x.l.toNat)) (wrap_eq rfl (by have:=x.l.toNat_lt; omega)) ?_;refine Rf field72_1 ?_;refine RLV 1000003 U53 rfl rfl rfl ?_;refine RS (ok_conv U53 U3 rfl) ?_;refine RZ (nI (x.j)) (wrap_eq rfl (by have:=hx.j; omega)) ?_;refine RS (ok_call (Parts_no n h1 h2 x.l.toNat x.j hp) (A3 rfl rfl rfl)) ?_;refine RVN 5 rfl ?_;refine A.sub (Sv [3,7,8,1000003] rfl) ?_;refine QS (GT (RV 2 rfl ?_));refine RT ?_;refine RVN 14 rfl ?_;refine A.yes rfl ?_;refine GV rfl (A.ret (End.ret_then ?_));exact ER rfl rfl
theorem nFits_r(n:Nat)(h1:1<=n)(h2:n<=4096)(x:NodT)(hx:x.Fit)(hk:x.ck=0)(hl:x.l.toNat<=hg n)(hj:x.j<un n (x.l.toNat+1))(hz:¬ ∀ i,i<4-pts n x.l.toNat x.j->((x.R.drop (pts n x.l.toNat x.j)).getD i RecT.zero).Z): Fn Tryz.prog 66 [.v (nI (n)),.v (aggV x.v)] (.v (.int .i64 (17))):=by
 have hp:=pts_pos hj
 refine FV Tryz.func66 rfl Tryz.ntmps66 rfl fun w₀=>?_
 refine GS (TN 0 (RN ?_));refine ZB 1000003 rfl fun b3 ⟨hBb3,hb3⟩=>?_
 refine TL (RVN 1 rfl ?_);refine QS (GT (RM rfl ?_));refine RS (ok_call (Check_ok n h1 h2) (A1 rfl)) ?_;refine RVN 1 rfl ?_;refine GT (RV 2 rfl ?_);refine RF ?_;refine RN (A.no rfl ?_);refine QK (QS (GT (RL 1000003 U72 rfl rfl (size72.of (hx.len)) ?_)));refine RS (ok_call (nCheck_fn x hx) (A1 rfl)) ?_;refine RVN 1 rfl ?_;refine GT (RV 2 rfl ?_);refine RZ (.bool false) (by simp[hk]) ?_;refine RN (A.no rfl ?_);refine QK (GT (RM rfl ?_));refine Rf field72_0 ?_;refine RLV 1000003 U5 rfl rfl rfl ?_;refine RS (ok_conv U5 U3 rfl) ?_;refine RZ (nI (x.l.toNat)) (wrap_eq rfl (by have:=x.l.toNat_lt; omega)) ?_;refine Rf field72_1 ?_;refine RLV 1000003 U53 rfl rfl rfl ?_;refine RS (ok_conv U53 U3 rfl) ?_;refine RZ (nI (x.j)) (wrap_eq rfl (by have:=hx.j; omega)) ?_;refine RS (ok_call (Parts_ok n h1 h2 x.l.toNat x.j hl hj) (A3 rfl rfl rfl)) ?_;refine RVN 5 rfl ?_;refine A.sub (Sv [3,7,8,1000003] rfl) ?_;refine QS (GT (RV 2 rfl ?_));refine RF ?_;refine RM rfl ?_;refine RQ (ok_field field72_2 (by decide) rfl) ?_;refine RQ (ok_move rfl) ?_;refine RQ (ok_sliceN (pts n x.l.toNat x.j) 4 U67 size57 rfl (.inl ⟨_,_,rfl,rfl⟩) (.inr ⟨rfl,rfl,rfl⟩) (.inr ⟨rfl,rfl⟩) hp.2.1 (Nat.le_refl _) (Nat.le_refl _)) ?_;refine RQ (ok_callK 1000003 (allZeroR_fn b3 72 (if 4=pts n x.l.toNat x.j then 0+2 else 0+2+pts n x.l.toNat x.j*35) (4-pts n x.l.toNat x.j) (4-pts n x.l.toNat x.j) x.v (x.R.drop (pts n x.l.toNat x.j)) (by rw[List.length_drop,hx.lr]) (by omega) (fun a ha=>hx.fr a (List.mem_of_mem_drop ha)) (hx.rec_drop hp.2.1) (by rw[hx.len]; have:=hp.1; split<;>omega)) (by decide) rfl (A1 rfl)) ?_;refine RZ (.bool false) (congrArg Value.bool (decide_eq_false hz)) ?_;refine RVN 9 rfl ?_;refine A.yes rfl ?_;refine GV rfl (A.ret (End.ret_then ?_));exact ER rfl rfl
theorem nFits_e(n:Nat)(h1:1<=n)(h2:n<=4096)(x:NodT)(hx:x.Fit)(hk:x.ck=0)(hl:x.l.toNat<=hg n)(hj:x.j<un n (x.l.toNat+1))(hz:∀ i,i<4-pts n x.l.toNat x.j->((x.R.drop (pts n x.l.toNat x.j)).getD i RecT.zero).Z)(hzE:¬ ∀ i,i<4-pts n x.l.toNat x.j->((x.E.drop (pts n x.l.toNat x.j)).getD i EntT.zero).Z): Fn Tryz.prog 66 [.v (nI (n)),.v (aggV x.v)] (.v (.int .i64 (17))):=by
 have hp:=pts_pos hj
 refine FV Tryz.func66 rfl Tryz.ntmps66 rfl fun w₀=>?_
 refine GS (TN 0 (RN ?_));refine ZB 1000003 rfl fun b3 ⟨hBb3,hb3⟩=>?_
 refine TL (RVN 1 rfl ?_);refine QS (GT (RM rfl ?_));refine RS (ok_call (Check_ok n h1 h2) (A1 rfl)) ?_;refine RVN 1 rfl ?_;refine GT (RV 2 rfl ?_);refine RF ?_;refine RN (A.no rfl ?_);refine QK (QS (GT (RL 1000003 U72 rfl rfl (size72.of (hx.len)) ?_)));refine RS (ok_call (nCheck_fn x hx) (A1 rfl)) ?_;refine RVN 1 rfl ?_;refine GT (RV 2 rfl ?_);refine RZ (.bool false) (by simp[hk]) ?_;refine RN (A.no rfl ?_);refine QK (GT (RM rfl ?_));refine Rf field72_0 ?_;refine RLV 1000003 U5 rfl rfl rfl ?_;refine RS (ok_conv U5 U3 rfl) ?_;refine RZ (nI (x.l.toNat)) (wrap_eq rfl (by have:=x.l.toNat_lt; omega)) ?_;refine Rf field72_1 ?_;refine RLV 1000003 U53 rfl rfl rfl ?_;refine RS (ok_conv U53 U3 rfl) ?_;refine RZ (nI (x.j)) (wrap_eq rfl (by have:=hx.j; omega)) ?_;refine RS (ok_call (Parts_ok n h1 h2 x.l.toNat x.j hl hj) (A3 rfl rfl rfl)) ?_;refine RVN 5 rfl ?_;refine A.sub (Sv [3,7,8,1000003] rfl) ?_;refine QS (GT (RV 2 rfl ?_));refine RF ?_;refine RM rfl ?_;refine RQ (ok_field field72_2 (by decide) rfl) ?_;refine RQ (ok_move rfl) ?_;refine RQ (ok_sliceN (pts n x.l.toNat x.j) 4 U67 size57 rfl (.inl ⟨_,_,rfl,rfl⟩) (.inr ⟨rfl,rfl,rfl⟩) (.inr ⟨rfl,rfl⟩) hp.2.1 (Nat.le_refl _) (Nat.le_refl _)) ?_;refine RQ (ok_callK 1000003 (allZeroR_fn b3 72 (if 4=pts n x.l.toNat x.j then 0+2 else 0+2+pts n x.l.toNat x.j*35) (4-pts n x.l.toNat x.j) (4-pts n x.l.toNat x.j) x.v (x.R.drop (pts n x.l.toNat x.j)) (by rw[List.length_drop,hx.lr]) (by omega) (fun a ha=>hx.fr a (List.mem_of_mem_drop ha)) (hx.rec_drop hp.2.1) (by rw[hx.len]; have:=hp.1; split<;>omega)) (by decide) rfl (A1 rfl)) ?_;refine RZ (.bool true) (congrArg Value.bool (decide_eq_true hz)) ?_;refine RV 3 rfl ?_;refine RQ (ok_field field72_3 (by decide) rfl) ?_;refine RQ (ok_move rfl) ?_;refine RQ (ok_sliceN (pts n x.l.toNat x.j) 4 U70 size69 rfl (.inl ⟨_,_,rfl,rfl⟩) (.inr ⟨rfl,rfl,rfl⟩) (.inr ⟨rfl,rfl⟩) hp.2.1 (Nat.le_refl _) (Nat.le_refl _)) ?_;refine RQ (ok_callK 1000003 (allZeroE_fn b3 72 (if 4=pts n x.l.toNat x.j then 0+142 else 0+142+pts n x.l.toNat x.j*33) (4-pts n x.l.toNat x.j) (4-pts n x.l.toNat x.j) x.v (x.E.drop (pts n x.l.toNat x.j)) (by rw[List.length_drop,hx.le]) (by omega) (fun a ha=>hx.fe a (List.mem_of_mem_drop ha)) (hx.ent_drop hp.2.1) (by rw[hx.len]; have:=hp.1; split<;>omega)) (by decide) rfl (A1 rfl)) ?_;refine RZ (.bool false) (congrArg Value.bool (decide_eq_false hzE)) ?_;refine RVN 2 rfl ?_;refine A.yes rfl ?_;refine GV rfl (A.ret (End.ret_then ?_));exact ER rfl rfl
theorem nFits_ok(n:Nat)(h1:1<=n)(h2:n<=4096)(x:NodT)(hx:x.Fit)(hk:x.ck=0)(hl:x.l.toNat<=hg n)(hj:x.j<un n (x.l.toNat+1))(hz:∀ i,i<4-pts n x.l.toNat x.j->((x.R.drop (pts n x.l.toNat x.j)).getD i RecT.zero).Z)(hzE:∀ i,i<4-pts n x.l.toNat x.j->((x.E.drop (pts n x.l.toNat x.j)).getD i EntT.zero).Z): Fn Tryz.prog 66 [.v (nI (n)),.v (aggV x.v)] (.v (.int .i64 (0))):=by
 have hp:=pts_pos hj
 refine FV Tryz.func66 rfl Tryz.ntmps66 rfl fun w₀=>?_
 refine GS (TN 0 (RN ?_));refine ZB 1000003 rfl fun b3 ⟨hBb3,hb3⟩=>?_
 refine TL (RVN 1 rfl ?_);refine QS (GT (RM rfl ?_));refine RS (ok_call (Check_ok n h1 h2) (A1 rfl)) ?_;refine RVN 1 rfl ?_;refine GT (RV 2 rfl ?_);refine RF ?_;refine RN (A.no rfl ?_);refine QK (QS (GT (RL 1000003 U72 rfl rfl (size72.of (hx.len)) ?_)));refine RS (ok_call (nCheck_fn x hx) (A1 rfl)) ?_;refine RVN 1 rfl ?_;refine GT (RV 2 rfl ?_);refine RZ (.bool false) (by simp[hk]) ?_;refine RN (A.no rfl ?_);refine QK (GT (RM rfl ?_));refine Rf field72_0 ?_;refine RLV 1000003 U5 rfl rfl rfl ?_;refine RS (ok_conv U5 U3 rfl) ?_;refine RZ (nI (x.l.toNat)) (wrap_eq rfl (by have:=x.l.toNat_lt; omega)) ?_;refine Rf field72_1 ?_;refine RLV 1000003 U53 rfl rfl rfl ?_;refine RS (ok_conv U53 U3 rfl) ?_;refine RZ (nI (x.j)) (wrap_eq rfl (by have:=hx.j; omega)) ?_;refine RS (ok_call (Parts_ok n h1 h2 x.l.toNat x.j hl hj) (A3 rfl rfl rfl)) ?_;refine RVN 5 rfl ?_;refine A.sub (Sv [3,7,8,1000003] rfl) ?_;refine QS (GT (RV 2 rfl ?_));refine RF ?_;refine RM rfl ?_;refine RQ (ok_field field72_2 (by decide) rfl) ?_;refine RQ (ok_move rfl) ?_;refine RQ (ok_sliceN (pts n x.l.toNat x.j) 4 U67 size57 rfl (.inl ⟨_,_,rfl,rfl⟩) (.inr ⟨rfl,rfl,rfl⟩) (.inr ⟨rfl,rfl⟩) hp.2.1 (Nat.le_refl _) (Nat.le_refl _)) ?_;refine RQ (ok_callK 1000003 (allZeroR_fn b3 72 (if 4=pts n x.l.toNat x.j then 0+2 else 0+2+pts n x.l.toNat x.j*35) (4-pts n x.l.toNat x.j) (4-pts n x.l.toNat x.j) x.v (x.R.drop (pts n x.l.toNat x.j)) (by rw[List.length_drop,hx.lr]) (by omega) (fun a ha=>hx.fr a (List.mem_of_mem_drop ha)) (hx.rec_drop hp.2.1) (by rw[hx.len]; have:=hp.1; split<;>omega)) (by decide) rfl (A1 rfl)) ?_;refine RZ (.bool true) (congrArg Value.bool (decide_eq_true hz)) ?_;refine RV 3 rfl ?_;refine RQ (ok_field field72_3 (by decide) rfl) ?_;refine RQ (ok_move rfl) ?_;refine RQ (ok_sliceN (pts n x.l.toNat x.j) 4 U70 size69 rfl (.inl ⟨_,_,rfl,rfl⟩) (.inr ⟨rfl,rfl,rfl⟩) (.inr ⟨rfl,rfl⟩) hp.2.1 (Nat.le_refl _) (Nat.le_refl _)) ?_;refine RQ (ok_callK 1000003 (allZeroE_fn b3 72 (if 4=pts n x.l.toNat x.j then 0+142 else 0+142+pts n x.l.toNat x.j*33) (4-pts n x.l.toNat x.j) (4-pts n x.l.toNat x.j) x.v (x.E.drop (pts n x.l.toNat x.j)) (by rw[List.length_drop,hx.le]) (by omega) (fun a ha=>hx.fe a (List.mem_of_mem_drop ha)) (hx.ent_drop hp.2.1) (by rw[hx.len]; have:=hp.1; split<;>omega)) (by decide) rfl (A1 rfl)) ?_;refine RZ (.bool true) (congrArg Value.bool (decide_eq_true hzE)) ?_;refine RVN 2 rfl ?_;refine A.no rfl ?_;refine QK (GV rfl (A.ret ?_));exact ER rfl rfl
theorem nFits_fn(n:Int)(x:NodT)(hx:x.Fit): Fn Tryz.prog 66 [.v (.int .i64 (n)),.v (aggV x.v)] (.v (.int .i64 (ftN n x))):=by
 by_cases hn:1<=n∧n<=4096
 ·obtain⟨m,rfl⟩:∃ m:Nat,n=(m:Int):=⟨n.toNat,by omega⟩
  have h1:1<=m:=by omega
  have h2:m<=4096:=by omega
  by_cases hk:x.ck=0
  ·by_cases hp:IsP m x.l.toNat x.j
   ·obtain⟨hl,hj⟩:=isP_nat.1 hp
    have hb:=pts_pos hj
    by_cases hzR:∀ i,i<4-pts m x.l.toNat x.j->((x.R.drop (pts m x.l.toNat x.j)).getD i RecT.zero).Z
    ·by_cases hzE:∀ i,i<4-pts m x.l.toNat x.j->((x.E.drop (pts m x.l.toNat x.j)).getD i EntT.zero).Z
     ·rw[ft_ok h1 h2 hk hp fun i ha hb'=>⟨by have:=hzR (i-pts m x.l.toNat x.j) (by omega); rwa [drop_getD,Nat.add_sub_cancel' ha] at this,by have:=hzE (i-pts m x.l.toNat x.j) (by omega); rwa [drop_getD,Nat.add_sub_cancel' ha] at this⟩]
      exact nFits_ok m h1 h2 x hx hk hl hj hzR hzE
     ·rw[ft_part h1 h2 hk hp fun h=>hzE fun i hi=>by rw[drop_getD]; exact(h _ (by omega) (by omega)).2]
      exact nFits_e m h1 h2 x hx hk hl hj hzR hzE
    ·rw[ft_part h1 h2 hk hp fun h=>hzR fun i hi=>by rw[drop_getD]; exact(h _ (by omega) (by omega)).1]
     exact nFits_r m h1 h2 x hx hk hl hj hzR
   ·rw[ft_no h1 h2 hk hp]; exact nFits_no m h1 h2 x hx hk hp
  ·rw[ft_ck h1 h2 hk]; exact nFits_ck m h1 h2 x hx hk
 ·rw[ft_bad hn]; exact nFits_bad n hn x hx
end
section
open Go Go.RowKit Go.ChangeShapes Go.WideShapes Go.ChangeAt
theorem own': ownKnob Tryz.prog.godebug=none:=by kernel_rfl
theorem laidOut': laidOutB Tryz.prog=true:=by kernel_rfl
abbrev LAID:List (String×DataW Unit):=[("caisson/digests.constants",Rows.laid_caisson_digests_constants),("caisson/digests.initial",Rows.laid_caisson_digests_initial),("caisson/nodes.sizes",Rows.laid_caisson_nodes_sizes)]
theorem door_met(os:Os)(args:Array Value): laidMetH Tryz.prog LAID ((World.doorLaid Tryz.prog 400 os).forCall (fun _ _=>0) ⟨#[],args,[]⟩).memory :=
 laidMetH_of_parts3 (fuel:=8) (laidMet_of_run' 8 (by kernel_rfl) (by kernel_rfl)) (by kernel_rfl) (by kernel_rfl)
theorem tabs_of_laid{W:World}(h:laidMetH Tryz.prog LAID W): ∀ p∈tabN,p.2.Of W undef:=by
 rw[MakeChecks.laidMetH_plain _ _ _ (by kernel_rfl)] at h
 obtain⟨ps,hl,_,hr⟩:=h
 have hr':=fun b off hp=>(hr b off hp).1
 intro p hp
 simp only[tabN,tabs,List.mem_cons,List.not_mem_nil,or_false] at hp
 rcases hp with rfl|rfl|rfl
 ·have:=tab_of_laid hl hr' (nm:="caisson/nodes.sizes") (d:=Rows.laid_caisson_nodes_sizes) (by simp[LAID]) (g:=0) (by kernel_rfl) (T:=243) (by kernel_rfl) U243 U3 (by kernel_rfl) (by kernel_rfl) (by decide) (ns:=[185,137,137,137,137,137]) (by kernel_rfl)
  exact this
 ·have:=tab_of_laid hl hr' (nm:="caisson/digests.initial") (d:=Rows.laid_caisson_digests_initial) (by simp[LAID]) (g:=1) (by kernel_rfl) (T:=198) (by kernel_rfl) U198 U53 (by kernel_rfl) (by kernel_rfl) (by decide) (ns:=(H8.list).map fun x=>(x.toNat:Int)) (by kernel_rfl)
  rw[List.map_map] at this
  exact this
 ·have:=tab_of_laid hl hr' (nm:="caisson/digests.constants") (d:=Rows.laid_caisson_digests_constants) (by simp[LAID]) (g:=2) (by kernel_rfl) (T:=197) (by kernel_rfl) U197 U53 (by kernel_rfl) (by kernel_rfl) (by decide) (ns:=(K64).map fun x=>(x.toNat:Int)) (by kernel_rfl)
  rw[List.map_map] at this
  exact this
end
structure Us where
 key:List UInt8
 s:Nat
 c:Nat
 f:Nat
 l:Nat
deriving DecidableEq
instance:Inhabited Us:=⟨⟨[],0,0,0,0⟩⟩
def stOf (u:Us):List UInt8×Nat×Nat:=(u.key,u.s,u.c)
def Sorted (us:List Us) (L:List Nat):Prop:=L.Pairwise fun a b=>us[a]!.f<=us[b]!.f
structure Lists (us:List Us) (Ls:List (List Nat)):Prop where
 sorted:∀ L∈Ls,Sorted us L
 lt:∀ L∈Ls,∀ x∈L,x<us.length
 nodup:∀ L∈Ls,L.Nodup
 one:∀ L∈Ls,∀ x∈L,∀ y∈L,stOf us[x]! = stOf us[y]!
 all:∀ x y,x<y->y<us.length->stOf us[x]! = stOf us[y]! -> ∃ L∈Ls,x∈L∧y∈L
section
variable {κ:Cx}
def RowX (lo:Nat) (e:TypeId) (B:Nat) (w:World) (A:Option Addr) (xs:List Value):Prop :=
 ∀ (j:Nat) (u:Value),xs[j]?=some u->∃ ad,A=some ad∧lo<=ad.block∧ad.block<B∧(∃ cur fr,w.heap[ad.block]?=some (.cells cur e fr))∧w.cell? (ad.add j)=some u
theorem RowX.row{lo:Nat}{A:Option Addr}(h:RowX lo e B w A xs): RowIn B w A xs:=fun j u hu=>by
 obtain⟨ad,h1,_,h3,_,h5⟩:=h j u hu
 exact⟨ad,h1,h3,h5⟩
theorem cell_block{w':World}{a:Addr}(h:w'.heap[a.block]?=w.heap[a.block]?): w'.cell? a=w.cell? a:=by unfold World.cell?; rw[h]
theorem RowX.other{lo:Nat}{B':Nat}{w':World}{A:Option Addr}(h:RowX lo e B w A xs)(hB:B<=B')(hk:∀ b cur fr,lo<=b->b<B->w.heap[b]?=some (.cells cur e fr)->w'.heap[b]?=w.heap[b]?): RowX lo e B' w' A xs:=fun j u hu=>by
 obtain⟨ad,h1,h2,h3,⟨cur,fr,h4⟩,h5⟩:=h j u hu
 have h6:=hk ad.block cur fr h2 h3 h4
 refine⟨ad,h1,h2,by omega,⟨cur,fr,by rw[h6]; exact h4⟩,?_⟩
 have h7:w'.cell? (ad.add j)=w.cell? (ad.add j):=cell_block (by rw[block_of_add]; exact h6)
 rw[h7]; exact h5
theorem RunTK.newG{draw:Bool}{C:Env->Prop}{o:Oper}(p:Nat)(hsp:s<=p)(ho:ops[p]?=some o)(hb:draw=false∨barrier ops p=true)
  (h:RunK P B ops ((ops.toList.drop s).take (p-s)) E (fun E₁=>∃ (ι:Type) (G:ι->Prop) (E₂:ι->Env),EffG P n B ops o E₁ G E₂∧∀ i,G i->RunTK P n B ops draw C (p+1) (E₂ i))): RunTK P n B ops draw C s E:=by
 obtain⟨E₁,h1,ι,G,E₂,h2,h3⟩:=h
 exact .effG hsp ho hb h1 h2 h3
end
section
variable {κ:Cx}
section
variable {P:Program} {B:Nat} {E:Env} {dst:Option Tmp} {ty:TypeId} {pos:String} {after:Array Edge} {guard:Option (Nat×Bool)}
theorem lt_of_row{base:Nat}{v:Value}(h:w.ownsRow base e sz v n xs): ∀ g,v.ownBlock=some g->g<w.heap.size:=fun g hg=>by
 rcases h.2 with ⟨hv,_⟩|⟨g',cap,cur,hv,_,hh,_⟩
 ·rw[hv] at hg; simp[Value.ownBlock] at hg
 ·rw[hv] at hg; simp[Value.ownBlock] at hg; subst hg
  rcases Nat.lt_or_ge g' w.heap.size with h|h
  ·exact h
  ·rw[Array.getElem?_eq_none h] at hh; cases hh
theorem append_ownP{t:TypeId}{z:Value}{v x:Value}{A:Option Addr}{c:Nat}(ht:P.underlying t=some (.slice e))(hinfo:InfoP P e z sz nb)(hsz:0<sz)(hnb:nb<=64)(hz1:z.cells.size=sz)
  (hown:w.ownsRow B e sz v k xs)(hxe:x = .slice A m c)(hrow:RowIn w.heap.size w A ys)(h1:ys.all (·.oneCell')=true)(hl:ys.length=m*sz)(hk:k+m<=1099511627776)(hB:B<=w.heap.size):
  ∃ v' w',(Builtin.append_ #[t,t] ty #[v,x]).run P w = .ok v' w'∧w'.ownsRow B e sz v' (k+m) (xs++ys)∧Below B w w':=by
 obtain⟨i,hi,hz,hs,hby⟩:=hinfo.get
 subst hxe
 have hbase:∀ g,v.ownBlock=some g->B<=g:=fun g hg=>by
  rcases hown.2 with ⟨hv,_⟩|⟨g',cap,cur,hv,hb,_⟩
  ·rw[hv] at hg; simp[Value.ownBlock] at hg
  ·rw[hv] at hg; simp[Value.ownBlock] at hg; omega
 cases A with
 | none =>
  have hy:ys=[]:=by
   cases ys with
   | nil=>rfl
   | cons y ys=>obtain⟨_,h0,_⟩:=hrow 0 y rfl; cases h0
  subst hy
  have h0:m=0:=by
   have:m*sz=0:=by simpa using hl.symm
   rcases Nat.mul_eq_zero.1 this with h|h
   ·exact h
   ·omega
  subst h0
  refine⟨v,w,?_,by simpa using hown,Below.refl _ _⟩
  rcases hown.2 with ⟨hv,hn0⟩|⟨g,cap,cur,hv,_,_,hnc,_⟩
  ·rw[hv]; simp[Builtin.append_,run_underlying ht,sizeOf,typeInfo,hi,Builtin.lenOf,Builtin.firstCells]
  ·rw[hv]; simp[Builtin.append_,run_underlying ht,sizeOf,typeInfo,hi,Builtin.lenOf,Builtin.firstCells,hnc,storeCells]
 | some ad =>
  have hbb:(k+m)*i.bytes<=(k+m)*64:=Nat.mul_le_mul_left _ (by omega)
  obtain⟨v',w',h2,h3,h4,_,_⟩:=run_append_own_at (P:=P) w B t ty e i z sz i.bytes ht hi hz hs rfl hz1 hsz v k xs hown ad m c ys hl (fun j u hu=>by obtain⟨ad',h5,_,h6⟩:=hrow j u hu; injection h5 with h5; subst h5; exact h6) (fun u hu=>List.all_eq_true.1 h1 u hu) (by simp only[maxLen]; omega) (by omega) hB
  exact⟨v',w',h2,h3,(Below.refl B w).grown h4 hB hbase⟩
end
section
variable {P:Program} {n:Nat} {E:Env} {w₀:World} {c:Code} {Q:Exit->Act->World->Prop}
def UpTo (w:World) (E' E:Env):Prop:=∀ p∈E',∃ d,E.look p.1=some d∧(p.2=d∨p.2=old w.heap.size d∨∃ B₀ d₀,d=old B₀ d₀∧p.2=old w.heap.size d₀)
theorem UpTo.nil: UpTo w [] E:=fun _ h=>by cases h
theorem UpTo.same{t:Nat}(h:E.look t=some d)(hr:UpTo w E' E): UpTo w ((t,d)::E') E:=fun p hp=>by
 rcases List.mem_cons.1 hp with rfl|hp
 ·exact⟨d,h,.inl rfl⟩
 ·exact hr p hp
theorem UpTo.new{t:Nat}(h:E.look t=some d)(hr:UpTo w E' E): UpTo w ((t,old w.heap.size d)::E') E:=fun p hp=>by
 rcases List.mem_cons.1 hp with rfl|hp
 ·exact⟨d,h,.inr (.inl rfl)⟩
 ·exact hr p hp
theorem UpTo.old{t B₀:Nat}(h:E.look t=some (Go.Proofs.YtjigbkamgfidkaaGreatDoor.old B₀ d))(hr:UpTo w E' E): UpTo w ((t,Go.Proofs.YtjigbkamgfidkaaGreatDoor.old w.heap.size d)::E') E:=fun p hp=>by
 rcases List.mem_cons.1 hp with rfl|hp
 ·exact⟨_,h,.inr (.inr ⟨B₀,d,rfl,rfl⟩)⟩
 ·exact hr p hp
theorem A.raise(E':World->Env)(hE:∀ w,UpTo w (E' w) E)(h:∀ w₁,Grow w₀ w₁->A κ P w₁ n c (E' w₁) Q): A κ P w₀ n c E Q:=fun a w g hs=>by
 refine h w g a w (Below.refl _ _) ⟨Nat.le_refl _,hs.defers,hs.size,fun t d hd=>?_⟩
 obtain⟨d',hd',h1⟩:=hE w _ (look_mem hd)
 have h2:=hs.of t d' hd'
 rcases h1 with h1|h1|⟨B₀,d₀,h1,h3⟩
 ·simp only at h1; rw[h1]; exact h2
 ·simp only at h1; rw[h1]; exact⟨Nat.le_refl _,h2⟩
 ·subst h1; simp only at h3; rw[h3]; exact⟨Nat.le_refl _,D.OfB.up h2.2 h2.1⟩
end
section
variable {P:Program} {B:Nat} {E:Env}
variable {dst:Option Tmp} {ty:TypeId} {pos:String} {after:Array Edge} {guard:Option (Nat×Bool)}
theorem ok_buildG{t:TypeId}{z:Value}{ps:Array (Nat×Operand)}(us:List (Nat×Value))(ys:List Value)(ht:P.underlying t=some (.slice e))(hs:InfoP P e z sz nb)(hl:LitS E us ps.toList)
  (hfill:Instr.fill (fun j=>some (j*sz,sz)) ((Array.range (m*sz)).map (z.cells[·%z.cells.size]!)) us=some ys.toArray)(h0:m*sz<=65536)(h1:0<m*sz):
  OpOk P B ⟨dst,.buildSlice t m ps,ty,pos,after,guard⟩ E (newD B e (fun b=>.slice (some ⟨b,0,none⟩) m m) ys):=fun ρ w hB _ hρ=>by
 obtain⟨i,hi,hzv,hsize,_⟩:=hs.get
 have hp:ps.toList.map (fun p=>(p.1,ρ p.2))=us:=hl.map fun x hx v hv=>hρ x (by simpa [Op.operands] using hx) _ hv
 have hr:=run_buildSlice (P:=P) w t e m (ps.map fun(i,x)=>(i,ρ x)) ys.toArray i z ht hi hzv (by rw[hsize]; omega) (by rw[hsize]; omega) (by rw[hsize,Array.toList_map]; exact(congrArg _ hp).trans hfill)
 exact out_val (x:=.slice (some ⟨w.heap.size,0,none⟩) m m) (w':=w.alloc (.cells ys.toArray e)) (by simp[execOp,hr]) ⟨Grow.alloc w _,w.heap.size,rfl,hB,by simp,heap_alloc_new w _⟩
theorem ok_indexRD{t:TypeId}{z:Value}{x i:Operand}{f:D}{ki:IntKind}(m:Nat)(ht:P.underlying t=some (.slice e))(hs:InfoP P e z sz nb)(hx:E.at x=some f)(hf:Le f (rowD k xs))
  (hi:E.at i=some (.v (.int ki (m:Int))))(hm:m<k)(hlt:m*sz<xs.length):
  OpOk P B ⟨dst,.indexAddr t x i,ty,pos,after,guard⟩ E (elemP ((xs.drop (m*sz)).take sz)):=fun ρ w _ hv hρ=>by
 obtain⟨A,q,h1,hrow⟩:=hf.of (hρ x (by simp[Op.operands]) _ hx)
 have hi':ρ i = .int ki m:=hρ i (by simp[Op.operands]) _ hi
 obtain⟨info,hinfo,_,hsize,_⟩:=hs.get
 obtain⟨ad,hA,hab,_⟩:=hrow (m*sz) _ (List.getElem?_eq_getElem hlt)
 subst hA
 refine out_val (x:=.pointer (some (ad.add (m*sz)))) (w':=w) ?_ ⟨Grow.refl w,_,rfl,by rw[block_of_add]; omega,fun j u hu=>?_⟩
 ·simp[execOp,h1,hi',Instr.indexAt,asIntOf,run_underlying ht,sizeOf,typeInfo,hinfo,hsize,hm]
 ·rw[List.getElem?_take] at hu
  split at hu
  ·rw[List.getElem?_drop] at hu
   obtain⟨ad',hA',_,h4⟩:=hrow (m*sz+j) u hu
   injection hA' with hA'; subst hA'
   rw[add_of_add]; exact h4
  ·cases hu
theorem ok_lenRD{t:TypeId}{x:Operand}{f:D}(ht:P.underlying t=some (.slice e))(hx:E.at x=some f)(hf:Le f (rowD k xs)):
  OpOk P B ⟨dst,.call { callee:=.builtin .len,args:=#[x],argTypes:=#[t] },ty,pos,after,guard⟩ E (.v (.int .i64 (k:Int))):=fun ρ w _ _ hρ=>by
 obtain⟨A,q,h1,_⟩:=hf.of (hρ x (by simp[Op.operands,Call.operands]) _ hx)
 exact out_val (w':=w) (by simp[execOp,resolve,invoke,builtin,Builtin.len_,run_underlying ht,h1,goInt]) ⟨Grow.refl w,rfl⟩
end
end
section
variable {κ:Cx}
abbrev Con:=Option (List UInt8)
abbrev Dk:=List (List Con)
def hisC (S:Dk) (i:Nat):List Con:=S.getD i []
def lastC (h:List Con):Con:=h.headD none
def totC (S:Dk):Nat:=(S.map List.length).sum
def putC (S:Dk) (i:Nat) (c:Con):Dk:=S.set i (c::hisC S i)
def atC (h:List Con) (j:Nat):Con:=(none::h.reverse).getD j none
def cV (c:Con):List Value:=[.bool c.isSome,.string ⟨(c.getD []).toArray⟩]
def rowC (h:List Con):List Value:=(none::h.reverse).flatMap cV
def errC (c:Con):Int:=if c.isSome then 0 else 11
theorem putC_length(S:Dk)(i:Nat)(c:Con): (putC S i c).length=S.length:=by simp[putC]
theorem his_get{S:Dk}(h:i<S.length): S[i]?=some (hisC S i):=by simp[hisC,h]
theorem his_put{S:Dk}(c:Con)(h:i<S.length): hisC (putC S i c) i=c::hisC S i:=by simp[hisC,putC,h]
theorem his_put_ne{S:Dk}(c:Con)(h:i≠j): hisC (putC S i c) j=hisC S j:=by simp[hisC,putC,List.getElem?_set_ne h]
theorem his_set{S:Dk}(x:List Con)(h:i<S.length): hisC (S.set i x) i=x:=by simp[hisC,h]
theorem his_set_ne{S:Dk}(x:List Con)(h:i≠j): hisC (S.set i x) j=hisC S j:=by simp[hisC,List.getElem?_set_ne h]
theorem totC_put:∀ {S:Dk} {i:Nat} (c:Con),i<S.length->totC (putC S i c)=totC S+1
 | x::S,0,c,_=>by simp[totC,putC,hisC]; omega
 | x::S,i+1,c,h=>by
  have:=totC_put (S:=S) (i:=i) c (by simpa using h)
  simp only[totC,putC,hisC,List.getD_cons_succ,List.set_cons_succ,List.map_cons,List.sum_cons] at this ⊢
  omega
theorem his_le:∀ (S:Dk) (i:Nat),(hisC S i).length<=totC S
 | [],i=>by simp[hisC]
 | x::S,0=>by simp[hisC,totC]
 | x::S,i+1=>by
  have:=his_le S i
  simp only[totC,hisC,List.getD_cons_succ,List.map_cons,List.sum_cons] at this ⊢
  omega
theorem totC_rep(n:Nat): totC (List.replicate n [])=0:=by simp[totC]
theorem his_rep(n i:Nat): hisC (List.replicate n []) i=[]:=by
 unfold hisC
 rw[List.getD_eq_getElem?_getD,List.getElem?_replicate]
 split<;>rfl
theorem atC_drop{h:List Con}(hj:j<=h.length): atC h j=lastC (h.drop (h.length-j)):=by
 unfold atC lastC
 cases j with
 | zero=>simp
 | succ j =>
  have h1:h.length-(j+1)<h.length:=by omega
  rw[List.getD_cons_succ,List.getD_eq_getElem?_getD,List.getElem?_reverse (by omega),List.drop_eq_getElem_cons h1,List.headD_cons,List.getElem?_eq_getElem (by omega)]
  simp only[Option.getD_some]
  congr 1; omega
theorem atC_len(h:List Con): atC h h.length=lastC h:=by rw[atC_drop (Nat.le_refl _),Nat.sub_self,List.drop_zero]
theorem flatC_length(l:List Con): (l.flatMap cV).length=l.length*2:=by
 induction l with
 | nil=>rfl
 | cons c l ih=>rw[List.flatMap_cons,List.length_append,ih,List.length_cons]; simp[cV]; omega
theorem rowC_length(h:List Con): (rowC h).length=(h.length+1)*2:=by rw[rowC,flatC_length]; simp
theorem rowC_cons(c:Con)(h:List Con): rowC (c::h)=rowC h++cV c:=by
 unfold rowC
 rw[List.reverse_cons,<- List.cons_append,List.flatMap_append]
 simp
theorem flatC_at:∀ (l:List Con) (j:Nat),j<l.length->((l.flatMap cV).drop (j*2)).take 2=cV (l.getD j none)
 | c::l,0,_=>by simp[cV]
 | c::l,j+1,hj=>by
  have:=flatC_at l j (by simpa using hj)
  rw[List.flatMap_cons,List.getD_cons_succ,<- this,List.drop_append,show(cV c).length=2 from rfl,show(j+1)*2-2=j*2 by omega,List.drop_of_length_le (by simp[cV]; omega)]; rfl
theorem rowC_at{h:List Con}(hj:j<=h.length): ((rowC h).drop (j*2)).take 2=cV (atC h j):=flatC_at _ _ (by simp; omega)
theorem cV_one(c:Con): (cV c).all (·.oneCell')=true:=rfl
theorem rowC_one(h:List Con): (rowC h).all (·.oneCell')=true:=by
 unfold rowC
 rw[List.all_flatMap]
 exact List.all_eq_true.2 fun c _=>cV_one c
def Carry (Q:TypeId->Prop) (X X':Nat->Prop) (B B':Nat) (w w':World):Prop:=B<=B'∧∀ b cs e fr,¬ X b->b<B->Q e->w.heap[b]?=some (.cells cs e fr)->¬ X' b∧w'.heap[b]?=w.heap[b]?
theorem Carry.keep{Q:TypeId->Prop}{X:Nat->Prop}{w':World}(g:Below B w w'): Carry Q X X B B w w':=⟨Nat.le_refl _,fun b _ _ _ hx hb _ _=>⟨hx,g.block b hb⟩⟩
theorem Carry.up{Q:TypeId->Prop}{X:Nat->Prop}{B':Nat}(g:B<=B'): Carry Q X X B B' w w:=⟨g,fun _ _ _ _ hx _ _ _=>⟨hx,rfl⟩⟩
theorem Carry.wrote{Q:TypeId->Prop}{X:Nat->Prop}{T:Nat}{w':World}(k:Wrote B T g w w')(h:¬ Q T∨X g): Carry Q X X w.heap.size w'.heap.size w w':=⟨k.size,fun b cs e fr hx hb hq hh=>⟨hx,k.other b hb fun hbg=>by
  subst hbg
  rcases h with h|h
  ·exact h (k.row _ _ _ hh▸hq)
  ·exact hx h⟩⟩
structure DTy where
 r:TypeId
 p:TypeId
 v:TypeId
 b:TypeId
def BlkX (X:Nat->Prop) (B:Nat) (w:World) (b:Nat) (e:TypeId) (cs:List Value):Prop:=¬ X b∧b<B∧w.heap[b]?=some (.cells cs.toArray e (0,0))
theorem BlkX.carry{Q:TypeId->Prop}{X X':Nat->Prop}{B':Nat}{w':World}{cs:List Value}(h:BlkX X B w b e cs)(k:Carry Q X X' B B' w w')(hq:Q e): BlkX X' B' w' b e cs:=by
 obtain⟨h1,h2,h3⟩:=h
 obtain⟨k1,k2⟩:=k.2 b _ _ _ h1 h2 hq h3
 exact⟨k1,Nat.lt_of_lt_of_le h2 k.1,k2.trans h3⟩
theorem BlkX.cells{X X':Nat->Prop}{B':Nat}{e':TypeId}{cs cs':List Value}(h:BlkX X B w b e cs)(h':w.heap[b]?=some (.cells cs'.toArray e' (0,0))): cs=cs':=by
 have:=h.2.2.symm.trans h'
 injection this with this
 injection this with this
 simpa using this
section
variable (T:DTy) (X:Nat->Prop) (B:Nat) (w:World)
def ContAt (y:Value):Con->Prop
 | none=>y = .slice none 0 0
 | some l=>l.length<=256∧∃ b,y = .slice (some ⟨b,0,none⟩) l.length l.length∧BlkX X B w b T.b (l.map byteV)
def VersAt:Value->List Con->Prop
 | x,[]=>x = .pointer none
 | x,c::h=>∃ b y z,x = .pointer (some ⟨b,0,none⟩)∧BlkX X B w b T.v [.bool c.isSome,y,.int .i64 ((h.length+1:Nat):Int),z]∧ContAt T X B w y c∧VersAt z h
def PartAt (x:Value) (f:Nat->List Con):Prop:=∃ b cs,x = .pointer (some ⟨b,0,none⟩)∧cs.length=64∧BlkX X B w b T.p cs∧∀ j u,cs[j]?=some u->VersAt T X B w u (f j)
def PartsAt (p:Value) (S:Dk):Prop:=(S=[]∧p = .slice none 0 0)∨∃ b ps,p = .slice (some ⟨b,0,none⟩) ps.length ps.length∧ps.length=(S.length+63) / 64∧BlkX X B w b T.r ps∧∀ k u,ps[k]?=some u->PartAt T X B w u (fun j=>hisC S (64*k+j))
end
section
variable {Q:TypeId->Prop} {T:DTy} {X X':Nat->Prop} {B B':Nat} {w w':World}
theorem ContAt.carry{y:Value}{c:Con}(h:ContAt T X B w y c)(k:Carry Q X X' B B' w w')(hb:Q T.b): ContAt T X' B' w' y c:=by
 cases c with
 | none=>exact h
 | some l=>obtain⟨h0,b,h1,h2⟩:=h; exact⟨h0,b,h1,h2.carry k hb⟩
theorem VersAt.carry (k:Carry Q X X' B B' w w') (hv:Q T.v) (hb:Q T.b):∀ {x:Value} {h:List Con},VersAt T X B w x h->VersAt T X' B' w' x h
 | _,[],h=>h
 | _,_::_,⟨b,y,z,h1,h2,h3,h4⟩=>⟨b,y,z,h1,h2.carry k hv,h3.carry k hb,VersAt.carry k hv hb h4⟩
theorem PartAt.carry{x:Value}{f:Nat->List Con}(k:Carry Q X X' B B' w w')(hp:Q T.p)(hv:Q T.v)(hb:Q T.b): PartAt T X B w x f->PartAt T X' B' w' x f:=fun⟨b,cs,h1,h2,h3,h4⟩ =>
 ⟨b,cs,h1,h2,h3.carry k hp,fun j u hu=>(h4 j u hu).carry k hv hb⟩
theorem PartsAt.carry{p:Value}{S:Dk}(k:Carry Q X X' B B' w w')(hr:Q T.r)(hp:Q T.p)(hv:Q T.v)(hb:Q T.b): PartsAt T X B w p S->PartsAt T X' B' w' p S
 | .inl h=>.inl h
 | .inr ⟨b,ps,h1,h2,h3,h4⟩=>.inr ⟨b,ps,h1,h2,h3.carry k hr,fun j u hu=>(h4 j u hu).carry k hp hv hb⟩
theorem ContAt.one{y:Value}{c:Con}(h:ContAt T X B w y c): y.oneCell'=true:=by
 cases c with
 | none=>rw[show y=_ from h]; rfl
 | some l=>obtain⟨_,b,rfl,_⟩:=h; rfl
theorem VersAt.one{x:Value}{h:List Con}(hx:VersAt T X B w x h): x.oneCell'=true:=by
 cases h with
 | nil=>rw[show x=_ from hx]; rfl
 | cons c h=>obtain⟨b,_,_,rfl,_⟩:=hx; rfl
theorem PartsAt.set{bk b8 b9:Nat}{ps cs:List Value}{S:Dk}{x:Value}{h:List Con}(hP:PartsAt T X B w (.slice (some ⟨b,0,none⟩) ps.length ps.length) S)(hB:B<=B')(hb:w.heap[b]?=some (.cells ps.toArray T.r (0,0)))(hi:i<S.length)
  (hps:ps[i / 64]?=some (.pointer (some ⟨bk,0,none⟩)))(hbk:w.heap[bk]?=some (.cells cs.toArray T.p (0,0)))(h8:BlkX X B' w b8 T.r (ps.set (i / 64) (.pointer (some ⟨b9,0,none⟩))))(h9:BlkX X B' w b9 T.p (cs.set (i%64) x))(hx:VersAt T X B' w x h):
  PartsAt T X B' w (.slice (some ⟨b8,0,none⟩) ps.length ps.length) (S.set i h):=by
 have ku:Carry (fun _=>True) X X B B' w w:=Carry.up hB
 rcases hP with ⟨rfl,_⟩|⟨b',ps',h1,h2,h3,h4⟩
 ·cases hi
 injection h1 with h1 _ _
 injection h1 with h1
 injection h1 with h1 _ _
 subst h1
 obtain rfl:ps'=ps:=h3.cells (X':=X) (B':=B) hb
 refine .inr ⟨b8,ps'.set (i / 64) (.pointer (some ⟨b9,0,none⟩)),by simp,by simpa using h2,h8,fun k u hu=>?_⟩
 have hk:k<ps'.length:=by have:=(List.getElem?_eq_some_iff.1 hu).1; simpa using this
 by_cases hki:i / 64=k
 ·subst hki
  rw[List.getElem?_set_self hk] at hu
  injection hu with hu; subst hu
  obtain⟨bk',cs',k1,k2,k3,k4⟩:=h4 _ _ hps
  injection k1 with k1; injection k1 with k1; injection k1 with k1 _ _
  subst k1
  obtain rfl:cs'=cs:=k3.cells (X':=X) (B':=B) hbk
  refine⟨b9,_,rfl,by simpa using k2,h9,fun j u hj=>?_⟩
  have hjl:j<64:=by have:=(List.getElem?_eq_some_iff.1 hj).1; simpa [k2] using this
  by_cases hji:i%64=j
  ·subst hji
   rw[List.getElem?_set_self (by omega)] at hj
   injection hj with hj; subst hj
   show VersAt T X B' w x (hisC (S.set i h) (64*(i / 64)+i%64))
   rw[show 64*(i / 64)+i%64=i from by omega,his_set _ hi]
   exact hx
  ·rw[List.getElem?_set_ne hji] at hj
   show VersAt T X B' w u (hisC (S.set i h) (64*(i / 64)+j))
   rw[his_set_ne _ (by omega)]
   exact(k4 j u hj).carry ku trivial trivial
 ·rw[List.getElem?_set_ne hki] at hu
  obtain⟨bk',cs',k1,k2,k3,k4⟩:=(h4 k u hu).carry ku trivial trivial trivial
  refine⟨bk',cs',k1,k2,k3,fun j u hj=>?_⟩
  have hjl:j<64:=by have:=(List.getElem?_eq_some_iff.1 hj).1; omega
  show VersAt T X B' w u (hisC (S.set i h) (64*k+j))
  rw[his_set_ne _ (by omega)]
  exact k4 j u hj
end
section
variable (T:DTy) (X:Nat->Prop)
def contyD (c:Con):D:=.p (fun B w y=>ContAt T X B w y c) (fun _ _ _ _ g h=>h.carry (Carry.keep (Q:=fun _=>True) g) trivial) (fun _ _ _ _ g h=>h.carry (Carry.up (Q:=fun _=>True) g) trivial)
def versD (h:List Con):D:=.p (fun B w x=>VersAt T X B w x h) (fun _ _ _ _ g h=>h.carry (Carry.keep (Q:=fun _=>True) g) trivial trivial) (fun _ _ _ _ g h=>h.carry (Carry.up (Q:=fun _=>True) g) trivial trivial)
def partsD' (S:Dk):D:=.p (fun B w p=>(∀ b,X b->b<B)∧PartsAt T X B w p S) (fun _ _ _ _ g h=>⟨h.1,h.2.carry (Carry.keep (Q:=fun _=>True) g) trivial trivial trivial trivial⟩) (fun _ _ _ _ g h=>⟨fun b hb=>Nat.lt_of_lt_of_le (h.1 b hb) g,h.2.carry (Carry.up (Q:=fun _=>True) g) trivial trivial trivial trivial⟩)
end
def conD (lo:Nat) (e:TypeId) (c:Con):D :=
 .p (fun B w x=>match c with
   | none=>x = .slice none 0 0
   | some l=>l.length<=256∧∃ b,x = .slice (some ⟨b,0,none⟩) l.length l.length∧lo<=b∧b<B∧w.heap[b]?=some (.cells (l.map byteV).toArray e (0,0)))
  (fun _ _ _ _ g h=>by
   cases c with
   | none=>exact h
   | some l=>obtain⟨h0,b,h1,h2,h3,h4⟩:=h; exact⟨h0,b,h1,h2,h3,(g.block b h3).trans h4⟩)
  (fun _ _ _ _ g h=>by
   cases c with
   | none=>exact h
   | some l=>obtain⟨h0,b,h1,h2,h3,h4⟩:=h; exact⟨h0,b,h1,h2,Nat.lt_of_lt_of_le h3 g,h4⟩)
theorem conD_mono{c:Con}(B B':Nat)(h:B<=B'): Le (conD B' e c) (conD B e c):=fun B0 w x hx=>by
 cases c with
 | none=>exact hx
 | some l=>obtain⟨h0,b,h1,h2,h3,h4⟩:=hx; exact⟨h0,b,h1,Nat.le_trans h h2,h3,h4⟩
theorem Surv.conty{e:Nat}{T:DTy}{X:Nat->Prop}{c:Con}(h:e≠T.b∨X g): Surv B e g (contyD T X c):=fun w w' x k hx=>ContAt.carry (Q:=fun a=>a=T.b) hx (Carry.wrote k h) rfl
theorem Surv.vers{e:Nat}{T:DTy}{X:Nat->Prop}{h:List Con}(hq:(e≠T.v∧e≠T.b)∨X g): Surv B e g (versD T X h):=fun w w' x k hx =>
 VersAt.carry (Q:=fun a=>a=T.v∨a=T.b) (Carry.wrote k (hq.imp (fun h=>by rintro (h'|h'); exact h.1 h'; exact h.2 h') id)) (.inl rfl) (.inr rfl) hx
theorem Surv.parts{e:Nat}{T:DTy}{X:Nat->Prop}{S:Dk}(hq:(e≠T.r∧e≠T.p∧e≠T.v∧e≠T.b)∨X g): Surv B e g (partsD' T X S):=fun w w' x k hx =>
 ⟨fun b hb=>Nat.lt_of_lt_of_le (hx.1 b hb) k.size,PartsAt.carry (Q:=fun a=>a=T.r∨a=T.p∨a=T.v∨a=T.b) (Carry.wrote k (hq.imp (fun h=>by rintro (h'|h'|h'|h'); exact h.1 h'; exact h.2.1 h'; exact h.2.2.1 h'; exact h.2.2.2 h') id)) (.inl rfl) (.inr (.inl rfl)) (.inr (.inr (.inl rfl))) (.inr (.inr (.inr rfl))) hx.2⟩
def tlD (pre:List Value) (f:D):D :=
 .p (fun B w x=>∃ v:Value,v.oneCell'=true∧x=aggV (pre++[v])∧f.OfB B w v) (fun _ _ _ _ g ⟨v,h1,h2,h3⟩=>⟨v,h1,h2,h3.keep g⟩) (fun _ _ _ _ g ⟨v,h1,h2,h3⟩=>⟨v,h1,h2,h3.up g⟩)
theorem tl_le{f f':D}{pre:List Value}(h:Le f f'): Le (tlD pre f) (tlD pre f'):=fun _ _ _ ⟨v,h1,h2,h3⟩=>⟨v,h1,h2,h _ _ _ h3⟩
theorem Surv.tl{e:Nat}{f:D}{pre:List Value}(h:Surv B e g f): Surv B e g (tlD pre f):=fun w w' _ k ⟨v,h1,h2,h3⟩=>⟨v,h1,h2,h w w' v k h3⟩
def Agg (m:Nat) (d:D):Prop:=∀ B w x,d.OfB B w x->∃ cs:List Value,x=aggV cs∧cs.length=m∧cs.all (·.oneCell')=true
theorem Agg.tl{f:D}{pre:List Value}(h1:pre.all (·.oneCell')=true)(hm:pre.length+1=m): Agg m (tlD pre f):=fun B w x ⟨v,hv,hx,_⟩=>⟨_,hx,by simpa using hm,by rw[List.all_append,h1]; simp[hv]⟩
def contD (T:DTy) (X:Nat->Prop) (c:Con):D:=tlD [.bool c.isSome] (contyD T X c)
def diskD (T:DTy) (X:Nat->Prop) (S:Dk):D:=tlD [nI S.length,nI (totC S)] (partsD' T X S)
def dszD (n:Nat):D:=.p (fun _ _ x=>∃ c p:Value,c.oneCell'=true∧p.oneCell'=true∧x=aggV [nI n,c,p]) (fun _ _ _ _ _ h=>h) (fun _ _ _ _ _ h=>h)
theorem Agg.disk{T:DTy}{X:Nat->Prop}{S:Dk}: Agg 3 (diskD T X S):=Agg.tl rfl rfl
theorem Agg.cont{T:DTy}{X:Nat->Prop}{c:Con}: Agg 2 (contD T X c):=Agg.tl rfl rfl
theorem disk_sz{T:DTy}{X:Nat->Prop}{S:Dk}: Le (diskD T X S) (dszD S.length):=fun B w x ⟨v,h1,h2,_⟩=>⟨_,v,rfl,h1,h2⟩
abbrev X0:Nat->Prop:=fun _=>False
theorem zero_cont{T:DTy}{X:Nat->Prop}: Le (.v (aggV [.bool false,.slice none 0 0])) (contD T X none):=fun _ _ x h=>⟨_,rfl,h,rfl⟩
theorem Surv.disk{e:Nat}{T:DTy}{X:Nat->Prop}{S:Dk}(hq:(e≠T.r∧e≠T.p∧e≠T.v∧e≠T.b)∨X g): Surv B e g (diskD T X S):=Surv.tl (Surv.parts hq)
section
variable {P:Program} {w₀:World} {n:Nat} {c:Code} {E:Env} {Q:Exit->Act->World->Prop}
theorem A.nameTl{t B':Nat}{f:D}{pre:List Value}(ht:E.look t=some (old B' (tlD pre f)))(h:∀ v:Value,v.oneCell'=true->A κ P w₀ n c ((t,.v (aggV (pre++[v])))::(k,old B' (valM v f))::E) Q): A κ P w₀ n c E Q:=fun a w g hs=>by
 obtain⟨hB,v,h1,h2,h3⟩:=hs.of t _ ht
 exact h v h1 a w g ((hs.push (t:=k) (d:=old B' (valM v f)) ⟨hB,h3⟩).push (d:=.v _) h2)
theorem A.nameP{t:Nat}(ht:E.look t=some d)(h1:∀ w x,d.Of w x->x.oneCell'=true)(h:∀ v:Value,v.oneCell'=true->A κ P w₀ n c ((t,.v v)::(k,valM v d)::E) Q): A κ P w₀ n c E Q:=fun a w g hs=>by
 have hd:=hs.of t _ ht
 exact h _ (h1 _ _ hd) a w g ((hs.push (t:=k) (d:=valM (a.tmps.getD t undef) d) hd).push (d:=.v _) rfl)
theorem A.know{p:Prop}(hk:E.look k=some d)(hp:∀ B w x,d.OfB B w x->p)(h:p->A κ P w₀ n c E Q): A κ P w₀ n c E Q:=fun a w g hs=>h (hp _ _ _ (hs.of k _ hk)) a w g hs
theorem A.openDk{t k1 k2 k3:Nat}{T:DTy}{X:Nat->Prop}{S:Dk}(ht:E.look t=some (old w₀.heap.size (diskD T X S)))(hi:i<S.length)
  (h:∀ b ps bk cs v,b<w₀.heap.size->bk<w₀.heap.size->ps.length=(S.length+63) / 64->ps[i / 64]?=some (.pointer (some ⟨bk,0,none⟩))->cs.length=64->cs[i%64]?=some v->v.oneCell'=true->ps.all (·.oneCell')=true->cs.all (·.oneCell')=true ->
   A κ P w₀ n c ((t,.v (aggV [nI S.length,nI (totC S),.slice (some ⟨b,0,none⟩) ps.length ps.length]))::(k,old w₀.heap.size (valM (.slice (some ⟨b,0,none⟩) ps.length ps.length) (partsD' T X S)))::(k1,blk b T.r ps)::(k2,blk bk T.p cs)::(k3,old w₀.heap.size (valM v (versD T X (hisC S i))))::E) Q): A κ P w₀ n c E Q:=fun a w g hs=>by
 obtain⟨hB,p,h1,h2,h3,h4⟩:=hs.of t _ ht
 have h4':=h4
 rcases h4' with ⟨rfl,_⟩|⟨b,ps,rfl,h5,h6,h7⟩
 ·cases hi
 have hk:i / 64<ps.length:=by omega
 obtain⟨bk,cs,k1',k2',k3',k4'⟩:=h7 (i / 64) _ (List.getElem?_eq_getElem hk)
 have hj:i%64<cs.length:=by omega
 have hv:VersAt T X w₀.heap.size w cs[i%64] (hisC S (64*(i / 64)+i%64)):=k4' (i%64) _ (List.getElem?_eq_getElem hj)
 rw[show 64*(i / 64)+i%64=i from by omega] at hv
 refine h b ps bk cs cs[i%64] h6.2.1 k3'.2.1 h5 (by rw[List.getElem?_eq_getElem hk,k1']) k2' (List.getElem?_eq_getElem hj) hv.one (List.all_eq_true.2 fun u hu=>by
  obtain⟨k,hk,rfl⟩:=List.getElem_of_mem hu
  obtain⟨_,_,h9,_⟩:=h7 k _ (List.getElem?_eq_getElem hk)
  rw[h9]; rfl) (List.all_eq_true.2 fun u hu=>by
  obtain⟨k,hk,rfl⟩:=List.getElem_of_mem hu
  exact(k4' k _ (List.getElem?_eq_getElem hk)).one) a w g ?_
 exact((((hs.push (t:=k3) (d:=old w₀.heap.size (valM _ (versD T X (hisC S i)))) ⟨hB,hv⟩).push (t:=k2) (d:=blk bk T.p cs) ⟨Nat.lt_of_lt_of_le k3'.2.1 hB,k3'.2.2⟩).push (t:=k1) (d:=blk b T.r ps) ⟨Nat.lt_of_lt_of_le h6.2.1 hB,h6.2.2⟩).push (t:=k) (d:=old w₀.heap.size (valM _ (partsD' T X S))) ⟨hB,h3,h4⟩).push (d:=.v _) h2
end
section
variable {P:Program} {B:Nat} {E:Env} {o:Oper}
theorem OpOk.tlO{v:Value}{f:D}{B':Nat}(pre:List Value){cs:List Value}(h:OpOk P B o E (.v (aggV cs)))(hcs:cs=pre++[v])(hv1:v.oneCell'=true)(hk:vbase<=k)(hl:E.look k=some (old B' (valM v f))): OpOk P B o E (old B' (tlD pre f)):=fun ρ w hB hv hρ=>by
 refine(h ρ w hB hv hρ).mono fun x w' hx=>⟨hx.1,?_⟩
 have h2:(old B' (valM v f)).Of w' undef:=D.Of.grow (hv k _ hk hl) hx.1
 rw[show x=_ from hx.2,hcs]
 exact⟨h2.1,v,hv1,rfl,h2.2⟩
theorem OpOk.tlP{v:Value}{f:D}(pre:List Value){cs:List Value}(h:OpOk P B o E (.v (aggV cs)))(hcs:cs=pre++[v])(hv1:v.oneCell'=true)(hk:vbase<=k)(hl:E.look k=some (valM v f)): OpOk P B o E (tlD pre f):=fun ρ w hB hv hρ=>by
 refine(h ρ w hB hv hρ).mono fun x w' hx=>⟨hx.1,?_⟩
 have h2:(valM v f).Of w' undef:=D.Of.grow (hv k _ hk hl) hx.1
 rw[show x=_ from hx.2,hcs]
 exact⟨v,hv1,rfl,h2⟩
end
def ptrK (m:Nat) (d:D):D :=
 .p (fun B w x=>∃ (ad:Addr) (cs:List Value),x = .pointer (some ad)∧ad.block<B∧cs.length=m∧(∀ (j:Nat) (u:Value),cs[j]?=some u->w.cell? (ad.add j)=some u)∧d.OfB B w (aggV cs))
  (fun _ _ _ _ g ⟨ad,cs,h1,h2,h3,h4,h5⟩=>⟨ad,cs,h1,h2,h3,fun j u hu=>(g.cell (by rw[block_of_add]; exact h2)).trans (h4 j u hu),h5.keep g⟩) (fun _ _ _ _ g ⟨ad,cs,h1,h2,h3,h4,h5⟩=>⟨ad,cs,h1,by omega,h3,h4,h5.up g⟩)
section
variable {P:Program} {B:Nat} {E:Env} {dst:Option Tmp} {ty:TypeId} {pos:String} {after:Array Edge} {guard:Option (Nat×Bool)}
theorem run_load_agg{T:TypeId}{ad:Addr}{cs:List Value}(ht:P.underlying T=some td)(hp:(match td with | .struct _ | .array _ _=>true|_=>false)=true)(hsz:SizeIs P T cs.length)(h3:∀ (j:Nat) (u:Value),cs[j]?=some u->w.cell? (ad.add j)=some u):
  (Instr.loadAt T (.pointer (some ad))).run P w = .ok (aggV cs) w:=by
 have hagg:(isAgg T).run P w = .ok true w:=by
  unfold isAgg
  simp only[Sem.run_bind,run_underlying ht,Result.andThen_ok]
  cases td<;>simp_all
 have hc:=run_loadCells_list (P:=P) w ad cs h3
 obtain⟨info,hinfo,hs⟩:=hsz.get
 simp[Instr.loadAt,Instr.sureAddr,loadVar,hagg,sizeOf,typeInfo,hinfo,hs,hc,aggV]
theorem ok_loadK{T:TypeId}{x:Operand}{f:D}(ht:P.underlying T=some td)(hp:(match td with | .struct _ | .array _ _=>true|_=>false)=true)(hsz:SizeIs P T m)(hx:E.at x=some f)(hf:Le f (ptrK m d)):
  OpOk P B ⟨dst,.load T x,ty,pos,after,guard⟩ E d:=fun ρ w _ _ hρ=>by
 obtain⟨ad,cs,h1,h2,h3,h4,h5⟩:=hf.of (hρ x (by simp[Op.operands]) _ hx)
 exact out_val (x:=aggV cs) (w':=w) (by simp[execOp,h1,run_load_agg ht hp (hsz.of h3) h4]) ⟨Grow.refl w,h5⟩
theorem ok_eqNilV{t t' u:TypeId}{x:Operand}{T:DTy}{X:Nat->Prop}{h:List Con}{f:D}(ht:P.underlying t=some (.pointer u))(hm:P.eqGuardType P.depth t=false)(hx:E.at x=some f)(hf:Le f (versD T X h)):
  OpOk P B ⟨dst,.binOp .eql t x (.const (.pointer none)) t',ty,pos,after,guard⟩ E (.v (.bool h.isEmpty)):=fun ρ w _ hv hρ=>by
 have h1:=hf.of (hρ x (by simp[Op.operands]) _ hx)
 have h0:ρ (.const (.pointer none)) = .pointer none:=hρ (.const (.pointer none)) (by simp[Op.operands]) _ rfl
 have h2:(Op.equalIn 10000 t (ρ x) (.pointer none)).run P w = .ok h.isEmpty w:=by
  rw[show 10000=9999+1 from rfl,Op.equalIn]
  cases h with
  | nil=>rw[show ρ x = .pointer none from h1]; simp[run_underlying ht]
  | cons c h=>obtain⟨b,_,_,hp,_⟩:=h1; rw[hp]; simp[run_underlying ht]
 have h3:(eqGuard .eql t x (.const (.pointer none)) (ρ x) (.pointer none)).run P w = .ok () w:=by
  cases h with
  | nil=>rw[show ρ x = .pointer none from h1]; simp[eqGuard]
  | cons c h=>obtain⟨b,_,_,hp,_⟩:=h1; rw[hp]; simp[eqGuard]
 have h4:(binOp .eql t (ρ x) (.pointer none)).run P w = .ok (.bool h.isEmpty) w:=by
  cases h with
  | nil=>rw[show ρ x = .pointer none from h1] at h2 ⊢; simp only[binOp,Op.equal,Op.maxDepth,Sem.run_bind,h2,Result.andThen_ok,Sem.run_pure]
  | cons c h=>obtain⟨b,_,_,hp,_⟩:=h1; rw[hp] at h2 ⊢; simp only[binOp,Op.equal,Op.maxDepth,Sem.run_bind,h2,Result.andThen_ok,Sem.run_pure]
 exact out_val (w':=w) (by simp[execOp,h0,h3,h4]) ⟨Grow.refl w,rfl⟩
theorem ok_nilV{x:Operand}{T:DTy}{X:Nat->Prop}{c:Con}{h:List Con}{f:D}(hx:E.at x=some f)(hf:Le f (versD T X (c::h))): OpOk P B ⟨dst,.nilCheck x,ty,pos,after,guard⟩ E (versD T X (c::h)):=fun ρ w _ _ hρ=>by
 have h1:=hf.of (hρ x (by simp[Op.operands]) _ hx)
 obtain⟨b,_,_,hp,_⟩:=id h1
 exact out_val (x:=ρ x) (w':=w) (by rw[hp]; simp[execOp,hp]) ⟨Grow.refl w,h1⟩
theorem run_field{T:TypeId}{off:Nat}{ad:Addr}(hf:FieldIs P T i off m)(hm:0<m): (Instr.fieldAt T (.pointer (some ad)) i).run P w = .ok (.pointer (some (ad.add off))) w:=by
 unfold FieldIs at hf
 cases hu:P.underlying T with
 | none=>rw[hu] at hf; cases hf
 | some d =>
  rw[hu] at hf
  cases d with
  | struct fs =>
   simp only[Option.bind_some] at hf
   cases hfi:fs[i]? with
   | none=>rw[hfi] at hf; cases hf
   | some f =>
    rw[hfi] at hf
    simp only[Option.bind_some] at hf
    cases hi:P.info? f.type with
    | none=>rw[hi] at hf; cases hf
    | some inf =>
     rw[hi] at hf
     simp only[Option.map_some,Option.some.injEq,Prod.mk.injEq] at hf
     obtain⟨h2,h3⟩:=hf
     have:¬ inf.size=0:=by omega
     simp[Instr.fieldAt,run_underlying hu,hfi,Instr.sureAddr,fieldPlace,sizeOf,typeInfo,hi,this,h2]
  | _=>simp at hf
theorem cell_at{cs:List Value}{u:Value}(hh:w.heap[b]?=some (.cells cs.toArray e (0,0)))(hu:cs[j]?=some u): w.cell? ⟨b,j,none⟩=some u:=by simp[World.cell?,hh,hu]
theorem ok_versCount{U:TypeId}{x:Operand}{T:DTy}{X:Nat->Prop}{c:Con}{h:List Con}{f:D}(hF:FieldIs P U 1 2 1)(hx:E.at x=some f)(hf:Le f (versD T X (c::h))): OpOk P B ⟨dst,.fieldAddr U x 1,ty,pos,after,guard⟩ E (elem (.v (nI (h.length+1)))):=fun ρ w _ _ hρ=>by
 obtain⟨b,y,z,hp,h2,_,h4⟩:=hf.of (hρ x (by simp[Op.operands]) _ hx)
 exact out_val (x:=.pointer (some ((⟨b,0,none⟩:Addr).add 2))) (w':=w) (by simp[execOp,hp,run_field hF (by decide)]) ⟨Grow.refl w,_,_,rfl,by rw[block_of_add]; exact h2.2.1,by rw[add_lit0]; exact cell_at h2.2.2 rfl,rfl⟩
theorem ok_versContent{U:TypeId}{x:Operand}{T:DTy}{X:Nat->Prop}{c:Con}{h:List Con}{f:D}(hF:FieldIs P U 0 0 2)(hx:E.at x=some f)(hf:Le f (versD T X (c::h))): OpOk P B ⟨dst,.fieldAddr U x 0,ty,pos,after,guard⟩ E (ptrK 2 (contD T X c)):=fun ρ w _ _ hρ=>by
 obtain⟨b,y,z,hp,h2,h3,h4⟩:=hf.of (hρ x (by simp[Op.operands]) _ hx)
 refine out_val (x:=.pointer (some ((⟨b,0,none⟩:Addr).add 0))) (w':=w) (by simp[execOp,hp,run_field hF (by decide)]) ⟨Grow.refl w,_,[.bool c.isSome,y],rfl,h2.2.1,rfl,fun j u hu=>?_,y,h3.one,rfl,h3⟩
 rw[add_of_add,add_lit0]
 match j,hu with
 | 0,hu=>injection hu with hu; subst hu; exact cell_at h2.2.2 rfl
 | 1,hu=>injection hu with hu; subst hu; exact cell_at h2.2.2 rfl
 | j+2,hu=>simp at hu
end
def varK (b:Nat) (T:TypeId) (m:Nat) (d:D):D :=
 .p (fun B w _=>b<B∧∃ cs:List Value,cs.length=m∧cs.all (·.oneCell')=true∧w.heap[b]?=some (.cells cs.toArray T (0,0))∧d.OfB B w (aggV cs))
  (fun _ _ _ _ g ⟨h1,cs,h2,h3,h4,h5⟩=>⟨h1,cs,h2,h3,(g.block b h1).trans h4,h5.keep g⟩) (fun _ _ _ _ g ⟨h1,cs,h2,h3,h4,h5⟩=>⟨by omega,cs,h2,h3,h4,h5.up g⟩)
theorem Surv.varK{e:Nat}{T:TypeId}(h:b≠g)(hd:Surv B e g d): Surv B e g (Go.Proofs.YtjigbkamgfidkaaGreatDoor.varK b T m d):=fun w w' _ k ⟨h1,cs,h2,h3,h4,h5⟩=>⟨Nat.lt_of_lt_of_le h1 k.size,cs,h2,h3,(k.other b h1 h).trans h4,hd _ _ _ k h5⟩
theorem Surv.varKT{e:Nat}{T:TypeId}(h:T≠e)(hd:Surv B e g d): Surv B e g (Go.Proofs.YtjigbkamgfidkaaGreatDoor.varK b T m d):=fun w w' x k hx=>by
 obtain⟨h1,cs,h2,h3,h4,h5⟩:=id hx
 exact Surv.varK (fun hb=>h (by subst hb; exact k.row _ _ _ h4)) hd w w' x k hx
def NewK (B:Nat) (E:Env) (b:Nat):Prop:=B<=b∧(∀ s b' e xs,E.look s=some (blk b' e xs)->b'<b)∧∀ s b' e m d,E.look s=some (varK b' e m d)->b'<b
section
variable {P:Program} {n B:Nat} {ops:Array Oper} {E:Env} {ty:TypeId} {pos:String} {after:Array Edge}
theorem eff_allocV{T:TypeId}{zs:List Value}{d:Nat}(hz:ZeroIs P T zs)(hdn:d<n):
  EffG P n B ops ⟨some d,.alloc T,ty,pos,after,none⟩ E (NewK B E) (fun b=>(d,.v (.pointer (some ⟨b,0,none⟩)))::(k,blk b T zs)::E):=by
 intro κ a w K Q h hK
 obtain⟨i,z,hi,hz,hc⟩:=hz.get
 have hrun:(execOp a.eval ⟨some d,.alloc T,ty,pos,after,none⟩).run P w = .ok (.value (.pointer (some ⟨w.heap.size,0,none⟩))) (w.alloc (.cells zs.toArray T)):=by
  simp[execOp,Instr.alloc,zeroValue,typeInfo,hi,hz,newVar,newRow,hc]
 rw[if_pos (by simp[Region.wanted])]
 refine opR (not_defer hrun) ?_
 unfold Oper.wp
 rw[hrun,Oper.upon_value]
 refine hK w.heap.size _ _ ⟨h.base,fun s b' e ys hs=>(h.of s _ hs).1,fun s b' e m d hs=>(h.of s _ hs).1⟩ ((Below.refl B w).alloc h.base _) (St.put ?_ hdn rfl)
 exact(h.grow (Grow.alloc w (.cells zs.toArray T))).push (t:=k) (d:=blk w.heap.size T zs) ⟨by simp,heap_alloc_new w _⟩
theorem store_varK{T:TypeId}{p x:Operand}{dv:D}(hsz:SizeIs P T m)(hp:E.at p=some (.v (.pointer (some ⟨b,0,none⟩))))(hx:E.at x=some dv)(hle:Le dv d)(hag:Agg m d)(hb:B<=b)
  (hblk:∀ (κ:Cx) a w,St κ n B E a w->b<w.heap.size∧∃ zs:List Value,zs.length=m∧w.heap[b]?=some (.cells zs.toArray e (0,0)))(hs:Surv B e b d)(hl:LeftS B e b E' E): Eff P n B ops ⟨none,.store T p x,ty,pos,after,none⟩ E ((s,varK b e m d)::E'):=by
 intro κ a w K Q h hK
 have hp':a.eval p=_:=h.at_ p _ hp
 have hd:=hle.of (h.at_ x _ hx)
 obtain⟨cs,hx',hm,h1⟩:=hag _ _ _ hd
 obtain⟨hlt,zs,hz,hh⟩:=hblk κ a w h
 have hrun:(execOp a.eval ⟨none,.store T p x,ty,pos,after,none⟩).run P w = .ok .skip (w.setRow b cs.toArray):=by
  have:=run_storeVar_row (P:=P) w b e T zs.toArray cs.toArray hh (by simpa [SizeIs,hm] using hsz) (by simpa [hm] using hz) (by simpa using h1)
  simp[execOp,hp',hx',Instr.storeAt,Instr.sureAddr,aggV,this]
 rw[if_pos (by simp[Region.wanted])]
 refine opR (by nofun) ?_
 unfold Oper.wp
 rw[hrun,Oper.upon_skip]
 have hwr:=Wrote.setRow hb hh cs.toArray
 rw[hx'] at hd
 exact hK _ _ (hwr.below h.base) ((hl.st h hwr).push (d:=varK b e m d) ⟨by simpa using hlt,cs,hm,h1,setRow_heap w b _ _ e _ hh,hs _ _ _ hwr hd⟩)
theorem eff_storeK{T:TypeId}{p x:Operand}{zs:List Value}{dv:D}(hsz:SizeIs P T m)(hp:E.at p=some (.v (.pointer (some ⟨b,0,none⟩))))(hx:E.at x=some dv)(hle:Le dv d)(hag:Agg m d)(hb:B<=b)
  (hblk:E.look s=some (blk b e zs))(hz:zs.length=m)(hs:Surv B e b d)(hl:LeftS B e b E' E): Eff P n B ops ⟨none,.store T p x,ty,pos,after,none⟩ E ((s,varK b e m d)::E') :=
 store_varK hsz hp hx hle hag hb (fun κ a w h=>⟨(h.of s _ hblk).1,zs,hz,(h.of s _ hblk).2⟩) hs hl
theorem eff_storeKK{T:TypeId}{p x:Operand}{d₀ dv:D}(hsz:SizeIs P T m)(hp:E.at p=some (.v (.pointer (some ⟨b,0,none⟩))))(hx:E.at x=some dv)(hle:Le dv d)(hag:Agg m d)(hb:B<=b)
  (hblk:E.look s=some (varK b e m d₀))(hs:Surv B e b d)(hl:LeftS B e b E' E): Eff P n B ops ⟨none,.store T p x,ty,pos,after,none⟩ E ((s,varK b e m d)::E') :=
 store_varK hsz hp hx hle hag hb (fun κ a w h=>by obtain⟨h1,zs,h2,_,h3,_⟩:=h.of s _ hblk; exact⟨h1,zs,h2,h3⟩) hs hl
end
section
variable {P:Program} {B:Nat} {E:Env} {dst:Option Tmp} {ty:TypeId} {pos:String} {after:Array Edge} {guard:Option (Nat×Bool)}
theorem ok_loadVK{T:TypeId}{x:Operand}(hsl:vbase<=s)(ht:P.underlying T=some td)(hp:(match td with | .struct _ | .array _ _=>true|_=>false)=true)(hsz:SizeIs P T m)
  (hx:E.at x=some (.v (.pointer (some ⟨b,0,none⟩))))(hblk:E.look s=some (varK b e m d)): OpOk P B ⟨dst,.load T x,ty,pos,after,guard⟩ E d:=fun ρ w _ hv hρ=>by
 have h1:ρ x=_:=hρ x (by simp[Op.operands]) _ hx
 obtain⟨hlt,cs,h2,h3,hh,h5⟩:=hv s _ hsl hblk
 exact out_val (x:=aggV cs) (w':=w) (by simp[execOp,h1,Instr.loadAt,Instr.sureAddr,load_cell (xs:=cs) ht hp (hsz.of h2) hh]) ⟨Grow.refl w,h5⟩
end
section
variable {P:Program} {w₀:World} {n:Nat} {c:Code} {E:Env} {Q:Exit->Act->World->Prop}
theorem A.lower{w₁:World}(hg:Grow w₀ w₁)(h:A κ P w₀ n c E Q): A κ P w₁ n c E Q:=fun a w g hs=>h a w (Grow.trans hg g) ⟨Nat.le_trans hg.size hs.base,hs.defers,hs.size,hs.of⟩
def ToEnv (κ:Cx) (w₀:World) (n:Nat) (E₂:Env) (a:Act) (w:World):Prop:=Below w₀.heap.size w₀ w∧St κ n w₀.heap.size E₂ a w
theorem End.toEnv{E₂:Env}(h:SubL E₂ E): End κ w₀ n E (ToEnv κ w₀ n E₂):=fun _ _ g hs=>⟨g,hs.subL h⟩
theorem A.seqTo{x y:Code}(E₂:Env)(h1:A κ P w₀ n x E (Exit.then (ToEnv κ w₀ n E₂) Q))(h2:A κ P w₀ n y E₂ Q): A κ P w₀ n (x.seq y) E Q:=A.seq fun a w g hs=>wpIn_mono (h1 a w g hs) fun e a' w' hq=>by
 cases e with
 | normal=>exact h2 a' w' hq.1 hq.2
 | exit id=>exact hq
 | goto l=>exact hq
 | ret=>exact hq
 | panic ch=>exact hq
 | outgrown=>exact hq
end
section
variable {P:Program} {n:Nat} {w₀:World} {E:Env}
theorem End.varK1{r:Nat}{T:TypeId}{d':D}(hr:fn.results=#[.cell r T])(ht:P.underlying T=some td)(hp:(match td with | .struct _ | .array _ _=>true|_=>false)=true)(hsz:SizeIs P T m)
  (h1:E.look r=some (.v (.pointer (some ⟨b,0,none⟩))))(h2:E.look s=some (varK b e m d))(hl:Le d d'): End Cx.top w₀ n E (BP P fn (PostOf w₀ d') .ret):=fun a w g hs=>by
 have h3:a.tmps[r]?.getD undef = .pointer (some ⟨b,0,none⟩):=by rw[<- Array.getD_eq_getD_getElem?]; exact hs.of r _ h1
 obtain⟨hlt,cs,k2,k3,hh,k5⟩:=hs.of s _ h2
 exact BP.ret hs.defers ⟨aggV cs,by simp[results,hr,h3,asAddr,load_cell (xs:=cs) ht hp (hsz.of k2) hh],_,rfl,g,hl.of (w:=w) k5⟩
theorem End.varK2{r r':Nat}{T:TypeId}{d' f f':D}(hr:fn.results=#[.cell r T,.tmp r'])(ht:P.underlying T=some td)(hp:(match td with | .struct _ | .array _ _=>true|_=>false)=true)(hsz:SizeIs P T m)
  (h1:E.look r=some (.v (.pointer (some ⟨b,0,none⟩))))(h2:E.look s=some (varK b e m d))(hl:Le d d')(h4:E.look r'=some f)(hl':Le f f'): End Cx.top w₀ n E (BP P fn (PostOf w₀ (tup [d',f'])) .ret):=fun a w g hs=>by
 have h3:a.tmps[r]?.getD undef = .pointer (some ⟨b,0,none⟩):=by rw[<- Array.getD_eq_getD_getElem?]; exact hs.of r _ h1
 obtain⟨hlt,cs,k2,k3,hh,k5⟩:=hs.of s _ h2
 refine BP.ret hs.defers ⟨.tuple #[aggV cs,a.tmps.getD r' undef],by simp[results,hr,h3,asAddr,load_cell (xs:=cs) ht hp (hsz.of k2) hh],_,rfl,g,[aggV cs,a.tmps.getD r' undef],rfl,rfl,fun j d u hd hu=>?_⟩
 match j,hd,hu with
 | 0,hd,hu=>simp only[List.getElem?_cons_zero,Option.some.injEq] at hd hu; subst hd; subst hu; exact hl.of (w:=w) k5
 | 1,hd,hu=>simp only[List.getElem?_cons_succ,List.getElem?_cons_zero,Option.some.injEq] at hd hu; subst hd; subst hu; exact hl'.of (hs.of r' f h4)
 | j+2,hd,_=>simp at hd
end
theorem tup_mono{d' e e':D}(h1:Le d d')(h2:Le e e'): Le (tup [d,e]) (tup [d',e']):=fun B w u ⟨xs,k1,k2,k3⟩=>by
 refine⟨xs,k1,k2,fun j d u hd hu=>?_⟩
 match j,hd with
 | 0,hd=>simp at hd; subst hd; exact h1 _ _ _ (k3 0 _ u rfl hu)
 | 1,hd=>simp at hd; subst hd; exact h2 _ _ _ (k3 1 _ u rfl hu)
 | j+2,hd=>simp at hd
theorem Surv.tup2{e:Nat}{d₁ d₂:D}(h₁:Surv B e g d₁)(h₂:Surv B e g d₂): Surv B e g (tup [d₁,d₂]):=fun w w' x k ⟨xs,h1,h2,h3⟩=>by
 refine⟨xs,h1,h2,fun j d u hd hu=>?_⟩
 match j,hd with
 | 0,hd=>simp at hd; subst hd; exact h₁ w w' u k (h3 0 _ u rfl hu)
 | 1,hd=>simp at hd; subst hd; exact h₂ w w' u k (h3 1 _ u rfl hu)
 | j+2,hd=>simp at hd
end
section
variable {κ:Cx}
end
structure CelT where
 t:List UInt8
 e:Nat
 m:Nat
namespace CelT
def zero:CelT:=⟨zD,0,0⟩
def v (c:CelT):List Value:=celV c.t c.e c.m
structure Fit (c:CelT):Prop where
 t:c.t.length=32
 e:c.e<18446744073709551616
 m:c.m<18446744073709551616
theorem zero_fit: zero.Fit:=⟨rfl,by decide,by decide⟩
theorem Fit.len{c:CelT}(h:c.Fit): c.v.length=34:=cel_len h.t _ _
theorem one(c:CelT): c.v.all (·.oneCell')=true:=cel_one _ _ _
theorem Fit.vt{c:CelT}(h:c.Fit): (c.v.drop 0).take 32=c.t.map byteV:=cel_root h.t _ _
theorem Fit.ve{c:CelT}(h:c.Fit): c.v[32]?=some (.int .u64 ((c.e:Nat):Int)):=cel_e h.t _ _
instance:DecidableEq CelT:=fun a b=>if h:a.t=b.t∧a.e=b.e∧a.m=b.m then .isTrue (by obtain⟨t,e,m⟩:=a; obtain⟨t',e',m'⟩:=b; obtain⟨h1,h2,h3⟩:=h; simp only at h1 h2 h3; subst h1; subst h2; subst h3; rfl) else .isFalse fun hab=>h (by subst hab; exact⟨rfl,rfl,rfl⟩)
def fol (a b:CelT):Nat:=if a.e+1=b.e∧a.m=b.m then 1 else if a.e=b.e∧a.t=b.t∧a.m<b.m then 2 else 0
end CelT
def ceAt (l:List CelT) (i:Nat):CelT:=l.getD i CelT.zero
def folAt (l:List CelT) (k:Nat):Nat:=CelT.fol (ceAt l k) (ceAt l (k+1))
def faultN (l:List CelT):Nat->Nat
 | 0=>0
 | n+1=>if faultN l n=0 then (if folAt l n=0 then n+1 else 0) else faultN l n
def fault (l:List CelT):Nat:=faultN l (l.length-1)
section
section
variable {P:Program} {B:Nat} {E:Env} {dst:Option Tmp} {ty:TypeId} {pos:String} {after:Array Edge} {guard:Option (Nat×Bool)}
theorem ok_loadElemT{T:TypeId}{x:Operand}{us:List Value}(n:Nat)(ht:P.underlying T=some td)(hp:(match td with | .struct _ | .array _ _=>true|_=>false)=true)(hsz:SizeIs P T n)(hn:n<=us.length)(hx:E.at x=some (elemP us)):
  OpOk P B ⟨dst,.load T x,ty,pos,after,guard⟩ E (.v (aggV (us.take n))):=fun ρ w _ _ hρ=>by
 obtain⟨ad,h1,_,h3⟩:=hρ x (by simp[Op.operands]) _ hx
 have hagg:(isAgg T).run P w = .ok true w:=by
  unfold isAgg
  simp only[Sem.run_bind,run_underlying ht,Result.andThen_ok]
  cases td<;>simp_all
 have hl:(us.take n).length=n:=by simp[hn]
 have hc:=run_loadCells_list (P:=P) w ad (us.take n) (fun j u hu=>by
  rw[List.getElem?_take] at hu
  split at hu
  ·exact h3 j u hu
  ·cases hu)
 rw[hl] at hc
 obtain⟨info,hinfo,hs⟩:=hsz.get
 exact out_val (x:=aggV (us.take n)) (w':=w) (by simp[execOp,h1,Instr.loadAt,Instr.sureAddr,loadVar,hagg,sizeOf,typeInfo,hinfo,hs,hc,aggV]) ⟨Grow.refl w,rfl⟩
end
end
section
variable {κ:Cx}
section
variable {P:Program} {B:Nat} {E:Env} {dst:Option Tmp} {ty:TypeId} {pos:String} {after:Array Edge} {guard:Option (Nat×Bool)}
theorem ok_indexEP{t:TypeId}{len:Nat}{z:Value}{x i:Operand}{us:List Value}{k:IntKind}(m:Nat)(ht:P.underlying t=some (.array len e))(hs:InfoIs P e z nb)(hx:E.at x=some (elemP us))(hi:E.at i=some (.v (.int k (m:Int))))(hn:m<len):
  OpOk P B ⟨dst,.indexAddr t x i,ty,pos,after,guard⟩ E (elemP (us.drop m)):=fun ρ w _ _ hρ=>by
 obtain⟨ad,h1,hb,hc⟩:=hρ x (by simp[Op.operands]) _ hx
 have hi':ρ i = .int k (m:Int):=hρ i (by simp[Op.operands]) _ hi
 obtain⟨info,hinfo,_,hsize,_⟩:=hs.get
 refine out_val (x:=.pointer (some (ad.add m))) (w':=w) ?_ ⟨Grow.refl w,_,rfl,by rw[block_of_add]; exact hb,fun j u hj=>?_⟩
 ·simp[execOp,h1,hi',Instr.indexAt,Instr.sureAddr,asIntOf,run_underlying ht,sizeOf,typeInfo,hinfo,hsize]
  intro hle
  omega
 ·rw[add_of_add]; rw[List.getElem?_drop] at hj; exact hc _ _ hj
theorem ok_build1O{t:TypeId}{z:Value}{x:Operand}{us:List Value}(ht:P.underlying t=some (.slice e))(hs:InfoP P e z sz nb)(hz:z.cells.size=sz)(h0:sz<=65536)(hsz:0<sz)(hx:E.at x=some (.v (aggV us)))(hu:us.length=sz):
  OpOk P B ⟨dst,.buildSlice t 1 #[(0,x)],ty,pos,after,guard⟩ E (ownP B e sz 1 us):=fun ρ w hB _ hρ=>by
 obtain⟨i,hi,hzv,hsize,_⟩:=hs.get
 have h1:ρ x=aggV us:=hρ x (by simp[Op.operands]) _ hx
 have hfill:Instr.fill (fun j=>some (j*i.size,i.size)) ((Array.range (1*i.size)).map (z.cells[·%z.cells.size]!)) [(0,ρ x)]=some us.toArray:=by
  have hlen:((Array.range (1*i.size)).map (z.cells[·%z.cells.size]!)).size=us.length:=by simp[hsize,hu]
  rw[h1]
  have hc:(aggV us).cells=us.toArray:=rfl
  unfold Instr.fill
  simp only[Nat.zero_mul]
  rw[hc,if_neg (by simp[hsize,hu])]
  have hg:=fill_go us ((Array.range (1*i.size)).map (z.cells[·%z.cells.size]!)).toList [] (by rw[Array.length_toList,hlen])
  simp only[List.nil_append,List.length_nil,Array.toArray_toList] at hg
  rw[show us.toArray.zipIdx.foldl (fun cs (x:Value×Nat)=>match x with|(c,j)=>cs.setIfInBounds (0+j) c) ((Array.range (1*i.size)).map (z.cells[·%z.cells.size]!))=us.toArray from by
   rw[<- Array.foldl_toList,Array.toList_zipIdx]; exact hg]
  rfl
 have hr:=run_buildSlice (P:=P) w t e 1 #[(0,ρ x)] us.toArray i z ht hi hzv (by rw[hsize]; omega) (by rw[hsize]; omega) (by simpa using hfill)
 have hh:(w.alloc (.cells us.toArray e)).heap[w.heap.size]?=some (.cells us.toArray e (0,0)):=heap_alloc_new w _
 refine out_val (x:=.slice (some ⟨w.heap.size,0,none⟩) 1 1) (w':=w.alloc (.cells us.toArray e)) (by simp[execOp,hr]) ⟨Grow.alloc w _,⟨by omega,.inr ⟨w.heap.size,1,us.toArray,rfl,hB,hh,Nat.le_refl _,by decide,by simp[hu],by simp[<- hu]⟩⟩,fun g hg=>?_⟩
 simp only[Value.ownBlock,Option.some.injEq] at hg
 subst hg; simp
end
theorem Surv.ownPB{T base:Nat}(h:g<base): Surv B T g (Go.Proofs.YtjigbkamgfidkaaGreatDoor.ownP base e sz n xs):=fun w w' x k ⟨⟨h1,h2⟩,h3⟩=>by
 refine⟨⟨h1,h2.imp id ?_⟩,fun b hb=>Nat.lt_of_lt_of_le (h3 b hb) k.size⟩
 rintro ⟨b,cap,cur,rfl,hb,hh,hr⟩
 exact⟨b,cap,cur,rfl,hb,(k.other b (h3 b (by simp[Value.ownBlock])) (by omega)).trans hh,hr⟩
theorem OpOk.raise{o:Oper}{T:TypeId}(hk:vbase<=k)(hl:E.look k=some (blk b T xs))(h:OpOk P (b+1) o E d): OpOk P B o E d:=fun ρ w hB hv hρ =>
 h ρ w (hv k _ hk hl).1 hv hρ
theorem Eff.raise{o:Oper}{T:TypeId}(hl:E.look k=some (blk b T xs))(hB:B<=b)(h:Eff P n (b+1) ops o E E'): Eff P n B ops o E E':=fun κ a w K Q hs hK =>
 h κ a w K Q ⟨(hs.of k _ hl).1,hs.defers,hs.size,hs.of⟩ fun a' w' hb hs'=>hK a' w' (hb.mono (by omega)) ⟨Nat.le_trans hs.base hb.size,hs'.defers,hs'.size,hs'.of⟩
def cut (l:List CelT) (i j:Nat):List CelT:=(l.take j).drop i
end
section
structure SV where
 p:Nat
 b:Nat
 k:Nat
 T:TypeId
 z:List Value
 y:List Value
 v:Value
def SV.Ok (P:Program) (s:SV):Prop:=∀ w:World,w.heap[s.b]?=some (.cells s.z.toArray s.T (0,0))->(Instr.storeAt s.T (.pointer (some ⟨s.b,0,none⟩)) s.v).run P w = .ok () (w.setRow s.b s.y.toArray)
theorem SV.whole{p:Nat}{T:TypeId}{zs:List Value}(h:SizeIs P T ys.length)(hl:zs.length=ys.length)(h1:ys.all (·.oneCell')=true): SV.Ok P ⟨p,b,k,T,zs,ys,aggV ys⟩:=fun w hh=>by
 have:=run_storeVar_row (P:=P) w b T T zs.toArray ys.toArray hh (by simpa [SizeIs] using h) (by simpa using hl) (by simpa using h1)
 simp[Instr.storeAt,Instr.sureAddr,aggV,this]
inductive Many (P:Program) (B:Nat) (ops:Array Oper) (vals:List Value) (Eb:Env) (ss:List SV):Nat->List Oper->Prop
 | nil {i:Nat}:Many P B ops vals Eb ss i []
 | cons {i:Nat} {o:Oper} {rest:List Oper} {t:Nat} {v:Value} (E:Env) (hp:∀ s∈ss,i≠s.p) (hv:vals[i]?=some v) (ht:o.dst=some t) (hd:Eb.look t=none∨Eb.look t=some (.v v)) (hf:FromN ops vals Eb o E) (hok:OpOk P B o E (.v v)) (hr:Many P B ops vals Eb ss (i+1) rest):Many P B ops vals Eb ss i (o::rest)
 | store {i:Nat} {o:Oper} {rest:List Oper} {x y:Operand} {ty:TypeId} {pos:String} {after:Array Edge} (s:SV) (hs:s∈ss) (hi:i=s.p) (E:Env) (ho:o=⟨none,.store s.T x y,ty,pos,after,none⟩) (hf:FromN ops vals Eb o E) (hx:E.at x=some (.v (.pointer (some ⟨s.b,0,none⟩)))) (hy:E.at y=some (.v s.v)) (hr:Many P B ops vals Eb ss (i+1) rest):Many P B ops vals Eb ss i (o::rest)
section
variable {P:Program} {n B:Nat} {ops:Array Oper} {κ:Cx} {Q:Exit->Act->World->Prop} {vals:List Value} {Eb:Env} {ss:List SV}
theorem Many.nth{l:List Oper}(h:Many P B ops vals Eb ss m l): ∀ {i:Nat} {o:Oper},l[i]?=some o ->
  ((∀ s∈ss,m+i≠s.p)∧∃ E v t,vals[m+i]?=some v∧o.dst=some t∧(Eb.look t=none∨Eb.look t=some (.v v))∧FromN ops vals Eb o E∧OpOk P B o E (.v v)) ∨
  (∃ s∈ss,m+i=s.p∧∃ E x y ty pos after,o=⟨none,.store s.T x y,ty,pos,after,none⟩∧FromN ops vals Eb o E∧E.at x=some (.v (.pointer (some ⟨s.b,0,none⟩)))∧E.at y=some (.v s.v)):=by
 induction h with
 | nil=>intro i o hi; simp at hi
 | @cons m o0 rest t v E hp hv ht hd hf hok _ ih =>
  intro i o hi
  cases i with
  | zero=>simp at hi; subst hi; exact .inl ⟨hp,E,v,t,hv,ht,hd,hf,hok⟩
  | succ i =>
   have:=ih (i:=i) (by simpa using hi)
   rwa [show m+1+i=m+(i+1) from by omega] at this
 | @store m o0 rest x y ty pos after s hs hi' E ho hf hx hy _ ih =>
  intro i o hi
  cases i with
  | zero=>simp at hi; subst hi; exact .inr ⟨s,hs,hi',E,x,y,ty,pos,after,ho,hf,hx,hy⟩
  | succ i =>
   have:=ih (i:=i) (by simpa using hi)
   rwa [show m+1+i=m+(i+1) from by omega] at this
structure InvM (κ:Cx) (n B:Nat) (ops:Array Oper) (vals:List Value) (Eb:Env) (ss:List SV) (listed:Array Bool) (a:Act) (w:World):Prop where
 st:St κ n B Eb a w
 lsize:listed.size=ops.size
 blk:∀ s∈ss,s.b<w.heap.size∧w.heap[s.b]?=some (.cells (if listed.getD s.p false then s.y else s.z).toArray s.T (0,0))
 got:∀ (i:Nat) (o:Oper) (t:Nat) (v:Value),ops[i]?=some o->listed.getD i false=true->o.dst=some t->vals[i]?=some v->a.tmps.getD t undef=v
theorem look_appM {t:Nat} {e:D}:∀ {V E:Env},Env.look (V++E) t=some e->(t,e)∈V∨Env.look E t=some e
 | [],_,h=>.inr h
 | (s,d)::V,E,h=>by
  by_cases hs:s=t
  ·subst hs
   rw[List.cons_append,look_here] at h; injection h with h; subst h
   exact .inl List.mem_cons_self
  ·rw[List.cons_append,look_past _ _ hs] at h
   exact(look_appM h).imp (List.mem_cons_of_mem _) id
theorem wp_many(hfit:fits n ops=true)(hd:downsN ops=true)(hn:Many P B ops vals Eb ss 0 ops.toList)(hb:∀ s∈ss,B<=s.b)(hdj:∀ s∈ss,∀ s'∈ss,s=s'∨(s.p≠s'.p∧s.b≠s'.b))(hok:∀ s∈ss,s.Ok P)(hl:∀ s∈ss,LeftS B s.T s.b Eb Eb):
  ∀ (fuel:Nat) (listed:Array Bool) (a:Act) (w:World),unlisted ops listed<=fuel->Below B w₀ w->InvM κ n B ops vals Eb ss listed a w->(∀ l a' w',Below B w₀ w'->InvM κ n B ops vals Eb ss l a' w'->(∀ i,i<ops.size->l.getD i false=true)->Q .normal a' w')->wpAnyIn (FR κ.rd) 0 P .any ops Q fuel listed a w:=by
 have hn0:n<=vbase:=fits_base hfit
 have hmin:∀ (listed:Array Bool),listed.size=ops.size->Region.ready .any ops listed=[]->∀ i,i<ops.size->listed.getD i false=true:=by
  intro listed hl hr i
  induction i using Nat.strongRecOn with
  | _ i ih =>
   intro hi
   rcases hb:listed.getD i false with _|_
   ·exfalso
    have hdi:=(downs_get hd (Array.getElem?_eq_getElem hi)).2.1
    have:i∈Region.ready .any ops listed:=by
     rw[mem_ready]
     refine⟨?_,ops[i],Array.getElem?_eq_getElem hi,fun e he hbd=>ih e.on (hdi e he hbd) (Nat.lt_trans (hdi e he hbd) hi)⟩
     have:i<listed.size:=by rw[hl]; exact hi
     simp[this] at hb ⊢
     exact hb
    rw[hr] at this
    cases this
   ·rfl
 intro fuel
 induction fuel with
 | zero =>
  intro listed a w hc hbel I hQ'
  have hr:Region.ready .any ops listed=[]:=by
   rcases hr:Region.ready .any ops listed with _|⟨i,l⟩
   ·rfl
   ·exfalso
    have hi:i∈Region.ready .any ops listed:=by rw[hr]; exact List.mem_cons_self
    obtain⟨hu,o,ho,_⟩:=mem_ready.1 hi
    have hpos:0<unlisted ops listed:=List.countP_pos_iff.2 ⟨i,List.mem_range.2 (Array.getElem?_eq_some_iff.1 ho).1,by simp only[hu]; rfl⟩
    omega
  exact⟨hr,hQ' listed a w hbel I (hmin listed I.lsize hr)⟩
 | succ fuel ih =>
  intro listed a w hc hbel I hQ'
  refine⟨fun hr=>hQ' listed a w hbel I (hmin listed I.lsize hr),fun i hi=>?_⟩
  obtain⟨hu,o,ho,hall⟩:=mem_ready.1 hi
  have hlt:i<ops.size:=(Array.getElem?_eq_some_iff.1 ho).1
  obtain⟨hg,_,hdis⟩:=downs_get hd ho
  have huf:listed.getD i false=false:=by
   have:i<listed.size:=by rw[I.lsize]; exact hlt
   simp[this] at hu ⊢
   exact hu
  have hst:∀ {E:Env},FromN ops vals Eb o E->∀ t d,E.look t=some d->d.Of w (a.tmps.getD t undef):=fun {E} h=>by
   induction h with
   | nil=>intro t d hl; cases hl
   | all=>exact I.st.of
   | @base s e E h _ ih =>
    intro t d hl
    by_cases hts:s=t
    ·subst hts; rw[look_here] at hl; injection hl with hl; subst hl; exact I.st.of _ _ h
    ·rw[look_past _ _ hts] at hl; exact ih t d hl
   | @op s v E j he hdj hvj _ ih =>
    intro t d hl
    by_cases hts:s=t
    ·subst hts; rw[look_here] at hl; injection hl with hl; subst hl
     obtain⟨e,he1,he2⟩:=Array.any_eq_true'.1 he
     simp only[Bool.and_eq_true,beq_iff_eq] at he2
     have hl:=hall e he1 he2.1
     rw[he2.2] at hl
     cases hq:ops[j]? with
     | none=>rw[hq] at hdj; cases hdj
     | some q =>
      rw[hq] at hdj
      exact I.got j q _ _ hq hl hdj hvj
    ·rw[look_past _ _ hts] at hl; exact ih t d hl
  have hcl:unlisted ops (listed.setIfInBounds i true)<=fuel:=by
   have:unlisted ops (listed.setIfInBounds i true)<unlisted ops listed:=by
    refine countP_lt (x:=i) (fun y hy=>?_) (List.mem_range.2 hlt) (by simp only[hu]; rfl) ?_
    ·by_cases hyi:i=y
     ·subst hyi
      have:i<listed.size:=by rw[I.lsize]; exact hlt
      simp[this] at hy
     ·rw[getD_set_ne true hyi] at hy; exact hy
    ·have:i<listed.size:=by rw[I.lsize]; exact hlt
     simp[this]
   omega
  have hset':∀ j,(listed.setIfInBounds i true).getD j false=true->j=i∨listed.getD j false=true:=fun j hj=>by
   by_cases hji:i=j
   ·exact .inl hji.symm
   ·rw[getD_set_ne false hji] at hj; exact .inr hj
  have hfi:=fits_mem hfit (o:=o) (by simpa using Array.mem_of_getElem? ho)
  rcases hn.nth (i:=i) (o:=o) (by simpa using ho) with ⟨hip,E,v,t,hv,ht,hdo,hfr,hok'⟩|⟨s₀,hs₀,hip,E,x,y,ty,pos,after,hoe,hfr,hx,hy⟩
  ·simp only[Nat.zero_add] at hv hip
   have hE:St κ n B E a w:=⟨I.st.base,I.st.defers,I.st.size,hst hfr⟩
   have htn:t<n:=hfi.2 t ht
   refine wpOpR_step ho fun K hK=>good_wp (E:=E) (d:=.v v) hE.base (hE.virt hn0) ht (.inl ⟨by simp[GuardIs,hg],hok'⟩) (fun s e _ he=>hE.of s e he) (fun s hs=>by rw[I.st.size]; exact hfi.1 s hs) fun u w' gr hu'=>?_
   have hu':u=v:=hu'
   subst hu'
   refine hK _ _ (ih _ _ _ hcl (hbel.trans (Below.mono gr I.st.base)) ⟨⟨Nat.le_trans I.st.base gr.size,I.st.defers,by simp[Act.put,I.st.size],fun s d hs=>?_⟩,by simp[I.lsize],fun s hs=>⟨Nat.lt_of_lt_of_le (I.blk s hs).1 gr.size,?_⟩,fun j q s z hj hl' hds hvs=>?_⟩ hQ')
   ·by_cases hts:t=s
    ·subst hts
     rw[getD_put_here _ _ (by rw[I.st.size]; exact htn)]
     rcases hdo with h|h
     ·rw[h] at hs; cases hs
     ·rw[h] at hs; injection hs with hs; subst hs; rfl
    ·rw[getD_put_past _ _ hts]; exact(I.st.of s d hs).grow gr
   ·rw[getD_set_ne false (hip s hs),gr.block s.b (I.blk s hs).1]; exact(I.blk s hs).2
   ·rcases hset' j hl' with rfl|hl2
    ·rw[ho] at hj; injection hj with hj; subst hj
     rw[ht] at hds; injection hds with hds; subst hds
     rw[hv] at hvs; injection hvs with hvs; subst hvs
     rw[getD_put_here _ _ (by rw[I.st.size]; exact htn)]
    ·by_cases hji:j=i
     ·subst hji; rw[huf] at hl2; cases hl2
     ·have hne:t≠s:=fun he=>hdis j q hj hji (by rw[ht]; simp) (by rw[ht,hds,he])
      rw[getD_put_past _ _ hne]
      exact I.got j q s z hj hl2 hds hvs
  ·rw[Nat.zero_add] at hip
   have hE:St κ n B E a w:=⟨I.st.base,I.st.defers,I.st.size,hst hfr⟩
   have hxe:a.eval x = .pointer (some ⟨s₀.b,0,none⟩):=hE.at_ x _ hx
   have hye:a.eval y=s₀.v:=hE.at_ y _ hy
   have hh:w.heap[s₀.b]?=some (.cells s₀.z.toArray s₀.T (0,0)):=by have:=(I.blk s₀ hs₀).2; rw[<- hip,huf] at this; simpa using this
   have hrun:(execOp a.eval ⟨none,.store s₀.T x y,ty,pos,after,none⟩).run P w = .ok .skip (w.setRow s₀.b s₀.y.toArray):=by
    simp[execOp,hxe,hye,hok s₀ hs₀ w hh]
   refine wpOpR_step ho fun K hK=>?_
   subst hoe
   rw[if_pos (by simp[Region.wanted])]
   refine opR (by nofun) ?_
   unfold Oper.wp
   rw[hrun,Oper.upon_skip]
   have hwr:=Wrote.setRow (B:=B) (hb s₀ hs₀) hh s₀.y.toArray
   refine hK _ _ (ih _ _ _ hcl (hbel.trans (hwr.below I.st.base)) ⟨(hl s₀ hs₀).st I.st hwr,by simp[I.lsize],fun s hs=>⟨by simpa using (I.blk s hs).1,?_⟩,fun j q s z hj hl' hds hvs=>?_⟩ hQ')
   ·rcases hdj s hs s₀ hs₀ with rfl|⟨h5,h6⟩
    ·have:(listed.setIfInBounds i true).getD s.p false=true:=by rw[<- hip]; simp[show i<listed.size by rw[I.lsize]; exact hlt]
     rw[this]; exact setRow_heap w s.b _ _ s.T _ hh
    ·rw[getD_set_ne false (show i≠s.p from by rw[hip]; exact Ne.symm h5),hwr.other s.b (I.blk s hs).1 h6]; exact(I.blk s hs).2
   ·rcases hset' j hl' with rfl|hl2
    ·rw[ho] at hj; injection hj with hj; subst hj; cases hds
    ·exact I.got j q s z hj hl2 hds hvs
def manyE (ss:List SV):Env:=ss.map fun s=>(s.k,blk s.b s.T s.y)
theorem A.regsMm{y:Code}{E1:Env}{id:Nat}(vals:List Value)(hm:P.follows .mixedOrders=true)(hfit:fits n ops=true)(hd:downsN ops=true)(hn:Many P w₀.heap.size ops vals Eb ss 0 ops.toList)(hpl:∀ s∈ss,s.p<ops.size)(hEb:Sub Eb E)(hk:∀ s∈ss,E.look s.k=some (blk s.b s.T s.z))(hb:∀ s∈ss,w₀.heap.size<=s.b)
  (hdj:∀ s∈ss,∀ s'∈ss,s=s'∨(s.p≠s'.p∧s.b≠s'.b))(hok:∀ s∈ss,s.Ok P)(hl:∀ s∈ss,LeftS w₀.heap.size s.T s.b Eb Eb)(hf:FromE ops vals Eb E1)(h:A κ P w₀ n y (manyE ss++E1) Q): A κ P w₀ n (.seq (.region id ops true) y) E Q:=A.seq fun a w hg hst=>by
 have hdr:Below w₀.heap.size w w.drew:=(Below.refl _ w).drew
 have hfin:∀ l a' w',Below w₀.heap.size w w'->InvM κ n w₀.heap.size ops vals Eb ss l a' w'->(∀ i,i<ops.size->l.getD i false=true)->Exit.then (y.wpIn (FR κ.rd) 0 P Q) Q .normal a' w':=fun l a' w' hbel I hall=>by
  refine h a' w' (hg.trans hbel) ⟨I.st.base,I.st.defers,I.st.size,fun t d hl'=>?_⟩
  have key:∀ t d,E1.look t=some d->d.Of w' (a'.tmps.getD t undef):=by
   clear hl' h
   induction hf with
   | nil=>intro t d hl; cases hl
   | all=>exact I.st.of
   | @base s e E h _ ih =>
    intro t d hl
    by_cases hts:s=t
    ·subst hts; rw[look_here] at hl; injection hl with hl; subst hl; exact I.st.of _ _ h
    ·rw[look_past _ _ hts] at hl; exact ih t d hl
   | @op s v E j hdj hvj _ ih =>
    intro t d hl
    by_cases hts:s=t
    ·subst hts; rw[look_here] at hl; injection hl with hl; subst hl
     cases hq:ops[j]? with
     | none=>rw[hq] at hdj; cases hdj
     | some q =>
      rw[hq] at hdj
      exact I.got j q _ _ hq (hall j (Array.getElem?_eq_some_iff.1 hq).1) hdj hvj
    ·rw[look_past _ _ hts] at hl; exact ih t d hl
  rcases look_appM hl' with hm|hm
  ·obtain⟨s,hs,he⟩:=List.mem_map.1 hm
   injection he with h2 h3
   subst h3
   have hI:=I.blk s hs
   rw[hall s.p (hpl s hs)] at hI
   exact⟨hI.1,hI.2⟩
  ·exact key t d hm
 refine wpIn_region_any hm (wp_many (Q:=Exit.then (y.wpIn (FR κ.rd) 0 P Q) Q) (w₀:=w) (B:=w₀.heap.size) hfit hd hn hb hdj hok hl _ _ _ _ ?_ hdr ⟨(hst.sub hEb).grow (Grow.refl w).drew,by simp,fun s hs=>?_,fun i o t v hi hl=>?_⟩ hfin)
 ·refine Nat.le_trans List.countP_le_length ?_
  simp
 ·obtain⟨hk1,hk2⟩:=hst.of s.k _ (hk s hs)
  have:(Array.replicate ops.size false).getD s.p false=false:=by simp[hpl s hs]
  rw[this]; exact⟨hk1,hk2⟩
 ·simp[(Array.getElem?_eq_some_iff.1 hi).1] at hl
theorem Many.next{o:Oper}{rest:List Oper}{t:Nat}{v:Value}(E:Env)(hp:(ss.all fun s=>!Nat.beq i s.p)=true)(hv:vals[i]?=some v)(ht:o.dst=some t)(hd:Eb.look t=none∨Eb.look t=some (.v v))(hf:FromN ops vals Eb o E)(hok:OpOk P B o E (.v v))(hr:Many P B ops vals Eb ss (i+1) rest): Many P B ops vals Eb ss i (o::rest) :=
 .cons E (fun s hs h=>by have:=List.all_eq_true.1 hp s hs; rw[h] at this; simp at this) hv ht hd hf hok hr
theorem A.regsMK{y:Code}{E1:Env}{id:Nat}(ss:List SV)(vals:List Value)(hm:P.follows .mixedOrders=true)(hfit:fits n ops=true)(hd:downsN ops=true)(hpl:(ss.all fun s=>Nat.blt s.p ops.size)=true)(hEb:Sub Eb E)(hn:Many P w₀.heap.size ops vals Eb ss 0 ops.toList)(hf:FromE ops vals Eb E1)(hk:∀ s∈ss,E.look s.k=some (blk s.b s.T s.z))(hb:∀ s∈ss,w₀.heap.size<=s.b)
  (hdj:∀ s∈ss,∀ s'∈ss,s=s'∨(s.p≠s'.p∧s.b≠s'.b))(hok:∀ s∈ss,s.Ok P)(hl:∀ s∈ss,LeftS w₀.heap.size s.T s.b Eb Eb)(h:A κ P w₀ n y (manyE ss++E1) Q): A κ P w₀ n (.seq (.region id ops true) y) E Q :=
 A.regsMm vals hm hfit hd hn (fun s hs=>Nat.le_of_ble_eq_true (List.all_eq_true.1 hpl s hs)) hEb hk hb hdj hok hl hf h
end
section
variable {P:Program} {B:Nat} {E:Env} {dst:Option Tmp} {ty:TypeId} {pos:String} {after:Array Edge} {guard:Option (Nat×Bool)}
theorem ok_indexRX{t:TypeId}{z:Value}{x i:Operand}{ad:Addr}{q:Nat}{ki:IntKind}(m:Nat)(ht:P.underlying t=some (.slice e))(hs:InfoP P e z sz nb)(hx:E.at x=some (.v (.slice (some ad) k q)))(hi:E.at i=some (.v (.int ki (m:Int))))(hm:m<k):
  OpOk P B ⟨dst,.indexAddr t x i,ty,pos,after,guard⟩ E (.v (.pointer (some (ad.add (m*sz))))):=fun ρ w _ hv hρ=>by
 have h1:ρ x = .slice (some ad) k q:=hρ x (by simp[Op.operands]) _ hx
 have hi':ρ i = .int ki m:=hρ i (by simp[Op.operands]) _ hi
 obtain⟨info,hinfo,_,hsize,_⟩:=hs.get
 exact out_val (x:=.pointer (some (ad.add (m*sz)))) (w':=w) (by simp[execOp,h1,hi',Instr.indexAt,asIntOf,run_underlying ht,sizeOf,typeInfo,hinfo,hsize,hm]) ⟨Grow.refl w,rfl⟩
theorem ok_fieldRX{T:TypeId}{x:Operand}{ad:Addr}{off o:Nat}(hf:FieldIs P T i off m)(hm:0<m)(hx:E.at x=some (.v (.pointer (some (ad.add o))))):
  OpOk P B ⟨dst,.fieldAddr T x i,ty,pos,after,guard⟩ E (.v (.pointer (some (ad.add (o+off))))):=fun ρ w _ _ hρ=>by
 have h1:ρ x=_:=hρ x (by simp[Op.operands]) _ hx
 unfold FieldIs at hf
 cases hu:P.underlying T with
 | none=>rw[hu] at hf; cases hf
 | some d =>
  rw[hu] at hf
  cases d with
  | struct fs =>
   simp only[Option.bind_some] at hf
   cases hfi:fs[i]? with
   | none=>rw[hfi] at hf; cases hf
   | some f =>
    rw[hfi] at hf
    simp only[Option.bind_some] at hf
    cases hi:P.info? f.type with
    | none=>rw[hi] at hf; cases hf
    | some inf =>
     rw[hi] at hf
     simp only[Option.map_some,Option.some.injEq,Prod.mk.injEq] at hf
     obtain⟨h2,h3⟩:=hf
     have:¬ inf.size=0:=by omega
     refine out_val (x:=.pointer (some (ad.add (o+off)))) (w':=w) ?_ ⟨Grow.refl w,rfl⟩
     rw[<- add_of_add]
     simp[execOp,h1,Instr.fieldAt,run_underlying hu,hfi,Instr.sureAddr,fieldPlace,sizeOf,typeInfo,hi,this,h2]
  | _=>simp at hf
theorem ok_loadRX{T:TypeId}{x:Operand}{ad:Addr}{o B':Nat}{u:Value}(ht:P.underlying T=some td)(hp:(match td with | .struct _ | .array _ _=>false|_=>true)=true)(hx:E.at x=some (.v (.pointer (some (ad.add o)))))
  (hsv:vbase<=s)(hr:E.look s=some (old B' (memR (some ad) xs)))(hu:xs[o]?=some u): OpOk P B ⟨dst,.load T x,ty,pos,after,guard⟩ E (.v u):=fun ρ w _ hv hρ=>by
 have h1:ρ x=_:=hρ x (by simp[Op.operands]) _ hx
 obtain⟨_,hrow⟩:=hv s _ hsv hr
 obtain⟨ad',hA,_,hc⟩:=hrow o u hu
 injection hA with hA; subst hA
 have hagg:(isAgg T).run P w = .ok false w:=by
  unfold isAgg
  simp only[Sem.run_bind,run_underlying ht,Result.andThen_ok]
  cases td<;>simp_all
 exact out_val (x:=u) (w':=w) (by simp[execOp,h1,Instr.loadAt,Instr.sureAddr,loadVar,hagg,hc]) ⟨Grow.refl w,rfl⟩
end
end
section
variable {κ:Cx}
def StartMO (B:Nat) (ds:List D) (M:Env) (E:Env):Prop:=∀ p∈E,((∃ d,(p.1,d)∈M∧(p.2=d∨p.2=old B d))∧vbase<=p.1)∨∃ d,ds[p.1]?=some d∧(p.2=d∨p.2=old B d)
theorem StartMO.nil{M:Env}: StartMO B ds M []:=fun _ h=>by cases h
theorem StartMO.mo{M:Env}{t:Nat}(h:(t,d)∈M)(ht:vbase<=t)(hr:StartMO B ds M E): StartMO B ds M ((t,Go.Proofs.YtjigbkamgfidkaaGreatDoor.old B d)::E):=fun p hp=>by
 rcases List.mem_cons.1 hp with rfl|hp
 ·exact .inl ⟨⟨d,h,.inr rfl⟩,ht⟩
 ·exact hr p hp
theorem StartMO.v{M:Env}{t:Nat}(h:ds[t]?=some d)(hr:StartMO B ds M E): StartMO B ds M ((t,d)::E):=fun p hp=>by
 rcases List.mem_cons.1 hp with rfl|hp
 ·exact .inr ⟨d,h,.inl rfl⟩
 ·exact hr p hp
theorem StartMO.st{M:Env}{vs:List Value}(hn:fn.ntmps=n)(hds:ds.length<=n)(hnv:n<=vbase)(hE:StartMO w.heap.size ds M E)(hM:∀ p∈M,p.2.Of w undef)(hl:vs.length=ds.length)(hv:∀ (j:Nat) (e:D) (u:Value),ds[j]?=some e->vs[j]?=some u->e.Of w u)(t:Nat)(e:D)(he:E.look t=some e):
  e.Of w ((vs.toArray++Array.replicate (fn.ntmps-vs.toArray.size) undef).getD t undef):=by
 rcases hE _ (look_mem he) with ⟨⟨d',hm,hor⟩,ht⟩|⟨d',hd',hor⟩
 ·have h1:=hM _ hm
  rw[Array.getD_eq_getD_getElem?,Array.getElem?_eq_none (by simp[hl,hn]; simp only at ht; omega)]
  rcases hor with h2|h2
  ·simp only at h2; rw[h2]; exact h1
  ·simp only at h2; rw[h2]; exact⟨Nat.le_refl _,h1⟩
 ·have hlt:t<vs.length:=by have:=(List.getElem?_eq_some_iff.1 hd').1; simp at this; omega
  have hget:(vs.toArray++Array.replicate (fn.ntmps-vs.toArray.size) undef).getD t undef=vs[t]:=by
   rw[Array.getD_eq_getD_getElem?,Array.getElem?_append_left (by simpa using hlt)]
   simp[hlt]
  rw[hget]
  have h1:=hv t d' vs[t] hd' (List.getElem?_eq_getElem hlt)
  rcases hor with h2|h2
  ·simp only at h2; rw[h2]; exact h1
  ·simp only at h2; rw[h2]; exact⟨Nat.le_refl _,h1⟩
theorem FnM.ofO{f:FuncId}{c:Code}{M:Env}(hf:P.funcs[f]?=some fn)(hb:fn.body=some c)(hname:(fn.name == "runtime.NumGoroutine")=false)(hn:fn.ntmps=n)(hds:ds.length<=n)(hnv:n<=vbase)(E:World->Env)
  (hE:∀ w,StartMO w.heap.size ds M (E w))(h:∀ w₀,(∀ p∈M,p.2.Of w₀ undef)->A Cx.top P w₀ n c (E w₀) (BP P fn (PostOf w₀ d))): FnM P f M ds d:=by
 refine⟨⟨fn,hf,hname,by rw[hb]; rfl⟩,fun vs w hM hl hv=>callsIn_FR.1 (callsIn_of_wp_marks (F:=FR none) (n:=0) hf hb trivial (h w hM _ w (Below.refl _ _) ⟨Nat.le_refl _,rfl,?_,fun t e he=>?_⟩))⟩
 ·simp[hl,hn]; omega
 ·exact StartMO.st hn hds hnv (hE w) hM hl hv t e he
theorem FnMB.ofO{f:FuncId}{c:Code}{M:Env}{d:Nat->D}(hf:P.funcs[f]?=some fn)(hb:fn.body=some c)(hname:(fn.name == "runtime.NumGoroutine")=false)(hn:fn.ntmps=n)(hds:ds.length<=n)(hnv:n<=vbase)(E:World->Env)
  (hE:∀ w,StartMO w.heap.size ds M (E w))(h:∀ w₀,(∀ p∈M,p.2.Of w₀ undef)->A Cx.top P w₀ n c (E w₀) (BP P fn (PostOf w₀ (d w₀.heap.size)))): FnMB P f M ds d:=by
 refine⟨⟨fn,hf,hname,by rw[hb]; rfl⟩,fun vs w hM hl hv=>callsIn_FR.1 (callsIn_of_wp_marks (F:=FR none) (n:=0) hf hb trivial (h w hM _ w (Below.refl _ _) ⟨Nat.le_refl _,rfl,?_,fun t e he=>?_⟩))⟩
 ·simp[hl,hn]; omega
 ·exact StartMO.st hn hds hnv (hE w) hM hl hv t e he
def SubK (M E:Env):Prop:=∀ p∈M,∃ k e,vbase<=k∧E.look k=some e∧Le e p.2
theorem SubK.nil: SubK [] E:=fun _ h=>by cases h
theorem Le.unold: Le (Go.Proofs.YtjigbkamgfidkaaGreatDoor.old B d) d:=fun _ _ _ h=>h.2.up h.1
theorem SubK.cons{M:Env}{k':Nat}{e:D}(hk:vbase<=k)(he:E.look k=some e)(hl:Le e d)(hr:SubK M E): SubK ((k',d)::M) E:=fun p hp=>by
 rcases List.mem_cons.1 hp with rfl|hp
 ·exact⟨k,e,hk,he,hl⟩
 ·exact hr p hp
theorem SubK.of{M:Env}(h:Sub M E)(hb:∀ p∈M,vbase<=p.1): SubK M E:=fun p hp=>⟨p.1,p.2,hb p hp,h p hp,Le.refl _⟩
theorem SubK.holds{M:Env}(h:SubK M E)(hv:∀ t d,vbase<=t->E.look t=some d->d.Of w undef): ∀ p∈M,p.2.Of w undef:=fun p hp=>by
 obtain⟨k,e,h1,h2,h3⟩:=h p hp
 exact h3.of (hv k e h1 h2)
section
variable {P:Program} {B:Nat} {E:Env} {dst:Option Tmp} {ty:TypeId} {pos:String} {after:Array Edge} {guard:Option (Nat×Bool)}
theorem call_at{f:FuncId}{x:Operand}{us:List Value}{args:Array Operand}{argTypes:Array TypeId}(hbody:∃ fn,P.funcs[f]?=some fn∧(fn.name == "runtime.NumGoroutine")=false∧fn.body.isNone=false)
  (hx:E.at x=some (.v (.func (.func f) #[] us.toArray)))(ha:Args E ds args.toList){ρ:Operand->Value}(hρ:∀ y,y∈Op.operands (.call { callee:=.value x,args:=args,argTypes:=argTypes })->∀ d,E.at y=some d->d.Of w (ρ y))
  (hc:∀ vs:List Value,vs.length=ds.length->(∀ (j:Nat) (e:D) (u:Value),ds[j]?=some e->vs[j]?=some u->e.Of w u)->Calls P f (vs++us).toArray w (PostOf w d)):
  Out P ⟨dst,.call { callee:=.value x,args:=args,argTypes:=argTypes },ty,pos,after,guard⟩ ρ w fun v w'=>Grow w w'∧d.Of w' v:=by
 obtain⟨fn,h1,h2,h3⟩:=hbody
 have hfun:ρ x = .func (.func f) #[] us.toArray:=hρ x (by simp[Op.operands,Call.operands]) _ hx
 have hrun:(execOp ρ ⟨dst,.call { callee:=.value x,args:=args,argTypes:=argTypes },ty,pos,after,guard⟩).run P w = .ok (.enter f (args.map ρ++us.toArray)) w:=by
  have h2':¬ fn.name = "runtime.NumGoroutine":=by simpa using h2
  have h3':¬ fn.body=none:=by intro h; rw[h] at h3; cases h3
  simp[execOp,resolve,Deferred.ofValue,hfun,invoke,callFunc,h1,h2',h3']
 unfold Out
 rw[hrun]
 have:=hc (args.toList.map ρ) (by rw[List.length_map,ha.length]) fun j e u he hu=>by
  rw[List.getElem?_map] at hu
  cases hx:args.toList[j]? with
  | none=>rw[hx] at hu; cases hu
  | some x =>
   rw[hx] at hu; injection hu with hu; subst hu
   obtain⟨e',h4,h5⟩:=ha.nth he hx
   exact h5.of (hρ x (by simp[Op.operands,Call.operands]; exact .inr (by simpa using List.mem_of_getElem? hx)) _ h4)
 have harr:(args.toList.map ρ++us).toArray=args.map ρ++us.toArray:=by apply Array.ext'; simp
 rw[harr] at this
 exact this.mono fun e w' ⟨x,he,g,hx⟩=>⟨x,he,g,hx⟩
theorem ok_callMK{f:FuncId}{M:Env}{args:Array Operand}{argTypes:Array TypeId}(hf:FnM P f M ds d)(hM:SubK M E)(ha:Args E ds args.toList):
  OpOk P B ⟨dst,.call { callee:=.value (.func f),args:=args,argTypes:=argTypes },ty,pos,after,guard⟩ E d:=fun ρ w _ hv hρ =>
 call_at (us:=[]) hf.body rfl ha hρ fun vs hl h=>by
  rw[List.append_nil]
  exact hf.calls vs w (hM.holds hv) hl h
theorem ok_callMBK{f:FuncId}{M:Env}{args:Array Operand}{argTypes:Array TypeId}{d:Nat->D}(hf:FnMB P f M ds d)(hd:∀ B B',B<=B'->Le (d B') (d B))(hM:SubK M E)(ha:Args E ds args.toList):
  OpOk P B ⟨dst,.call { callee:=.value (.func f),args:=args,argTypes:=argTypes },ty,pos,after,guard⟩ E (d B):=fun ρ w hB hv hρ =>
 call_at (us:=[]) hf.body rfl ha hρ fun vs hl h=>by
  rw[List.append_nil]
  exact(hf.calls vs w (hM.holds hv) hl h).mono fun _ _ ⟨x,he,g,hx⟩=>⟨x,he,g,(hd _ _ hB).of hx⟩
end
theorem ownP_mono{B':Nat}(h:B<=B'): Le (ownP B' e sz n xs) (ownP B e sz n xs):=fun _ _ _ ⟨⟨h1,h2⟩,h3⟩=>⟨⟨h1,h2.imp id fun⟨g,cap,cur,h4,h5,h6⟩=>⟨g,cap,cur,h4,by omega,h6⟩⟩,h3⟩
def ltD (b:Nat) (d:D):D:=.p (fun B w x=>d.OfB B w x∧∀ g,x.ownBlock=some g->g<b) (fun _ _ _ _ g h=>⟨h.1.keep g,h.2⟩) (fun _ _ _ _ g h=>⟨h.1.up g,h.2⟩)
section
variable {P:Program} {n B:Nat} {ops:Array Oper} {E:Env} {ty:TypeId} {pos:String} {after:Array Edge}
theorem eff_newTo{o:Oper}{d r:Nat}{T:TypeId}{dr:D}{dr':Nat->D}(hd:o.dst=some d)(hg:o.guard=none)
  (hrun:∀ (κ:Cx) a w,St κ n B E a w->(execOp a.eval o).run P w = .ok (.value (.pointer (some ⟨w.heap.size,0,none⟩))) (w.alloc (.cells xs.toArray T)))(hdn:d<n)
  (hr:E.look r=some dr)(h':∀ w x,dr.Of w x->(dr' w.heap.size).Of w x):
  EffG P n B ops o E (NewB B E) (fun b=>(d,.v (.pointer (some ⟨b,0,none⟩)))::(k,blk b T xs)::(r,dr' b)::E):=by
 intro κ a w K Q h hK
 rw[if_pos (by simp[Region.wanted,hg])]
 refine opR (not_defer (hrun κ a w h)) ?_
 unfold Oper.wp
 rw[hrun κ a w h,Oper.upon_value,hd]
 have hbel:Below B w (w.alloc (.cells xs.toArray T)):=(Below.refl B w).alloc h.base _
 refine hK w.heap.size _ _ ⟨h.base,fun s b' e ys hs=>(h.of s _ hs).1⟩ hbel (St.put ?_ hdn rfl)
 have hst:=(h.push (t:=r) (d:=dr' w.heap.size) (h' w _ (h.of r _ hr))).grow (Grow.alloc w (.cells xs.toArray T))
 refine⟨hst.base,hst.defers,hst.size,fun s e he=>?_⟩
 by_cases hks:k=s
 ·subst hks
  rw[look_here] at he; injection he with he; subst he
  exact⟨by simp,heap_alloc_new w _⟩
 ·rw[look_past _ _ hks] at he
  exact hst.of s e he
end
end
section
variable {κ:Cx}
section
variable {P:Program} {n B:Nat} {ops:Array Oper} {E:Env} {ty:TypeId} {pos:String} {after:Array Edge}
theorem eff_appendG{t:TypeId}{z:Value}{r x:Operand}{dst:Nat}{us:List Value}(ht:P.underlying t=some (.slice e))(hinfo:InfoP P e z sz nb)(hsz:0<sz)(hnb:nb<=4096)(hz1:z.cells.size=sz)
  (hr:E.at r=some (ownP B e sz k xs))(hx:E.at x=some (oneP us))(hu:us.length=sz)(h1:us.all (·.oneCell')=true)(hk:k<=1048576)(hdst:dst<n)(hl:∀ g,B<=g->LeftS B e g E' E):
  Eff P n B ops ⟨some dst,.call { callee:=.builtin .append,args:=#[r,x],argTypes:=#[t,t] },ty,pos,after,none⟩ E ((dst,ownP B e sz (k+1) (xs++us))::E'):=by
 obtain⟨i,hi,hz,hs,hby⟩:=hinfo.get
 intro κ a w K Q h hK
 obtain⟨hown,hob⟩:=h.at_ r _ hr
 obtain⟨ad,hxe,_,hcell⟩:=h.at_ x _ hx
 have hbb:(k+1)*i.bytes<=(k+1)*4096:=Nat.mul_le_mul_left _ (by omega)
 obtain⟨v',w',hrun,h3,h4,_,h5⟩:=run_append_own_at (P:=P) w B t ty e i z sz i.bytes ht hi hz hs rfl hz1 hsz (a.eval r) k xs hown ad 1 1 us (by omega) hcell (fun u hu=>List.all_eq_true.1 h1 u hu) (by simp only[maxLen]; omega) (by omega) h.base
 have hexec:(execOp a.eval ⟨some dst,.call { callee:=.builtin .append,args:=#[r,x],argTypes:=#[t,t] },ty,pos,after,none⟩).run P w = .ok (.value v') w':=by
  simp[execOp,resolve,invoke,builtin,hxe,hrun]
 rw[if_pos (by simp[Region.wanted])]
 refine opR (by nofun) ?_
 unfold Oper.wp
 rw[hexec,Oper.upon_value]
 have hbase:∀ g,(a.eval r).ownBlock=some g->B<=g:=fun g hg=>by
  rcases hown.2 with ⟨hv,_⟩|⟨g',cap,cur,hv,hb,_⟩
  ·rw[hv] at hg; simp[Value.ownBlock] at hg
  ·rw[hv] at hg; simp[Value.ownBlock] at hg; omega
 have hbel:Below B w w':=(Below.refl B w).grown h4 h.base hbase
 have hlt:∀ g,v'.ownBlock=some g->g<w'.heap.size:=fun g hg=>by
  rcases h3.2 with ⟨hv,_⟩|⟨g',cap,cur,hv,_,hh,_⟩
  ·rw[hv] at hg; simp[Value.ownBlock] at hg
  ·rw[hv] at hg; simp[Value.ownBlock] at hg; subst hg
   rcases Nat.lt_or_ge g' w'.heap.size with h|h
   ·exact h
   ·rw[Array.getElem?_eq_none h] at hh; cases hh
 have hwr:∃ g,B<=g∧Wrote B e g w w':=by
  rcases hown.2 with ⟨hv,_⟩|⟨g',cap,cur,hv,hb,hh,_⟩
  ·refine⟨w.heap.size,h.base,h.base,h4.os,h4.tape,h4.output,h4.size,fun o hx=>?_,fun k hk _=>h4.block k hk (by rw[hv]; simp[Value.ownBlock])⟩
   rw[Array.getElem?_eq_none (Nat.le_refl _)] at hx; cases hx
  ·refine⟨g',hb,hb,h4.os,h4.tape,h4.output,h4.size,fun o hx=>?_,fun k hk hne=>h4.block k hk (by rw[hv]; simp[Value.ownBlock]; omega)⟩
   rw[hh] at hx; injection hx with hx; exact⟨_,_,hx.symm⟩
 obtain⟨g,hg,hwr⟩:=hwr
 exact hK _ _ hbel (((hl g hg).st h hwr).put hdst ⟨h3,hlt⟩)
end
end
section
variable {κ:Cx}
theorem RowX.keepB{lo:Nat}{w':World}{A:Option Addr}(h:RowX lo e B w A xs)(g:Below B w w'): RowX lo e B w' A xs:=h.other (Nat.le_refl _) fun b _ _ _ hb _=>g.block b hb
theorem RowX.upB{lo:Nat}{B':Nat}{A:Option Addr}(h:RowX lo e B w A xs)(g:B<=B'): RowX lo e B' w A xs:=h.other g fun _ _ _ _ _ _=>rfl
theorem RowX.wrote{lo:Nat}{T:Nat}{w':World}{A:Option Addr}(h:RowX lo e w.heap.size w A xs)(k:Wrote B T g w w')(hne:e≠T): RowX lo e w'.heap.size w' A xs :=
 h.other k.size fun b cur fr _ hb hh=>k.other b hb fun hbg=>by subst hbg; exact hne (k.row _ _ _ hh)
theorem RowX.blk{lo:Nat}{cs:Array Value}{fr:Nat×Nat}(hlo:lo<=b)(hb:b<B)(hh:w.heap[b]?=some (.cells cs e fr))(hx:∀ (j:Nat) (u:Value),xs[j]?=some u->cs[j]?=some u): RowX lo e B w (some ⟨b,0,none⟩) xs:=fun j u hu =>
 ⟨_,rfl,hlo,hb,⟨cs,fr,hh⟩,by rw[add_lit0,Nat.zero_add]; simp[World.cell?,hh,hx j u hu]⟩
def rowXD (e:TypeId) (n:Nat) (xs:List Value):D :=
 .p (fun B w x=>∃ A q,x = .slice A n q∧RowX 0 e B w A xs) (fun _ _ _ _ g ⟨A,q,h1,h2⟩=>⟨A,q,h1,h2.keepB g⟩) (fun _ _ _ _ g ⟨A,q,h1,h2⟩=>⟨A,q,h1,h2.upB g⟩)
def rowT (e:TypeId) (h:List Con):D:=rowXD e (h.length+1) (rowC h)
theorem rowX_row: Le (rowXD e n xs) (rowD n xs):=fun B w x ⟨A,q,h1,h2⟩=>⟨A,q,h1,h2.row⟩
theorem rowT_row{h:List Con}: Le (rowT e h) (rowD (h.length+1) (rowC h)):=rowX_row
theorem rowX_one(B:Nat)(w:World)(x:Value)(h:(rowXD e n xs).OfB B w x): x.oneCell'=true:=by
 obtain⟨A,q,rfl,_⟩:=h; rfl
theorem rowXD_one'{x:Value}(h:(rowXD e n xs).OfB B w x): x.oneCell'=true:=rowX_one B w x h
theorem Surv.rowX{T:Nat}(h:e≠T): Surv B T g (rowXD e n xs):=fun w w' x k ⟨A,q,h1,h2⟩=>⟨A,q,h1,h2.wrote k h⟩
theorem Surv.rowT{T:Nat}{h:List Con}(hne:e≠T): Surv B T g (Go.Proofs.YtjigbkamgfidkaaGreatDoor.rowT e h):=Surv.rowX hne
theorem ownP_rowX{base:Nat}: Le (ownP base e sz n xs) (rowXD e n xs):=fun B w x ⟨⟨hl,h2⟩,hlt⟩=>by
 rcases h2 with ⟨rfl,rfl⟩|⟨g,cap,cur,rfl,_,hh,_,_,_,htk⟩
 ·refine⟨none,0,rfl,fun j u hu=>?_⟩
  have:xs=[]:=List.length_eq_zero_iff.1 (by omega)
  subst this; cases hu
 ·refine⟨_,_,rfl,RowX.blk (Nat.zero_le _) (hlt g rfl) hh fun j u hu=>?_⟩
  rw[<- htk,List.getElem?_take] at hu
  split at hu
  ·simpa using hu
  ·cases hu
def lstT (e:TypeId) (ds:List D):D :=
 .p (fun B w x=>∃ (A:Option Addr) (q:Nat) (vs:List Value),x = .slice A ds.length q∧ds.length<=q∧q<=maxLen∧vs.length=ds.length∧RowX 0 e B w A vs∧∀ (j:Nat) (d:D) (u:Value),ds[j]?=some d->vs[j]?=some u->d.OfB B w u)
  (fun _ _ _ _ g ⟨A,q,vs,h1,h2,h3,h4,h5,h6⟩=>⟨A,q,vs,h1,h2,h3,h4,h5.keepB g,fun j d u hd hu=>(h6 j d u hd hu).keep g⟩) (fun _ _ _ _ g ⟨A,q,vs,h1,h2,h3,h4,h5,h6⟩=>⟨A,q,vs,h1,h2,h3,h4,h5.upB g,fun j d u hd hu=>(h6 j d u hd hu).up g⟩)
theorem lstT_lst: Le (lstT e ds) (lst ds):=fun B w x ⟨A,q,vs,h1,h2,h3,h4,h5,h6⟩=>⟨q,A,vs,h1,h2,h3,h4,h5.row,h6⟩
theorem Surv.lstT{T:Nat}(h:e≠T)(hd:∀ d∈ds,Surv B T g d): Surv B T g (Go.Proofs.YtjigbkamgfidkaaGreatDoor.lstT e ds):=fun w w' x k ⟨A,q,vs,h1,h2,h3,h4,h5,h6⟩ =>
 ⟨A,q,vs,h1,h2,h3,h4,h5.wrote k h,fun j d u hd' hu=>hd d (List.mem_of_getElem? hd') _ _ _ k (h6 j d u hd' hu)⟩
def ownL (base:Nat) (e:TypeId) (ds:List D):D :=
 .p (fun B w x=>∃ vs:List Value,(own base e ds.length vs).OfB B w x∧vs.length=ds.length∧∀ (j:Nat) (d:D) (u:Value),ds[j]?=some d->vs[j]?=some u->d.OfB B w u)
  (fun _ _ _ _ g ⟨vs,h1,h2,h3⟩=>⟨vs,h1.keep g,h2,fun j d u hd hu=>(h3 j d u hd hu).keep g⟩) (fun _ _ _ _ g ⟨vs,h1,h2,h3⟩=>⟨vs,h1.up g,h2,fun j d u hd hu=>(h3 j d u hd hu).up g⟩)
theorem ownL_lstT{base:Nat}: Le (ownL base e ds) (lstT e ds):=fun B w x ⟨vs,⟨⟨_,h2⟩,h3⟩,h4,h5⟩=>by
 rcases h2 with ⟨rfl,h0⟩|⟨g,cap,cur,rfl,_,hh,hnc,hcm,_,htk⟩
 ·refine⟨none,0,vs,by rw[h0],by omega,Nat.zero_le _,h4,fun j u hu=>?_,h5⟩
  have:vs=[]:=List.length_eq_zero_iff.1 (by omega)
  subst this; cases hu
 ·refine⟨_,cap,vs,rfl,hnc,hcm,h4,RowX.blk (Nat.zero_le _) (h3 g rfl) hh fun j u hu=>?_,h5⟩
  rw[<- htk,List.getElem?_take] at hu
  split at hu
  ·simpa using hu
  ·cases hu
theorem ownL_nil{base:Nat}: Le (.v (.slice none 0 0)) (ownL base e []):=fun B w x h=>⟨[],own_nil _ _ _ h,rfl,fun j d u hd=>by simp at hd⟩
theorem ownL_one{base:Nat}(w:World)(x:Value)(h:(ownL base e ds).Of w x): x.oneCell'=true:=by
 obtain⟨vs,h1,_⟩:=h; exact own_one h1
theorem Surv.ownL{T base:Nat}(h:e≠T)(hd:∀ d∈ds,Surv B T g d): Surv B T g (Go.Proofs.YtjigbkamgfidkaaGreatDoor.ownL base e ds):=fun w w' x k ⟨vs,h1,h2,h3⟩ =>
 ⟨vs,Surv.own h w w' x k h1,h2,fun j d u hd' hu=>hd d (List.mem_of_getElem? hd') _ _ _ k (h3 j d u hd' hu)⟩
theorem ownL_eq{base:Nat}{es:List D}(h:ds=es): ownL base e ds=ownL base e es:=by rw[h]
def refD (tl tv:TypeId) (S:Dk):D:=tlD [] (lstT tl (S.map (rowT tv)))
theorem Agg.ref{tl tv:TypeId}{S:Dk}: Agg 1 (refD tl tv S):=Agg.tl rfl rfl
theorem Surv.rows{T:Nat}{tv:TypeId}{S:Dk}(h:tv≠T): ∀ d∈S.map (Go.Proofs.YtjigbkamgfidkaaGreatDoor.rowT tv),Surv B T g d:=fun d hd=>by
 obtain⟨x,_,rfl⟩:=List.mem_map.1 hd
 exact Surv.rowT h
theorem Surv.rowsA{T:Nat}{tv:TypeId}{S:Dk}{x:List Con}(h:tv≠T): ∀ d∈S.map (Go.Proofs.YtjigbkamgfidkaaGreatDoor.rowT tv)++[Go.Proofs.YtjigbkamgfidkaaGreatDoor.rowT tv x],Surv B T g d:=fun d hd=>(List.mem_append.1 hd).elim (Surv.rows h d) fun hd=>by
 rw[List.mem_singleton.1 hd]; exact Surv.rowT h
theorem rep_next(f:List Con->D)(i:Nat): (List.replicate i []).map f++[f []]=(List.replicate (i+1) []).map f:=by rw[List.replicate_succ',List.map_append]; rfl
theorem ownP_one{base:Nat}{x:Value}(h:(ownP base e sz n xs).Of w x): x.oneCell'=true:=rowXD_one' (ownP_rowX _ _ _ h)
theorem put_row0{base i0:Nat}{S:Dk}{c:Con}(h:i0≠i): Le (ownP base e 2 ((hisC S i).length+1) (rowC (hisC S i))) (rowT e (hisC (putC S i0 c) i)):=by
 rw[his_put_ne c h]; exact ownP_rowX
theorem put_row1{base:Nat}{S:Dk}{c:Con}(h:i<S.length): Le (ownP base e 2 ((hisC S i).length+1+1) (rowC (hisC S i)++cV c)) (rowT e (hisC (putC S i c) i)):=by
 rw[his_put c h,<- rowC_cons]; exact ownP_rowX
theorem Surv.ref{T:Nat}{tl tv:TypeId}{S:Dk}(h1:tl≠T)(h2:tv≠T): Surv B T g (refD tl tv S):=Surv.tl (Surv.lstT h1 (Surv.rows h2))
theorem row_get{S:Dk}{tv:TypeId}(h:i<S.length): (S.map (rowT tv))[i]?=some (rowT tv (hisC S i)):=by rw[List.getElem?_map,his_get h]; rfl
theorem rows_take{S:Dk}{tv:TypeId}(h:i<S.length): (S.take i).map (rowT tv)++[rowT tv (hisC S i)]=(S.take (i+1)).map (rowT tv):=by
 rw[List.take_succ_eq_append_getElem h,List.map_append]
 have:S[i]=hisC S i:=by have:=his_get h; rw[List.getElem?_eq_getElem h] at this; injection this
 rw[this]; rfl
theorem blk_varD{T:TypeId}{u:Value}(h:Le (.v u) d): Le (blk b T [u]) (varD b T d):=fun B w x ⟨h1,h2⟩=>⟨h1,u,h2,h _ _ _ rfl⟩
section
variable {P:Program} {w₀:World} {n:Nat} {c:Code} {E:Env} {Q:Exit->Act->World->Prop}
theorem A.openD{k':Nat}{T:TypeId}(hk:E.look k=some (varD b T d))(h1:∀ w x,d.Of w x->x.oneCell'=true)(h:∀ v:Value,v.oneCell'=true->A κ P w₀ n c ((k,blk b T [v])::(k',valM v d)::E) Q): A κ P w₀ n c E Q:=fun a w g hs=>by
 obtain⟨h2,v,h3,h4⟩:=hs.of k _ hk
 exact h v (h1 w v h4) a w g ((hs.push (t:=k') (d:=valM v d) h4).push (t:=k) (d:=blk b T [v]) ⟨h2,h3⟩)
end
section
variable {P:Program} {B:Nat} {E:Env} {dst:Option Tmp} {ty:TypeId} {pos:String} {after:Array Edge} {guard:Option (Nat×Bool)}
theorem ok_loadDS{T:TypeId}{x:Operand}(hsl:vbase<=s)(ht:P.underlying T=some td)(hp:(match td with | .struct _ | .array _ _=>true|_=>false)=true)(hsz:SizeIs P T 1)(h1:∀ w x,d.Of w x->x.oneCell'=true)
  (hx:E.at x=some (.v (.pointer (some ⟨b,0,none⟩))))(hblk:E.look s=some (varD b e d)): OpOk P B ⟨dst,.load T x,ty,pos,after,guard⟩ E (tlD [] d):=fun ρ w _ hv hρ=>by
 have h0:ρ x=_:=hρ x (by simp[Op.operands]) _ hx
 obtain⟨hlt,u,hh,hd⟩:=hv s _ hsl hblk
 exact out_val (x:=aggV [u]) (w':=w) (by simp[execOp,h0,Instr.loadAt,Instr.sureAddr,load_cell (xs:=[u]) ht hp hsz hh]) ⟨Grow.refl w,u,h1 w u hd,rfl,hd⟩
theorem ok_build1X{t:TypeId}{z:Value}{x:Operand}{us:List Value}(ht:P.underlying t=some (.slice e))(hs:InfoP P e z sz nb)(hz:z.cells.size=sz)(h0:sz<=65536)(hsz:0<sz)(hx:E.at x=some (.v (aggV us)))(hu:us.length=sz):
  OpOk P B ⟨dst,.buildSlice t 1 #[(0,x)],ty,pos,after,guard⟩ E (rowXD e 1 us):=fun ρ w _ _ hρ=>by
 obtain⟨i,hi,hzv,hsize,_⟩:=hs.get
 have h1:ρ x=aggV us:=hρ x (by simp[Op.operands]) _ hx
 have hfill:Instr.fill (fun j=>some (j*i.size,i.size)) ((Array.range (1*i.size)).map (z.cells[·%z.cells.size]!)) [(0,ρ x)]=some us.toArray:=by
  have hlen:((Array.range (1*i.size)).map (z.cells[·%z.cells.size]!)).size=us.length:=by simp[hsize,hu]
  rw[h1]
  have hc:(aggV us).cells=us.toArray:=rfl
  unfold Instr.fill
  simp only[Nat.zero_mul]
  rw[hc,if_neg (by simp[hsize,hu])]
  have hg:=fill_go us ((Array.range (1*i.size)).map (z.cells[·%z.cells.size]!)).toList [] (by rw[Array.length_toList,hlen])
  simp only[List.nil_append,List.length_nil,Array.toArray_toList] at hg
  rw[show us.toArray.zipIdx.foldl (fun cs (x:Value×Nat)=>match x with|(c,j)=>cs.setIfInBounds (0+j) c) ((Array.range (1*i.size)).map (z.cells[·%z.cells.size]!))=us.toArray from by
   rw[<- Array.foldl_toList,Array.toList_zipIdx]; exact hg]
  rfl
 have hr:=run_buildSlice (P:=P) w t e 1 #[(0,ρ x)] us.toArray i z ht hi hzv (by rw[hsize]; omega) (by rw[hsize]; omega) (by simpa using hfill)
 refine out_val (x:=.slice (some ⟨w.heap.size,0,none⟩) 1 1) (w':=w.alloc (.cells us.toArray e)) (by simp[execOp,hr]) ⟨Grow.alloc w _,_,_,rfl,RowX.blk (Nat.zero_le _) (by simp) (heap_alloc_new w (.cells us.toArray e)) fun j u hu=>by simpa using hu⟩
theorem ok_appendNil{t:TypeId}{z:Value}{x:Operand}{f:D}(ht:P.underlying t=some (.slice e))(hinfo:InfoP P e z sz nb)(hsz:0<sz)(hnb:nb<=64)(hz1:z.cells.size=sz)
  (hx:E.at x=some f)(hf:Le f (rowD m ys))(h1:ys.all (·.oneCell')=true)(hl:ys.length=m*sz)(hk:m<=1099511627776):
  OpOk P B ⟨dst,.call { callee:=.builtin .append,args:=#[.const (.slice none 0 0),x],argTypes:=#[t,t] },ty,pos,after,guard⟩ E (ownP B e sz m ys):=fun ρ w hB hv hρ=>by
 have h0:ρ (.const (.slice none 0 0)) = .slice none 0 0:=hρ (.const (.slice none 0 0)) (by simp[Op.operands,Call.operands]) _ rfl
 obtain⟨A,c,hxe,hrow⟩:=hf.of (hρ x (by simp[Op.operands,Call.operands]) _ hx)
 obtain⟨v',w',hrun,h3,h4⟩:=append_ownP (B:=w.heap.size) (ty:=ty) (k:=0) (xs:=[]) (v:=.slice none 0 0) ht hinfo hsz hnb hz1 ⟨by simp,.inl ⟨rfl,rfl⟩⟩ hxe hrow h1 hl (by omega) (Nat.le_refl _)
 rw[Nat.zero_add,List.nil_append] at h3
 have h5:w'.ownsRow B e sz v' m ys:=⟨h3.1,h3.2.imp id (by rintro ⟨g,cap,cur,h6,h7,h8⟩; exact⟨g,cap,cur,h6,by omega,h8⟩)⟩
 exact out_val (x:=v') (w':=w') (by simp[execOp,resolve,invoke,builtin,h0,hrun]) ⟨h4,h5,lt_of_row h5⟩
end
section
variable {P:Program} {n B:Nat} {ops:Array Oper} {E:Env} {ty:TypeId} {pos:String} {after:Array Edge}
theorem eff_appendL{t:TypeId}{z:Value}{r x:Operand}{dst:Nat}{f₀ f:D}(ht:P.underlying t=some (.slice e))(hinfo:InfoIs P e z nb)(hnb:nb<=64)(hz1:z.cells.size=1)
  (hr:E.at r=some f₀)(hr':Le f₀ (ownL B e ds))(hx:E.at x=some f)(hf:Le f (lst [d]))(h1:∀ w u,d.Of w u->u.oneCell'=true)(hs:∀ g,∀ d'∈ds,Surv B e g d')(hs':∀ g,Surv B e g d)(hk:ds.length+1<=1099511627776)(hdst:dst<n)(hl:∀ g,B<=g->LeftS B e g E' E):
  Eff P n B ops ⟨some dst,.call { callee:=.builtin .append,args:=#[r,x],argTypes:=#[t,t] },ty,pos,after,none⟩ E ((dst,ownL B e (ds++[d]))::E'):=by
 obtain⟨i,hi,hz,hs1,hby⟩:=hinfo.get
 intro κ a w K Q h hK
 obtain⟨vs,⟨hown,hob⟩,hvl,hvd⟩:=hr'.of (h.at_ r _ hr)
 obtain⟨c,A,us,hxe,hle,hcm,hul,hrow,hus⟩:=hf.of (h.at_ x _ hx)
 simp only[List.length_cons,List.length_nil,Nat.zero_add] at hxe hle hul
 match us,hul with
 | [u],_ =>
 obtain⟨ad,hA,hab,hc0⟩:=hrow 0 u rfl
 subst hA
 have hdu:d.Of w u:=hus 0 d u rfl rfl
 have hu1:=h1 w u hdu
 have hbb:(ds.length+1)*i.bytes<=(ds.length+1)*64:=Nat.mul_le_mul_left _ (by omega)
 obtain⟨v',w',hrun,h3,h4,_,h6⟩:=run_append_own_at (P:=P) w B t ty e i z 1 i.bytes ht hi hz hs1 rfl hz1 (by omega) (a.eval r) ds.length vs hown ad 1 c [u] (by simp) hrow.cell (fun v hv=>by rw[List.mem_singleton.1 hv]; exact hu1) (by simp only[maxLen]; omega) (by omega) h.base
 have hexec:(execOp a.eval ⟨some dst,.call { callee:=.builtin .append,args:=#[r,x],argTypes:=#[t,t] },ty,pos,after,none⟩).run P w = .ok (.value v') w':=by
  simp[execOp,resolve,invoke,builtin,hxe,hrun]
 rw[if_pos (by simp[Region.wanted])]
 refine opR (by nofun) ?_
 unfold Oper.wp
 rw[hexec,Oper.upon_value]
 have hbase:∀ g,(a.eval r).ownBlock=some g->B<=g:=fun g hg=>by
  rcases hown.2 with ⟨hv,_⟩|⟨g',cap,cur,hv,hb,_⟩
  ·rw[hv] at hg; simp[Value.ownBlock] at hg
  ·rw[hv] at hg; simp[Value.ownBlock] at hg; omega
 have hbel:Below B w w':=(Below.refl B w).grown h4 h.base hbase
 have hwr:∃ g,B<=g∧Wrote B e g w w':=by
  rcases hown.2 with ⟨hv,_⟩|⟨g',cap,cur,hv,hb,hh,_⟩
  ·refine⟨w.heap.size,h.base,h.base,h4.os,h4.tape,h4.output,h4.size,fun o hx=>?_,fun k hk _=>h4.block k hk (by rw[hv]; simp[Value.ownBlock])⟩
   rw[Array.getElem?_eq_none (Nat.le_refl _)] at hx; cases hx
  ·refine⟨g',hb,hb,h4.os,h4.tape,h4.output,h4.size,fun o hx=>?_,fun k hk hne=>h4.block k hk (by rw[hv]; simp[Value.ownBlock]; omega)⟩
   rw[hh] at hx; injection hx with hx; exact⟨_,_,hx.symm⟩
 obtain⟨g,hg,hwr⟩:=hwr
 have hst:St κ n B E' a w':=(hl g hg).st h hwr
 refine hK _ _ hbel (hst.put hdst ⟨vs++[u],⟨by simpa using h3,lt_of_row h3⟩,by simp[hvl],fun j d' u' hd' hu'=>?_⟩)
 rcases Nat.lt_or_ge j ds.length with hj|hj
 ·rw[List.getElem?_append_left hj] at hd'
  rw[List.getElem?_append_left (by omega)] at hu'
  exact hs g d' (List.mem_of_getElem? hd') _ _ _ hwr (hvd j d' u' hd' hu')
 ·rw[List.getElem?_append_right hj] at hd'
  rw[List.getElem?_append_right (by omega)] at hu'
  have hj0:j-ds.length=0:=by
   have:=(List.getElem?_eq_some_iff.1 hd').1
   simp at this; omega
  rw[hj0] at hd'
  rw[hvl,hj0] at hu'
  simp at hd' hu'
  subst hd'; subst hu'
  exact hs' g _ _ _ hwr hdu
end
end
section
variable {κ:Cx}
section
variable {P:Program} {n B:Nat} {ops:Array Oper} {E:Env} {ty:TypeId} {pos:String} {after:Array Edge}
theorem eff_allocLtM{T:TypeId}{zs:List Value}{d r base:Nat}{v:Value}(hz:ZeroIs P T zs)(hdn:d<n)(hr:E.look r=some (valM v (ownP base e sz m xs))):
  EffG P n B ops ⟨some d,.alloc T,ty,pos,after,none⟩ E (NewB B E) (fun b=>(d,.v (.pointer (some ⟨b,0,none⟩)))::(k,blk b T zs)::(r,valM v (ltD b (ownP base e sz m xs)))::E) :=
 eff_newTo (dr':=fun b=>valM v (ltD b (ownP base e sz m xs))) rfl rfl (fun _ a w _=>by
  obtain⟨i,z,hi,hz,hc⟩:=hz.get
  simp[execOp,Instr.alloc,zeroValue,typeInfo,hi,hz,newVar,newRow,hc]) hdn hr fun w x h=>⟨h,h.2⟩
theorem Eff.named{o:Oper}{dst:Nat}(h1:∀ w x,d.Of w x->x.oneCell'=true)(hk:vbase<=k)(hn:n<=vbase)(hne:dst<n)(h:Eff P n B ops o E ((dst,d)::E')):
  EffG P n B ops o E (fun v:Value=>v.oneCell'=true) (fun v=>(dst,.v v)::(k,valM v d)::E'):=fun κ a w K Q hs hK =>
 h κ a w K Q hs fun a' w' hb hs'=>by
  have hd:=hs'.of dst d (look_here _ _ _)
  refine hK _ a' w' (h1 _ _ hd) hb ⟨hs'.base,hs'.defers,hs'.size,fun t e he=>?_⟩
  by_cases hts:dst=t
  ·subst hts
   rw[look_here] at he; injection he with he; subst he
   rfl
  ·rw[look_past _ _ hts] at he
   by_cases htk:k=t
   ·subst htk
    rw[look_here] at he; injection he with he; subst he
    exact hd
   ·rw[look_past _ _ htk] at he
    exact hs'.of t e ((look_past _ _ hts).trans he)
end
end
section
variable {κ:Cx}
def newY (base:Nat) (e:TypeId) (val:Nat->Value) (xs:List Value):D :=
 .p (fun B w x=>∃ b ys,x=val b∧base<=b∧b<B∧w.heap[b]?=some (.cells (xs++ys).toArray e (0,0)))
  (fun _ _ _ _ g ⟨b,ys,h1,h2,h3,h4⟩=>⟨b,ys,h1,h2,h3,(g.block b h3).trans h4⟩) (fun _ _ _ _ g ⟨b,ys,h1,h2,h3,h4⟩=>⟨b,ys,h1,h2,by omega,h4⟩)
theorem newY_mono{val:Nat->Value}(B B':Nat)(h:B<=B'): Le (newY B' e val xs) (newY B e val xs):=fun _ _ _ ⟨b,ys,h1,h2,h3⟩=>⟨b,ys,h1,by omega,h3⟩
section
variable {P:Program} {n B:Nat} {ops:Array Oper} {E:Env}
def NewY (B:Nat) (E:Env) (x:Nat×List Value):Prop:=B<=x.1∧∀ s b' e xs,E.look s=some (blk b' e xs)->b'<x.1
theorem eff_nameY{o:Oper}{d:Nat}{val:Nat->Value}(ht:o.dst=some d)(hg:o.guard=none)(hok:∀ B',OpOk P B' o E (newY B' e val xs))(hdn:d<n)(hnv:n<=vbase):
  EffG P n B ops o E (NewY B E) (fun x=>(d,.v (val x.1))::(k,blk x.1 e (xs++x.2))::E):=by
 intro κ a w K Q h hK
 rw[if_pos (by simp[Region.wanted,hg])]
 refine wp_of_out ht ((hok w.heap.size a.eval w (Nat.le_refl _) (h.virt hnv) fun x _ u hu=>h.at_ x _ hu).mono ?_)
 rintro x w' ⟨hgr,b,ys,rfl,hb,hlt,hh⟩
 refine hK (b,ys) _ _ ⟨Nat.le_trans h.base hb,fun s b' e ys hs=>Nat.lt_of_lt_of_le (h.of s _ hs).1 hb⟩ (Below.mono hgr h.base) (St.put ?_ hdn rfl)
 exact(h.grow hgr).push (t:=k) (d:=blk b e (xs++ys)) ⟨hlt,hh⟩
end
section
variable {P:Program} {n:Nat} {E:Env} {w₀:World} {c:Code} {Q:Exit->Act->World->Prop}
theorem A.openRowY{k' base:Nat}{v:Value}(hk:E.look k=some (valM v (ownP base e sz m xs)))(hx:0<xs.length)(h:∀ (g q:Nat) (ys:List Value),base<=g->m<=q->v = .slice (some ⟨g,0,none⟩) m q->A κ P w₀ n c ((k',blk g e (xs++ys))::E) Q): A κ P w₀ n c E Q:=fun a w g hs=>by
 have h0:(ownP base e sz m xs).OfB w.heap.size w v:=hs.of k _ hk
 obtain⟨⟨hl,h2⟩,hlt⟩:=h0
 rcases h2 with ⟨rfl,rfl⟩|⟨b,cap,cur,rfl,hb,hh,hnc,h5,h6⟩
 ·omega
 ·have hcur:xs++cur.toList.drop xs.length=cur.toList:=by
   have:cur.toList.take xs.length=xs:=by
    first|exact h6|(rw[hl]; exact h6)|(obtain⟨h6,h7⟩:=h6; first|exact h6|exact h7|(rw[hl]; exact h6)|(rw[hl]; exact h7))|skip
   conv=>rhs; rw[<- List.take_append_drop xs.length cur.toList,this]
  refine h b cap (cur.toList.drop xs.length) hb hnc rfl a w g (hs.push (t:=k') (d:=blk b e (xs++cur.toList.drop xs.length)) ⟨hlt b (by simp[Value.ownBlock]),?_⟩)
  rw[hcur]; exact hh
end
end
section
variable {κ:Cx}
section
variable {P:Program} {f:FuncId} {M:Env} {T g:Nat} {xs ys:List Value} {ds:List D} {u:Value}
theorem FnWR.tl{pre:List Value}(h:∀ v:Value,v.oneCell'=true->FnWR P f ((k,valM v d)::M) T g xs ys (.v (aggV (pre++[v]))::ds) u): FnWR P f M T g xs ys (tlD pre d::ds) u :=
 ⟨(h (.bool true) rfl).body,fun vs w hl hv hM=>by
  cases vs with
  | nil=>cases hl
  | cons x vs =>
   obtain⟨v,h1,h2,h3⟩:=hv 0 _ x rfl rfl
   refine(h v h1).calls (x::vs) w hl (fun j e y he hy=>?_) fun p hp=>?_
   ·cases j with
    | zero=>cases he; cases hy; exact h2
    | succ j=>exact hv (j+1) e y he hy
   ·rcases List.mem_cons.1 hp with rfl|hp
    ·exact h3
    ·exact hM p hp⟩
end
section
variable {P:Program} {n:Nat} {w₀ w₁:World} {E:Env} {c:Code} {Q:Exit->Act->World->Prop}
theorem End.wroteRT{T kb kw r r':Nat}{T' e':TypeId}{zs:List Value}{v:Value}{x:Exit}(hex:x = .ret∨x = .normal)(hr:fn.results=#[.cell r T',.tmp r'])(ht:P.underlying T'=some td)(hp:(match td with | .struct _ | .array _ _=>true|_=>false)=true)
  (hsz:SizeIs P T' zs.length)(h1:E.look r=some (.v (.pointer (some ⟨b,0,none⟩))))(h2:E.look s=some (blk b e' zs))(h5:E.look r'=some (.v v))(hb:E.look kb=some (blk g T xs))(hx:xs=ys)(hw:E.look kw=some (wroteD T g w₁)):
  End Cx.top w₀ n E (BP P fn (fun e w'=>e = .returned (.tuple #[aggV zs,v])∧Wrote g T g w₁ w'∧w'.heap[g]?=some (.cells ys.toArray T (0,0))) x):=fun a w _ hs=>by
 subst hx
 have h3:a.tmps[r]?.getD undef = .pointer (some ⟨b,0,none⟩):=by rw[<- Array.getD_eq_getD_getElem?]; exact hs.of r _ h1
 have h6:a.tmps[r']?.getD undef=v:=by rw[<- Array.getD_eq_getD_getElem?]; exact hs.of r' _ h5
 obtain⟨_,hh⟩:=hs.of s _ h2
 have key:LeavesInM (FR none) 0 P fn a.tmps (fun e w'=>e = .returned (.tuple #[aggV zs,v])∧Wrote g T g w₁ w'∧w'.heap[g]?=some (.cells xs.toArray T (0,0))) a.defers .returning w:=by
  rw[show a.defers=[] from hs.defers]
  exact⟨.tuple #[aggV zs,v],by simp[results,hr,h3,h6,asAddr,load_cell ht hp hsz hh],rfl,(hs.of kw _ hw).2,(hs.of kb _ hb).2⟩
 rcases hex with rfl|rfl
 ·exact key
 ·exact key
theorem End.cell3V{r r' s' b' q:Nat}{T T' e':TypeId}{td':TypeDesc}{zs:List Value}{v u:Value}(hr:fn.results=#[.cell r T,.cell r' T',.tmp q])(ht:P.underlying T=some td)(ht':P.underlying T'=some td')(hp:(match td with | .struct _ | .array _ _=>true|_=>false)=true)(hp':(match td' with | .struct _ | .array _ _=>true|_=>false)=true)
  (hsz:SizeIs P T ys.length)(hsz':SizeIs P T' zs.length)(h1:E.look r=some (.v (.pointer (some ⟨b,0,none⟩))))(h2:E.look s=some (blk b e ys))(h3:E.look r'=some (.v (.pointer (some ⟨b',0,none⟩))))(h4:E.look s'=some (blk b' e' zs))(h5:E.look q=some (.v v))(hu:.tuple #[aggV ys,aggV zs,v]=u):
  End Cx.top w₀ n E (BP P fn (PostOf w₀ (.v u)) .ret):=fun a w gr hs=>by
 subst hu
 have k1:a.tmps[r]?.getD undef = .pointer (some ⟨b,0,none⟩):=by rw[<- Array.getD_eq_getD_getElem?]; exact hs.of r _ h1
 have k3:a.tmps[r']?.getD undef = .pointer (some ⟨b',0,none⟩):=by rw[<- Array.getD_eq_getD_getElem?]; exact hs.of r' _ h3
 have k5:a.tmps[q]?.getD undef=v:=by rw[<- Array.getD_eq_getD_getElem?]; exact hs.of q _ h5
 obtain⟨_,hh⟩:=hs.of s _ h2
 obtain⟨_,hh'⟩:=hs.of s' _ h4
 exact BP.ret hs.defers ⟨.tuple #[aggV ys,aggV zs,v],by simp[results,hr,k1,k3,k5,asAddr,load_cell ht hp hsz hh,load_cell ht' hp' hsz' hh'],_,rfl,gr,rfl⟩
theorem End.tctV{r r' q:Nat}{T:TypeId}{zs:List Value}{v u:Value}(hr:fn.results=#[.tmp r',.cell r T,.tmp q])(ht:P.underlying T=some td)(hp:(match td with | .struct _ | .array _ _=>true|_=>false)=true)
  (hsz:SizeIs P T zs.length)(h3:E.look r'=some (.v u))(h1:E.look r=some (.v (.pointer (some ⟨b,0,none⟩))))(h2:E.look s=some (blk b e zs))(h5:E.look q=some (.v v)):
  End Cx.top w₀ n E (BP P fn (PostOf w₀ (.v (.tuple #[u,aggV zs,v]))) .ret):=fun a w gr hs=>by
 have k1:a.tmps[r]?.getD undef = .pointer (some ⟨b,0,none⟩):=by rw[<- Array.getD_eq_getD_getElem?]; exact hs.of r _ h1
 have k3:a.tmps[r']?.getD undef=u:=by rw[<- Array.getD_eq_getD_getElem?]; exact hs.of r' _ h3
 have k5:a.tmps[q]?.getD undef=v:=by rw[<- Array.getD_eq_getD_getElem?]; exact hs.of q _ h5
 obtain⟨_,hh⟩:=hs.of s _ h2
 exact BP.ret hs.defers ⟨.tuple #[u,aggV zs,v],by simp[results,hr,k1,k3,k5,asAddr,load_cell ht hp hsz hh],_,rfl,gr,rfl⟩
theorem End.tctY{r r' q kg:Nat}{T e':TypeId}{zs ws:List Value}{v u:Value}{val:Nat->Value}(hr:fn.results=#[.tmp r',.cell r T,.tmp q])(ht:P.underlying T=some td)(hp:(match td with | .struct _ | .array _ _=>true|_=>false)=true)
  (hsz:SizeIs P T zs.length)(h3:E.look r'=some (.v u))(h1:E.look r=some (.v (.pointer (some ⟨b,0,none⟩))))(h2:E.look s=some (blk b e zs))(h5:E.look q=some (.v v))(h4:E.look kg=some (blk g e' (xs++ws)))(hg:w₀.heap.size<=g)(hv:val g = .tuple #[u,aggV zs,v]):
  End Cx.top w₀ n E (BP P fn (PostOf w₀ (newY w₀.heap.size e' val xs)) .ret):=fun a w gr hs=>by
 have k1:a.tmps[r]?.getD undef = .pointer (some ⟨b,0,none⟩):=by rw[<- Array.getD_eq_getD_getElem?]; exact hs.of r _ h1
 have k3:a.tmps[r']?.getD undef=u:=by rw[<- Array.getD_eq_getD_getElem?]; exact hs.of r' _ h3
 have k5:a.tmps[q]?.getD undef=v:=by rw[<- Array.getD_eq_getD_getElem?]; exact hs.of q _ h5
 obtain⟨_,hh⟩:=hs.of s _ h2
 obtain⟨hl,hh'⟩:=hs.of kg _ h4
 exact BP.ret hs.defers ⟨.tuple #[u,aggV zs,v],by simp[results,hr,k1,k3,k5,asAddr,load_cell ht hp hsz hh],_,rfl,gr,g,ws,hv.symm,hg,hl,hh'⟩
theorem A.openCon{t lo:Nat}{l:List UInt8}(ht:E.look t=some (conD lo e (some l)))(h:∀ b,lo<=b->l.length<=256->A κ P w₀ n c ((t,.v (.slice (some ⟨b,0,none⟩) l.length l.length))::(k,blk b e (l.map byteV))::E) Q): A κ P w₀ n c E Q:=fun a w g hs=>by
 obtain⟨h0,b,h1,h2,h3,h4⟩:=hs.of t _ ht
 exact h b h2 h0 a w g ((hs.push (d:=blk b e (l.map byteV)) (t:=k) ⟨h3,h4⟩).push (d:=.v _) h1)
end
theorem ok_clipX{t:TypeId}{z:Value}{x ho mo:Operand}{ad:Addr}{len c m:Nat}{k2 k3:IntKind}(ht:P.underlying t=some (.slice e))(hs:InfoP P e z sz nb)(hx:E.at x=some (.v (.slice (some ad) len c)))(hho:E.at ho=some (.v (.int k2 (m:Int))))(hmo:E.at mo=some (.v (.int k3 (m:Int))))
  (h0:0<m)(hmc:m<=c): OpOk P B ⟨dst,.slice t x none (some ho) (some mo),ty,pos,after,guard⟩ E (.v (.slice (some ad) m m)):=fun ρ w _ _ hρ=>by
 have h1:ρ x=_:=hρ x (by simp[Op.operands]) _ hx
 have h3:ρ ho = .int k2 (m:Int):=hρ ho (by simp[Op.operands]) _ hho
 have h4:ρ mo = .int k3 (m:Int):=hρ mo (by simp[Op.operands]) _ hmo
 obtain⟨info,hinfo,_,hsize,_⟩:=hs.get
 have hm:¬ m=0:=by omega
 refine out_val (w':=w) ?_ ⟨Grow.refl w,rfl⟩
 simp[execOp,h1,h3,h4,Instr.sliceAt,Instr.slice,run_underlying ht,Instr.sliceBounds,Instr.sliceBound,asIntOf,sizeOf,typeInfo,hinfo,hsize,hmc,hm]
 try (unfold Addr.add; split<;>simp_all)
abbrev Dem:=Nat×FuncId×List Value
def demV (x:Dem):List Value:=[nB x.1,.func (.func x.2.1) #[] x.2.2.toArray]
def demsV (L:List Dem):List Value:=L.flatMap demV
def demAt (L:List Dem) (i:Nat):Dem:=L.getD i (0,0,[])
theorem demsV_len(L:List Dem): (demsV L).length=L.length*2:=flat_length fun _ _=>rfl
theorem demsV_at{L:List Dem}(h:i<L.length): ((demsV L).drop (i*2)).take 2=demV (demAt L i):=by
 rw[demsV,flatM_at (v:=demV) (k:=2) (fun _ _=>rfl) h,demAt,List.getD_eq_getElem?_getD,List.getElem?_eq_getElem h]; rfl
end
def kbase (k:List UInt8):List UInt8:=if 64<k.length then sha k else k
def kblock (k:List UInt8):List UInt8:=kbase k++List.replicate (64-(kbase k).length) 0
theorem kbase_length(k:List UInt8): (kbase k).length<=64:=by
 unfold kbase; split
 ·rw[sha_length]; decide
 ·omega
theorem kblock_length(k:List UInt8): (kblock k).length=64:=by
 have:=kbase_length k
 simp[kblock]; omega
def kpad (c:UInt8) (k:List UInt8):List UInt8:=(kblock k).map (· ^^^ c)
theorem kpad_length(c:UInt8)(k:List UInt8): (kpad c k).length=64:=by simp[kpad,kblock_length]
def hmac (k m:List UInt8):List UInt8:=sha (kpad 0x5c k++sha (kpad 0x36 k++m))
theorem hmac_length(k m:List UInt8): (hmac k m).length=32:=sha_length _
theorem kblock_get{k:List UInt8}(h:i<64): (kblock k)[i]?=some ((kblock k).getD i 0):=by
 rw[List.getD_eq_getElem?_getD,List.getElem?_eq_getElem (by rw[kblock_length]; exact h)]; rfl
theorem kpad_get{c:UInt8}{k:List UInt8}(h:i<64): (kpad c k)[i]?=some ((kblock k).getD i 0 ^^^ c):=by
 rw[kpad,List.getElem?_map,kblock_get h]; rfl
theorem kpad_step{c:UInt8}{k:List UInt8}(h:i<64): ((kpad c k).take i).map byteV++[byteV ((kblock k).getD i 0 ^^^ c)]=((kpad c k).take (i+1)).map byteV:=by
 rw[List.take_add_one,kpad_get h]; simp
theorem ref3Block_fnB(l:List UInt8)(hl:l.length<=1000000): FnB Tryz.prog 121 [byt l] (fun B=>own B 5 64 ((kblock l).map byteV)):=by
 have hkb:=kbase_length l
 refine FnB.of Tryz.func121 rfl (by kernel_rfl) Tryz.ntmps121 (by simp) (fun w=>[(0,old w.heap.size (byt l))]) (fun w=>(Start.old rfl Start.nil)) fun w₀=>?_
 refine GV rfl (GS (TF 2 (RS (ok_build0own U23 info5) ?_)));refine RVN 1 rfl ?_;refine⟨_,eff_appendS (vs:=l.map byteV) U23 info5 (by decide) rfl rfl rfl ((Le.old _ _).trans (Le.eq (byt_vals l))) (by simp[byteV,Value.oneCell']) (by simp; omega) (by decide) (fun g hg=>(LO 0 rfl LN)),?_⟩
 refine TL (RVN 1 rfl ?_);refine QS (GT (RM rfl ?_));refine RS (ok_lenB U23 rfl (Le.old _ _)) ?_;refine RVN 1 rfl ?_;refine A.cond rfl (fun hc10=>?_) (fun hc10=>?_)
 ·have h64:64<l.length:=by simp at hc10; omega
  refine GS (TN 2 (RM rfl ?_));refine RS (ok_call (refSum_fn l (by omega)) (Args.cons rfl (Le.old _ _) Args.nil)) ?_;refine RN ?_;refine ZN 1000004 zero32 fun b4 ⟨hBb4,hb4⟩=>?_
  refine TF 3 (RN ?_);refine⟨_,eff_storeA (n:=23) (s:=1000004) (size32.of (by rw[List.length_map,sha_length])) rfl rfl (all_bytes _) hBb4 rfl (by rw[List.length_map,sha_length,List.length_replicate]) (LV 4 rfl LN),?_⟩
  refine TL (RN (GE (TF 2 (RS (ok_build0own U23 info5) ?_))));refine RS (ok_sliceA (s:=1000004) 0 32 (by decide) U32 info5 rfl rfl (.inr ⟨rfl,rfl⟩) (.inr ⟨rfl,rfl⟩) (by omega) (by omega) (by rw[List.length_map,sha_length]) (by decide)) ?_;refine RN ?_;refine⟨_,eff_appendS (vs:=(sha l).map byteV) U23 info5 (by decide) rfl rfl rfl (Le.eq (by rw[List.drop_zero,List.take_of_length_le (by rw[List.length_map,sha_length]; exact Nat.le_refl _)])) (by simp[byteV,Value.oneCell']) (by simp[sha_length]) (by decide) (fun g hg=>(LT 1000004 rfl LN)),?_⟩
  refine TL (RVN 1 rfl ?_);refine EN (QSB ?_);refine A.loop (ι:=Nat) (fun z=>(kbase l).length+z<=64) (fun z=>[(3,own w₀.heap.size 5 ((kbase l).length+z) ((kbase l++List.replicate z 0).map byteV))]) (fun z=>64-((kbase l).length+z)) 0 ?_ ?_ ?_
  ·exact hkb
  ·exact(KE 3 rfl (by simp[kbase,h64]) KN)
  intro z hz
  refine QS (GT (RM rfl ?_));refine RS (ok_lenB (l:=kbase l++List.replicate z 0) U23 rfl (own_cat rfl (by simp))) ?_;refine RVN 1 rfl ?_;refine A.cond rfl (fun hc18=>?_) (fun hc18=>?_)
  ·have hz2:(kbase l).length+z<64:=by simp at hc18; omega
   refine QK (A.block (GE (TF 2 (RM rfl ?_))));refine RS (ok_build [byteD (0)] U23 info5 rfl (by decide) (by decide) rfl ⟨rfl,rfl,trivial⟩ (fun d hd w x h=>by simp only[List.mem_cons,List.not_mem_nil,or_false] at hd; rcases hd with rfl; exact v_one rfl h)) ?_;refine RN ?_;refine⟨_,eff_appendS (vs:=[byteV 0]) U23 info5 (by decide) rfl rfl rfl (le_lst _ _) (by simp[byteV,Value.oneCell']) (by simp; omega) (by decide) (fun g hg=>LN),?_⟩
   refine TL (RVN 1 rfl ?_);refine End.normal_block (End.normal_then ?_);refine End.again (z+1) ?_ ?_ ?_
   ·show _<=_; omega
   ·show _-_<_-_; omega
   ·exact(KE 3 rfl (by rw[List.replicate_succ']; simp[Nat.add_assoc]) KN)
  ·have hz2:z=64-(kbase l).length:=by simp at hc18; omega
   refine A.exit (End.exit_then (End.exit_then (End.exit_here (EN (GV rfl (A.ret ?_))))));exact End.ret1 rfl rfl (Le.eq (by rw[hz2,kblock]; congr 1; omega))
 ·have h64:¬ 64<l.length:=by simp at hc10; omega
  refine QK (QSB ?_);refine A.loop (ι:=Nat) (fun z=>(kbase l).length+z<=64) (fun z=>[(3,own w₀.heap.size 5 ((kbase l).length+z) ((kbase l++List.replicate z 0).map byteV))]) (fun z=>64-((kbase l).length+z)) 0 ?_ ?_ ?_
  ·exact hkb
  ·exact(KE 3 rfl (by simp[kbase,h64]) KN)
  intro z hz
  refine QS (GT (RM rfl ?_));refine RS (ok_lenB (l:=kbase l++List.replicate z 0) U23 rfl (own_cat rfl (by simp))) ?_;refine RVN 1 rfl ?_;refine A.cond rfl (fun hc18=>?_) (fun hc18=>?_)
  ·have hz2:(kbase l).length+z<64:=by simp at hc18; omega
   refine QK (A.block (GE (TF 2 (RM rfl ?_))));refine RS (ok_build [byteD (0)] U23 info5 rfl (by decide) (by decide) rfl ⟨rfl,rfl,trivial⟩ (fun d hd w x h=>by simp only[List.mem_cons,List.not_mem_nil,or_false] at hd; rcases hd with rfl; exact v_one rfl h)) ?_;refine RN ?_;refine⟨_,eff_appendS (vs:=[byteV 0]) U23 info5 (by decide) rfl rfl rfl (le_lst _ _) (by simp[byteV,Value.oneCell']) (by simp; omega) (by decide) (fun g hg=>LN),?_⟩
   refine TL (RVN 1 rfl ?_);refine End.normal_block (End.normal_then ?_);refine End.again (z+1) ?_ ?_ ?_
   ·show _<=_; omega
   ·show _-_<_-_; omega
   ·exact(KE 3 rfl (by rw[List.replicate_succ']; simp[Nat.add_assoc]) KN)
  ·have hz2:z=64-(kbase l).length:=by simp at hc18; omega
   refine A.exit (End.exit_then (End.exit_then (End.exit_here (EN (GV rfl (A.ret ?_))))));exact End.ret1 rfl rfl (Le.eq (by rw[hz2,kblock]; congr 1; omega))
set_option maxHeartbeats 1000000 in
theorem ref3Sum_fn(k m:List UInt8)(hk:k.length<=1000000)(hm:m.length<=10000): Fn Tryz.prog 85 [byt k,byt m] (.v (aggV ((hmac k m).map byteV))):=by
 refine Fn.of Tryz.func85 rfl (by kernel_rfl) Tryz.ntmps85 (by simp) (fun w=>[(0,old w.heap.size (byt k)),(1,old w.heap.size (byt m))]) (fun w=>(Start.old rfl (Start.old rfl Start.nil))) fun w₀=>?_
 refine GS (TN 0 (RN ?_));refine ZN 1000004 zero32 fun b4 ⟨hBb4,hb4⟩=>?_
 refine TL (RN (GT (RM rfl ?_)));refine RS (ok_callB (ref3Block_fnB k hk) (fun _ _ h=>own_mono h) (Args.cons rfl (Le.old _ _) Args.nil)) ?_;refine RVN 1 rfl ?_;refine A.openV (t:=5) (k:=1000205) rfl fun v5=>?_
 refine GV rfl (A.nilV (k:=1000206) w₀.heap.size 5 ?_);refine A.nilV (k:=1000207) w₀.heap.size 5 ?_;refine QS (GV rfl (A.block ?_));refine A.loop (ι:=(Nat×Value×Value)) (fun s=>s.1<=64∧Disj s.2.1 s.2.2∧Disj s.2.1 v5∧Disj s.2.2 v5) (fun s=>[(1,old w₀.heap.size (byt m)),(4,.v (.pointer (some ⟨b4,0,none⟩))),(5,.v v5),(6,.v s.2.1),(7,.v s.2.2),(8,.v (.int .i64 ((s.1:Nat):Int))),(1000004,blk b4 32 (List.replicate 32 (.int .u8 0))),(1000205,ownM w₀.heap.size v5 5 (64) ((kblock k).map byteV)),(1000206,ownM w₀.heap.size s.2.1 5 (s.1) (((kpad 54 k).take s.1).map byteV)),(1000207,ownM w₀.heap.size s.2.2 5 (s.1) (((kpad 92 k).take s.1).map byteV))]) (fun s=>64-s.1) (0,.slice none 0 0,.slice none 0 0) ?_ ?_ ?_
 ·exact⟨Nat.zero_le _,Disj.nil _,Disj.nil _,Disj.nil _⟩
 ·exact(KC 1 rfl (KC 4 rfl (KC 5 rfl (KC 6 rfl (KC 7 rfl (KC 8 rfl (KC 1000004 rfl (KC 1000205 rfl (KE 1000206 rfl (by simp) (KE 1000207 rfl (by simp) KN))))))))))
 intro s hs
 obtain⟨v6,hv6⟩:∃ v,s.2.1=v:=⟨_,rfl⟩
 obtain⟨v7,hv7⟩:∃ v,s.2.2=v:=⟨_,rfl⟩
 rw[hv6,hv7] at hs
 obtain⟨hi,hd_v6_v7,hd_v6_v5,hd_v7_v5⟩:=hs
 have hd_v7_v6:=hd_v6_v7.symm
 rw[hv6,hv7]
 refine QS (GV rfl ?_);refine A.cond rfl (fun hc13=>?_) (fun hc13=>?_)
 ·have hlt:s.1<64:=by simp at hc13; omega
  refine QK (QSB (GS (RunTK.newv 7 (by decide) rfl (.inl rfl) ?_)));refine RM rfl ?_;refine RS (ok_moveV (k:=1000205) (by decide) rfl rfl) ?_;refine RM rfl ?_;refine RS (ok_index (d:=byteD ((kblock k).getD s.1 0)) U23 info5 rfl (own_cat rfl (kblock_length k).symm) rfl (by omega) (by rw[Int.toNat_natCast,List.getElem?_map,kblock_get hlt]; rfl)) ?_;refine RS (ok_load U5 rfl rfl) ?_;refine RB rfl rfl rfl ?_;refine RZ (byteV ((kblock k).getD s.1 0 ^^^ 54)) (congrArg (Value.int .u8) (xor_u8_nat ((kblock k).getD s.1 0) 54)) ?_;refine RS (ok_build [byteD ((kblock k).getD s.1 0 ^^^ 54)] U23 info5 rfl (by decide) (by decide) rfl ⟨rfl,rfl,trivial⟩ (fun d hd w x h=>by simp only[List.mem_cons,List.not_mem_nil,or_false] at hd; rcases hd with rfl; exact v_one rfl h)) ?_;refine RN ?_;refine⟨_,_,eff_appendV (n:=40) (k:=1000206) (vs:=[byteV ((kblock k).getD s.1 0 ^^^ 54)]) U23 info5 (by decide) rfl rfl rfl rfl (le_lst _ _) (by simp[byteV,Value.oneCell']) (by simp; omega) (by decide) (fun g hB hg=>(LO 1 rfl (LT 1000004 rfl (LeftS.cons (t:=1000205) rfl (Surv.ownM (by rcases hg with hg|hg; exact hd_v6_v5 g hg; exact hg.2.2 1000205 _ _ _ _ _ rfl)) (LeftS.cons (t:=1000207) rfl (Surv.ownM (by rcases hg with hg|hg; exact hd_v6_v7 g hg; exact hg.2.2 1000207 _ _ _ _ _ rfl)) (LW [4,5,6,7,8,13,16,18,20,21] rfl)))))),fun v6a hv6a=>?_⟩
  have hd_v6a_v5:=Disj.step hv6a hd_v6_v5 (s:=1000205) rfl
  have hd_v5_v6a:=hd_v6a_v5.symm
  have hd_v6a_v7:=Disj.step hv6a hd_v6_v7 (s:=1000207) rfl
  have hd_v7_v6a:=hd_v6a_v7.symm
  refine TL (RVN 1 rfl ?_);refine GE (RunTK.newv 7 (by decide) rfl (.inl rfl) ?_);refine RM rfl ?_;refine RS (ok_moveV (k:=1000205) (by decide) rfl rfl) ?_;refine RM rfl ?_;refine RS (ok_index (d:=byteD ((kblock k).getD s.1 0)) U23 info5 rfl (own_cat rfl (kblock_length k).symm) rfl (by omega) (by rw[Int.toNat_natCast,List.getElem?_map,kblock_get hlt]; rfl)) ?_;refine RS (ok_load U5 rfl rfl) ?_;refine RB rfl rfl rfl ?_;refine RZ (byteV ((kblock k).getD s.1 0 ^^^ 92)) (congrArg (Value.int .u8) (xor_u8_nat ((kblock k).getD s.1 0) 92)) ?_;refine RS (ok_build [byteD ((kblock k).getD s.1 0 ^^^ 92)] U23 info5 rfl (by decide) (by decide) rfl ⟨rfl,rfl,trivial⟩ (fun d hd w x h=>by simp only[List.mem_cons,List.not_mem_nil,or_false] at hd; rcases hd with rfl; exact v_one rfl h)) ?_;refine RN ?_;refine⟨_,_,eff_appendV (n:=40) (k:=1000207) (vs:=[byteV ((kblock k).getD s.1 0 ^^^ 92)]) U23 info5 (by decide) rfl rfl rfl rfl (le_lst _ _) (by simp[byteV,Value.oneCell']) (by simp; omega) (by decide) (fun g hB hg=>(LO 1 rfl (LT 1000004 rfl (LeftS.cons (t:=1000205) rfl (Surv.ownM (by rcases hg with hg|hg; exact hd_v7_v5 g hg; exact hg.2.2 1000205 _ _ _ _ _ rfl)) (LeftS.cons (t:=1000206) rfl (Surv.ownM (by rcases hg with hg|hg; exact hd_v7_v6a g hg; exact hg.2.2 1000206 _ _ _ _ _ rfl)) (LW [4,5,6,7,8,24,26,28,29] rfl)))))),fun v7a hv7a=>?_⟩
  have hd_v7a_v5:=Disj.step hv7a hd_v7_v5 (s:=1000205) rfl
  have hd_v5_v7a:=hd_v7a_v5.symm
  have hd_v7a_v6a:=Disj.step hv7a hd_v7_v6a (s:=1000206) rfl
  have hd_v6a_v7a:=hd_v7a_v6a.symm
  refine TL (RVN 1 rfl ?_);refine End.normal_block (EN (GTE (RV 2 rfl ?_)));refine RZ (.int .i64 ((s.1+1:Nat):Int)) (by rw[wrap_i64 (by omega) (by omega)]; first|rfl|(congr 1; omega)) ?_;refine RVN 1 rfl ?_;refine End.normal_then ?_;refine End.again (s.1+1,v6a,v7a) ?_ ?_ ?_
  ·exact⟨by show _<=_; omega,hd_v6a_v7a,hd_v6a_v5,hd_v7a_v5⟩
  ·show _-_<_-_; omega
  ·exact(KC 1 rfl (KC 4 rfl (KC 5 rfl (KC 6 rfl (KC 7 rfl (KC 8 rfl (KC 1000004 rfl (KC 1000205 rfl (KE 1000206 rfl (congrArg (ownM _ _ _ _) (kpad_step hlt)) (KE 1000207 rfl (congrArg (ownM _ _ _ _) (kpad_step hlt)) KN))))))))))
 ·have hse:s.1=64:=by simp at hc13; omega
  rw[hse]
  refine A.exit (End.exit_then (End.exit_then (End.exit_here (EN (GS (TF 2 (RVN 2 rfl ?_)))))));refine⟨_,eff_appendVO (n:=40) (k:=1000206) (vs:=m.map byteV) U23 info5 (by decide) rfl rfl rfl rfl ((Le.old _ _).trans (Le.eq (byt_vals m))) (by simp[byteV,Value.oneCell']) (by simp; omega) (by decide) (by decide) rfl (fun g hB hg=>(LO 1 rfl (LO 33 rfl (LT 1000004 rfl (LeftS.cons (t:=1000205) rfl (Surv.ownM (by rcases hg with hg|hg; exact hd_v6_v5 g hg; exact hg.2.2 1000205 _ _ _ _ _ rfl)) (LeftS.cons (t:=1000207) rfl (Surv.ownM (by rcases hg with hg|hg; exact hd_v6_v7 g hg; exact hg.2.2 1000207 _ _ _ _ _ rfl)) (LW [4,5,6,7,8,13,32] rfl))))))),?_⟩
  refine TN 4 (RS (ok_call (refSum_fn (kpad 54 k++m) (by simp[kpad_length]; omega)) (Args.cons rfl (own_cat (by simp[List.take_of_length_le,kpad_length]) (by simp[kpad_length])) Args.nil)) ?_);refine RN ?_;refine ZN 1000009 zero32 fun b9 ⟨hBb9,hb9⟩=>?_
  have hlt_b4_b9:=hb9 1000004 b4 _ _ rfl
  refine TF 5 (RN ?_);refine⟨_,eff_storeA (n:=40) (s:=1000009) (size32.of (by rw[List.length_map,sha_length])) rfl rfl (all_bytes _) hBb9 rfl (by rw[List.length_map,sha_length,List.length_replicate]) (LB 1000004 rfl (LeftS.cons (t:=1000205) rfl (Surv.ownMT (by decide)) (LeftS.cons (t:=1000207) rfl (Surv.ownMT (by decide)) (LW [4,7,9] rfl)))),?_⟩
  refine TL (RN (GS (TF 2 (RM rfl ?_))));refine RS (ok_sliceA (s:=1000009) 0 32 (by decide) U32 info5 rfl rfl (.inr ⟨rfl,rfl⟩) (.inr ⟨rfl,rfl⟩) (by omega) (by omega) (by rw[List.length_map,sha_length]) (by decide)) ?_;refine RN ?_;refine⟨_,eff_appendVO (n:=40) (k:=1000207) (vs:=(sha (kpad 54 k++m)).map byteV) U23 info5 (by decide) rfl rfl rfl rfl (Le.eq (by rw[List.drop_zero,List.take_of_length_le (by rw[List.length_map,sha_length]; exact Nat.le_refl _)])) (by simp[byteV,Value.oneCell']) (by simp[sha_length]) (by decide) (by decide) rfl (fun g hB hg=>(LT 1000004 rfl (LT 1000009 rfl (LeftS.cons (t:=1000205) rfl (Surv.ownM (by rcases hg with hg|hg; exact hd_v7_v5 g hg; exact hg.2.2 1000205 _ _ _ _ _ rfl)) (LW [4,7,9,36] rfl))))),?_⟩
  refine TF 4 (RS (ok_call (refSum_fn (kpad 92 k++sha (kpad 54 k++m)) (by simp[kpad_length,sha_length])) (Args.cons rfl (own_cat (by simp[List.take_of_length_le,kpad_length]) (by simp[kpad_length])) Args.nil)) ?_);refine RZ (aggV ((hmac k m).map byteV)) (rfl) ?_;refine RN ?_;refine⟨_,eff_storeA (n:=40) (s:=1000004) (size32.of (by rw[List.length_map,hmac_length])) rfl rfl (all_bytes _) hBb4 rfl (by rw[List.length_map,hmac_length,List.length_replicate]) (LV 4 rfl (LB 1000009 rfl (LeftS.cons (t:=1000205) rfl (Surv.ownMT (by decide)) LN))),?_⟩
  refine TL (RN (A.ret ?_));exact End.cell1 (s:=1000004) rfl U32 rfl (size32.of (by rw[List.length_map,hmac_length])) rfl rfl (Le.refl _)
section
def hkT (prk info:List UInt8):Nat->List UInt8
 | 0=>[]
 | i+1=>hmac prk (hkT prk info i++info++[UInt8.ofNat (i+1)])
def hkO (prk info:List UInt8):Nat->List UInt8
 | 0=>[]
 | i+1=>hkO prk info i++hkT prk info (i+1)
def hkdf (prk info:List UInt8) (n:Nat):List UInt8:=(hkO prk info ((n+31) / 32)).take n
variable {prk info:List UInt8}
theorem hkT_length(i:Nat): (hkT prk info (i+1)).length=32:=by rw[hkT,hmac_length]
theorem hkT_le(i:Nat): (hkT prk info i).length<=32:=by
 cases i with
 | zero=>simp[hkT]
 | succ i=>rw[hkT_length]; exact Nat.le_refl _
theorem hkO_length:∀ i,(hkO prk info i).length=32*i
 | 0=>rfl
 | i+1=>by rw[hkO,List.length_append,hkO_length i,hkT_length]; omega
theorem hkO_take {i : Nat} : ∀ {j : Nat}, i <= j -> (hkO prk info j).take (32 * i) = hkO prk info i
  | 0, h => by obtain rfl : i = 0 := by omega
               rfl
  | j + 1, h => by
    rcases Nat.lt_or_ge j i with hj | hj
    · obtain rfl : i = j + 1 := by omega
      rw [List.take_of_length_le (by rw [hkO_length]; exact Nat.le_refl _)]
    · rw [hkO, List.take_append_of_le_length (by rw [hkO_length]; omega)]
      exact hkO_take hj
theorem hkdf_length(n:Nat): (hkdf prk info n).length=n:=by rw[hkdf,List.length_take,hkO_length]; omega
theorem hkO_hkdf(h:n<=32*j): (hkO prk info j).take n=hkdf prk info n:=by
 have h1:(n+31) / 32<=j:=by omega
 rw[hkdf,<- hkO_take h1,List.take_take,Nat.min_eq_left (by omega)]
end
end Go.Proofs.YtjigbkamgfidkaaGreatDoor
