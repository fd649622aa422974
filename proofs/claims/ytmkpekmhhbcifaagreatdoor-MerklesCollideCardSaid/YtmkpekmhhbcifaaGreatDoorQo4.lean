/-
  OWN TEXTS of this seat, put together, part 4: Once, C12b, C02a, C02b, C02c, C01c, C02g, St, C02h, Dig, C02d, C02e, C02f, C02i, C02j, C02k, C13b, C13c, Merk.
-/
import Derived.Test.YtmkpekmhhbcifaaGreatDoorQo0
import Derived.Test.YtmkpekmhhbcifaaGreatDoorQo3
import Derived.Test.YtmkpekmhhbcifaaGreatDoorQo2
import Derived.Test.YtmkpekmhhbcifaaGreatDoorQo1
namespace Go.Proofs.YtmkpekmhhbcifaaGreatDoor
set_option linter.unusedVariables false
set_option linter.unusedSimpArgs false
set_option maxRecDepth 20000
open Go Go.RowKit
section
inductive Onces (P : Program) (B : Nat) (ops : Array Oper) (vals : List Value) (Eb : Env) (p b : Nat) (T : TypeId) (ys : List Value) : Nat → List Oper → Prop
 | nil {i : Nat} : Onces P B ops vals Eb p b T ys i []
 | cons {i : Nat} {o : Oper} {rest : List Oper} {t : Nat} {v : Value} (E : Env) (hp : i ≠ p) (hv : vals[i]? = some v) (ht : o.dst = some t) (hd : Eb.look t = none ∨ Eb.look t = some (.v v)) (hf : FromN ops vals Eb o E) (hok : OpOk P B o E (.v v)) (hr : Onces P B ops vals Eb p b T ys (i + 1) rest) : Onces P B ops vals Eb p b T ys i (o :: rest)
 | store {o : Oper} {rest : List Oper} {x y : Operand} {ty : TypeId} {pos : String} {after : Array Edge} (E : Env) (ho : o = ⟨none, .store T x y, ty, pos, after, none⟩) (hf : FromN ops vals Eb o E) (hx : E.at x = some (.v (.pointer (some ⟨b, 0, none⟩)))) (hy : E.at y = some (.v (aggV ys))) (hr : Onces P B ops vals Eb p b T ys (p + 1) rest) : Onces P B ops vals Eb p b T ys p (o :: rest)
section
variable {P : Program} {n B : Nat} {ops : Array Oper} {κ : Cx} {Q : Exit → Act → World → Prop} {vals : List Value} {Eb : Env} {p b k : Nat} {T : TypeId} {zs ys : List Value}
theorem Onces.nth {m : Nat} {l : List Oper} (h : Onces P B ops vals Eb p b T ys m l) : ∀ {i : Nat} {o : Oper}, l[i]? = some o →
  (m + i ≠ p ∧ ∃ E v t, vals[m + i]? = some v ∧ o.dst = some t ∧ (Eb.look t = none ∨ Eb.look t = some (.v v)) ∧ FromN ops vals Eb o E ∧ OpOk P B o E (.v v)) ∨
  (m + i = p ∧ ∃ E x y ty pos after, o = ⟨none, .store T x y, ty, pos, after, none⟩ ∧ FromN ops vals Eb o E ∧ E.at x = some (.v (.pointer (some ⟨b, 0, none⟩))) ∧ E.at y = some (.v (aggV ys))) := by
 induction h with
 | nil => intro i o hi; simp at hi
 | @cons m o0 rest t v E hp hv ht hd hf hok _ ih =>
  intro i o hi
  cases i with
  | zero => simp at hi; subst hi; exact .inl ⟨hp, E, v, t, hv, ht, hd, hf, hok⟩
  | succ i =>
   have := ih (i := i) (by simpa using hi)
   rwa [show m + 1 + i = m + (i + 1) from by omega] at this
 | @store o0 rest x y ty pos after E ho hf hx hy _ ih =>
  intro i o hi
  cases i with
  | zero => simp at hi; subst hi; exact .inr ⟨rfl, E, x, y, ty, pos, after, ho, hf, hx, hy⟩
  | succ i =>
   have := ih (i := i) (by simpa using hi)
   rwa [show p + 1 + i = p + (i + 1) from by omega] at this
structure InvO (κ : Cx) (n B : Nat) (ops : Array Oper) (vals : List Value) (Eb : Env) (p b : Nat) (T : TypeId) (zs ys : List Value) (listed : Array Bool) (a : Act) (w : World) : Prop where
 st : St κ n B Eb a w
 lsize : listed.size = ops.size
 blk : b < w.heap.size ∧ w.heap[b]? = some (.cells (if listed.getD p false then ys else zs).toArray T (0,0))
 got : ∀ (i : Nat) (o : Oper) (t : Nat) (v : Value), ops[i]? = some o → listed.getD i false = true → o.dst = some t → vals[i]? = some v → a.tmps.getD t undef = v
theorem wp_onces {w₀ : World} (hfit : fits n ops = true) (hd : downsN ops = true) (hn : Onces P B ops vals Eb p b T ys 0 ops.toList) (hb : B ≤ b) (hsz : SizeIs P T ys.length) (hlen : zs.length = ys.length) (h1 : ys.all (·.oneCell') = true) (hl : LeftS B T b Eb Eb) :
  ∀ (fuel : Nat) (listed : Array Bool) (a : Act) (w : World), unlisted ops listed ≤ fuel → Below B w₀ w → InvO κ n B ops vals Eb p b T zs ys listed a w → (∀ l a' w', Below B w₀ w' → InvO κ n B ops vals Eb p b T zs ys l a' w' → (∀ i, i < ops.size → l.getD i false = true) → Q .normal a' w') → wpAnyIn (FR κ.rd) 0 P .any ops Q fuel listed a w := by
 have hn0 : n ≤ vbase := fits_base hfit
 have hmin : ∀ (listed : Array Bool), listed.size = ops.size → Region.ready .any ops listed = [] → ∀ i, i < ops.size → listed.getD i false = true := by
  intro listed hl hr i
  induction i using Nat.strongRecOn with
  | _ i ih =>
   intro hi
   rcases hb : listed.getD i false with _ | _
   ·exfalso
    have hdi := (downs_get hd (Array.getElem?_eq_getElem hi)).2.1
    have : i ∈ Region.ready .any ops listed := by
     rw [mem_ready]
     refine ⟨?_, ops[i], Array.getElem?_eq_getElem hi, fun e he hbd => ih e.on (hdi e he hbd) (Nat.lt_trans (hdi e he hbd) hi)⟩
     have : i < listed.size := by rw [hl]; exact hi
     simp [this] at hb ⊢
     exact hb
    rw [hr] at this
    cases this
   ·rfl
 intro fuel
 induction fuel with
 | zero =>
  intro listed a w hc hbel I hQ'
  have hr : Region.ready .any ops listed = [] := by
   rcases hr : Region.ready .any ops listed with _ | ⟨i, l⟩
   ·rfl
   ·exfalso
    have hi : i ∈ Region.ready .any ops listed := by rw [hr]; exact List.mem_cons_self
    obtain ⟨hu, o, ho, _⟩ := mem_ready.1 hi
    have hpos : 0 < unlisted ops listed := List.countP_pos_iff.2 ⟨i, List.mem_range.2 (Array.getElem?_eq_some_iff.1 ho).1, by simp only [hu]; rfl⟩
    omega
  exact ⟨hr, hQ' listed a w hbel I (hmin listed I.lsize hr)⟩
 | succ fuel ih =>
  intro listed a w hc hbel I hQ'
  refine ⟨fun hr => hQ' listed a w hbel I (hmin listed I.lsize hr), fun i hi => ?_⟩
  obtain ⟨hu, o, ho, hall⟩ := mem_ready.1 hi
  have hlt : i < ops.size := (Array.getElem?_eq_some_iff.1 ho).1
  obtain ⟨hg, _, hdis⟩ := downs_get hd ho
  have huf : listed.getD i false = false := by
   have : i < listed.size := by rw [I.lsize]; exact hlt
   simp [this] at hu ⊢
   exact hu
  have hst : ∀ {E : Env}, FromN ops vals Eb o E → ∀ t d, E.look t = some d → d.Of w (a.tmps.getD t undef) := fun {E} h => by
   induction h with
   | nil => intro t d hl; cases hl
   | all => exact I.st.of
   | @base s e E h _ ih =>
    intro t d hl
    by_cases hts : s = t
    ·subst hts; rw [look_here] at hl; injection hl with hl; subst hl; exact I.st.of _ _ h
    ·rw [look_past _ _ hts] at hl; exact ih t d hl
   | @op s v E j he hdj hvj _ ih =>
    intro t d hl
    by_cases hts : s = t
    ·subst hts; rw [look_here] at hl; injection hl with hl; subst hl
     obtain ⟨e, he1, he2⟩ := Array.any_eq_true'.1 he
     simp only [Bool.and_eq_true, beq_iff_eq] at he2
     have hl := hall e he1 he2.1
     rw [he2.2] at hl
     cases hq : ops[j]? with
     | none => rw [hq] at hdj; cases hdj
     | some q =>
      rw [hq] at hdj
      exact I.got j q _ _ hq hl hdj hvj
    ·rw [look_past _ _ hts] at hl; exact ih t d hl
  have hcl : unlisted ops (listed.setIfInBounds i true) ≤ fuel := by
   have : unlisted ops (listed.setIfInBounds i true) < unlisted ops listed := by
    refine countP_lt (x := i) (fun y hy => ?_) (List.mem_range.2 hlt) (by simp only [hu]; rfl) ?_
    ·by_cases hyi : i = y
     ·subst hyi
      have : i < listed.size := by rw [I.lsize]; exact hlt
      simp [this] at hy
     ·rw [getD_set_ne true hyi] at hy; exact hy
    ·have : i < listed.size := by rw [I.lsize]; exact hlt
     simp [this]
   omega
  have hset : ∀ j, (listed.setIfInBounds i true).getD j false = true → j = i ∨ listed.getD j false = true := fun j hj => by
   by_cases hji : i = j
   ·exact .inl hji.symm
   ·rw [getD_set_ne false hji] at hj; exact .inr hj
  have hfi := fits_mem hfit (o := o) (by simpa using Array.mem_of_getElem? ho)
  rcases hn.nth (i := i) (o := o) (by simpa using ho) with ⟨hip, E, v, t, hv, ht, hdo, hfr, hok⟩ | ⟨hip, E, x, y, ty, pos, after, hoe, hfr, hx, hy⟩
  ·rw [Nat.zero_add] at hv hip
   have hE : St κ n B E a w := ⟨I.st.base, I.st.defers, I.st.size, hst hfr⟩
   have htn : t < n := hfi.2 t ht
   refine wpOpR_step ho fun K hK => good_wp (E := E) (d := .v v) hE.base (hE.virt hn0) ht (.inl ⟨by simp [GuardIs, hg], hok⟩) (fun s e _ he => hE.of s e he) (fun s hs => by rw [I.st.size]; exact hfi.1 s hs) fun u w' gr hu' => ?_
   have hu' : u = v := hu'
   subst hu'
   refine hK _ _ (ih _ _ _ hcl (hbel.trans (Below.mono gr I.st.base)) ⟨⟨Nat.le_trans I.st.base gr.size, I.st.defers, by simp [Act.put, I.st.size], fun s d hs => ?_⟩, by simp [I.lsize], ⟨Nat.lt_of_lt_of_le I.blk.1 gr.size, ?_⟩, fun j q s z hj hl' hds hvs => ?_⟩ hQ')
   ·by_cases hts : t = s
    ·subst hts
     rw [getD_put_here _ _ (by rw [I.st.size]; exact htn)]
     rcases hdo with h | h
     ·rw [h] at hs; cases hs
     ·rw [h] at hs; injection hs with hs; subst hs; rfl
    ·rw [getD_put_past _ _ hts]; exact (I.st.of s d hs).grow gr
   ·rw [getD_set_ne false hip, gr.block b I.blk.1]; exact I.blk.2
   ·rcases hset j hl' with rfl | hl2
    ·rw [ho] at hj; injection hj with hj; subst hj
     rw [ht] at hds; injection hds with hds; subst hds
     rw [hv] at hvs; injection hvs with hvs; subst hvs
     rw [getD_put_here _ _ (by rw [I.st.size]; exact htn)]
    ·by_cases hji : j = i
     ·subst hji; rw [huf] at hl2; cases hl2
     ·have hne : t ≠ s := fun he => hdis j q hj hji (by rw [ht]; simp) (by rw [ht, hds, he])
      rw [getD_put_past _ _ hne]
      exact I.got j q s z hj hl2 hds hvs
  ·rw [Nat.zero_add] at hip
   subst hip
   have hE : St κ n B E a w := ⟨I.st.base, I.st.defers, I.st.size, hst hfr⟩
   have hxe : a.eval x = .pointer (some ⟨b, 0, none⟩) := hE.at_ x _ hx
   have hye : a.eval y = aggV ys := hE.at_ y _ hy
   have hh : w.heap[b]? = some (.cells zs.toArray T (0,0)) := by have := I.blk.2; rw [huf] at this; simpa using this
   have hrun : (execOp a.eval ⟨none, .store T x y, ty, pos, after, none⟩).run P w = .ok .skip (w.setRow b ys.toArray) := by
    have := run_storeVar_row (P := P) w b T T zs.toArray ys.toArray hh (by simpa [SizeIs] using hsz) (by simpa using hlen) (by simpa using h1)
    simp [execOp, hxe, hye, Instr.storeAt, Instr.sureAddr, aggV, this]
   refine wpOpR_step ho fun K hK => ?_
   subst hoe
   rw [if_pos (by simp [Region.wanted])]
   refine opR (by nofun) ?_
   unfold Oper.wp
   rw [hrun, Oper.upon_skip]
   have hwr := Wrote.setRow (B := B) hb hh ys.toArray
   refine hK _ _ (ih _ _ _ hcl (hbel.trans (hwr.below I.st.base)) ⟨hl.st I.st hwr, by simp [I.lsize], ⟨by simpa using I.blk.1, ?_⟩, fun j q s z hj hl' hds hvs => ?_⟩ hQ')
   ·have : (listed.setIfInBounds i true).getD i false = true := by simp [show i < listed.size by rw [I.lsize]; exact hlt]
    rw [this]; exact setRow_heap w b _ _ T _ hh
   ·rcases hset j hl' with rfl | hl2
    ·rw [ho] at hj; injection hj with hj; subst hj; cases hds
    ·exact I.got j q s z hj hl2 hds hvs
theorem A.regsO {w₀ : World} {y : Code} {E E1 : Env} {id : Nat} (vals : List Value) (p : Nat) (hm : P.follows .mixedOrders = true) (hfit : fits n ops = true) (hd : downsN ops = true) (hn : Onces P w₀.heap.size ops vals Eb p b T ys 0 ops.toList) (hpl : p < ops.size) (hEb : Sub Eb E) (hk : E.look k = some (blk b T zs)) (hb : w₀.heap.size ≤ b) (hsz : SizeIs P T ys.length) (hlen : zs.length = ys.length) (h1 : ys.all (·.oneCell') = true)
  (hl : LeftS w₀.heap.size T b Eb Eb) (hf : FromE ops vals Eb E1) (h : A κ P w₀ n y ((k, blk b T ys) :: E1) Q) : A κ P w₀ n (.seq (.region id ops true) y) E Q := A.seq fun a w hg hst => by
 have hdr : Below w₀.heap.size w w.drew := (Below.refl _ w).drew
 obtain ⟨hk1, hk2⟩ := hst.of k _ hk
 have hfin : ∀ l a' w', Below w₀.heap.size w w' → InvO κ n w₀.heap.size ops vals Eb p b T zs ys l a' w' → (∀ i, i < ops.size → l.getD i false = true) → Exit.then (y.wpIn (FR κ.rd) 0 P Q) Q .normal a' w' := fun l a' w' hbel I hall => by
  have hI := I.blk
  rw [hall p hpl] at hI
  refine h a' w' (hg.trans hbel) (St.push ⟨I.st.base, I.st.defers, I.st.size, fun t d hl' => ?_⟩ (d := blk b T ys) hI)
  have key : ∀ t d, E1.look t = some d → d.Of w' (a'.tmps.getD t undef) := by
   clear hl' h
   induction hf with
   | nil => intro t d hl; cases hl
   | all => exact I.st.of
   | @base s e E h _ ih =>
    intro t d hl
    by_cases hts : s = t
    ·subst hts; rw [look_here] at hl; injection hl with hl; subst hl; exact I.st.of _ _ h
    ·rw [look_past _ _ hts] at hl; exact ih t d hl
   | @op s v E j hdj hvj _ ih =>
    intro t d hl
    by_cases hts : s = t
    ·subst hts; rw [look_here] at hl; injection hl with hl; subst hl
     cases hq : ops[j]? with
     | none => rw [hq] at hdj; cases hdj
     | some q =>
      rw [hq] at hdj
      exact I.got j q _ _ hq (hall j (Array.getElem?_eq_some_iff.1 hq).1) hdj hvj
    ·rw [look_past _ _ hts] at hl; exact ih t d hl
  exact key t d hl'
 refine wpIn_region_any hm (wp_onces (Q := Exit.then (y.wpIn (FR κ.rd) 0 P Q) Q) (w₀ := w) (B := w₀.heap.size) hfit hd hn hb hsz hlen h1 hl _ _ _ _ ?_ hdr ⟨(hst.sub hEb).grow (Grow.refl w).drew, by simp, ⟨hk1, ?_⟩, fun i o t v hi hl => ?_⟩ hfin)
 ·refine Nat.le_trans List.countP_le_length ?_
  simp
 ·have : (Array.replicate ops.size false).getD p false = false := by simp [hpl]
  rw [this]; exact hk2
 ·simp [(Array.getElem?_eq_some_iff.1 hi).1] at hl
theorem FromN.more {o : Oper} {pre r : List Value} {E : Env} (h : FromN ops pre Eb o E) : FromN ops (pre ++ r) Eb o E := by
 induction h with
 | nil => exact .nil
 | all => exact .all
 | base h _ ih => exact .base h ih
 | op j he hd hv _ ih => exact .op j he hd (by rw [List.getElem?_append_left (List.getElem?_eq_some_iff.1 hv).1]; exact hv) ih
def OncesK (P : Program) (B : Nat) (ops : Array Oper) (Eb : Env) (p b : Nat) (T : TypeId) (ys : List Value) (pre : List Value) (l : List Oper) (C : List Value → Prop) : Prop := ∃ r, Onces P B ops (pre ++ r) Eb p b T ys pre.length l ∧ C (pre ++ r)
theorem OncesK.nil {pre : List Value} {C : List Value → Prop} (h : C pre) : OncesK P B ops Eb p b T ys pre [] C := ⟨[], .nil, by simpa using h⟩
theorem OncesK.cons {pre : List Value} {C : List Value → Prop} {o : Oper} {rest : List Oper} {t : Nat} {v : Value} (E : Env) (hp : Nat.beq pre.length p = false) (ht : o.dst = some t) (hd : Eb.look t = none ∨ Eb.look t = some (.v v)) (hf : FromN ops pre Eb o E) (hok : OpOk P B o E (.v v)) (hr : OncesK P B ops Eb p b T ys (pre ++ [v]) rest C) :
  OncesK P B ops Eb p b T ys pre (o :: rest) C := by
 obtain ⟨r, h1, h2⟩ := hr
 rw [List.append_assoc] at h1 h2
 rw [List.length_append] at h1
 refine ⟨[v] ++ r, .cons E (fun h => ?_) (by simp) ht hd hf.more hok h1, h2⟩
 rw [h] at hp; simp at hp
theorem OncesK.store {pre : List Value} {C : List Value → Prop} {rest : List Oper} {x y : Operand} {ty : TypeId} {pos : String} {after : Array Edge} (E : Env) (hp : pre.length = p) (hf : FromN ops pre Eb ⟨none, .store T x y, ty, pos, after, none⟩ E) (hx : E.at x = some (.v (.pointer (some ⟨b, 0, none⟩)))) (hy : E.at y = some (.v (aggV ys)))
  (hr : OncesK P B ops Eb p b T ys (pre ++ [undef]) rest C) : OncesK P B ops Eb p b T ys pre (⟨none, .store T x y, ty, pos, after, none⟩ :: rest) C := by
 obtain ⟨r, h1, h2⟩ := hr
 rw [List.append_assoc] at h1 h2
 rw [List.length_append] at h1
 subst hp
 exact ⟨[undef] ++ r, .store E rfl hf.more hx hy h1, h2⟩
theorem A.regsOK {w₀ : World} {y : Code} {E : Env} {id : Nat} (p : Nat) (hm : P.follows .mixedOrders = true) (hfit : fits n ops = true) (hd : downsN ops = true) (hpl : Nat.blt p ops.size = true) (hEb : Sub Eb E) (hk : E.look k = some (blk b T zs)) (hb : w₀.heap.size ≤ b) (hsz : SizeIs P T ys.length) (hlen : zs.length = ys.length) (h1 : ys.all (·.oneCell') = true)
  (hl : LeftS w₀.heap.size T b Eb Eb) (h : OncesK P w₀.heap.size ops Eb p b T ys [] ops.toList (fun vals => ∃ E1, FromE ops vals Eb E1 ∧ A κ P w₀ n y ((k, blk b T ys) :: E1) Q)) : A κ P w₀ n (.seq (.region id ops true) y) E Q := by
 obtain ⟨r, h2, E1, h3, h4⟩ := h
 exact A.regsO _ p hm hfit hd h2 (Nat.le_of_ble_eq_true hpl) hEb hk hb hsz hlen h1 hl h3 h4
end
end
section
theorem Height_ok (n : Nat) (h1 : 1 ≤ n) (h2 : n ≤ 4096)  : Fn Tryz.prog 41 [.v (nI (n))] (.v (.tuple #[nI (hg n), .int .i64 0])) := by
 refine FV Tryz.func41 rfl Tryz.ntmps41 rfl fun w₀ => ?_
 refine GV rfl (QS (GT (RM rfl ?_)));refine RS (ok_call (Check_ok n h1 h2) (A1 rfl)) ?_;refine RVN 1 rfl ?_;refine GT (RV 2 rfl ?_);refine RF ?_;refine RN (A.no rfl ?_);refine QK (GS (TN 1 (RVN 1 rfl ?_)));refine ZM 1000011 (fun B' => OCB (shapeOf_fnB n h1 h2) (A1 rfl)) rfl fun b11 ⟨hBb11, hb11⟩ => ?_
 refine TL (RS (ok_call (height_fn n b11) (A1 rfl)) ?_);refine RVN 2 rfl ?_;refine A.ret ?_;exact End.ret2V rfl rfl rfl
theorem Total_ok (n : Nat) (h1 : 1 ≤ n) (h2 : n ≤ 4096)  : Fn Tryz.prog 45 [.v (nI (n))] (.v (.tuple #[nI (tot n (hg n + 1)), .int .i64 0])) := by
 have hh := hg_le n
 refine FV Tryz.func45 rfl Tryz.ntmps45 rfl fun w₀ => ?_
 refine GV rfl (QS (GT (RM rfl ?_)));refine RS (ok_call (Check_ok n h1 h2) (A1 rfl)) ?_;refine RVN 1 rfl ?_;refine GT (RV 2 rfl ?_);refine RF ?_;refine RN (A.no rfl ?_);refine QK (GV rfl (QS (GS (TN 1 (RVN 1 rfl ?_)))));refine ZM 1000014 (fun B' => OCB (shapeOf_fnB n h1 h2) (A1 rfl)) rfl fun b14 ⟨hBb14, hb14⟩ => ?_
 refine TL (RS (ok_fieldV (off := 1) (by kernel_rfl) rfl rfl) ?_);refine RS (ok_lenV U27 rfl) ?_;refine RVN 1 rfl ?_;refine A.block ?_;refine A.loop (ι := Nat) (fun i => i ≤ hg n + 1) (fun i => [(5, .v (nI (tot n i))), (15, .v (.slice (some ⟨b14,0, none⟩) (hg n + 1) 6)), (16, .v (nI (hg n + 1))), (17, .v (nI (i))), (1000014, blk b14 200 (rowU n (hg n + 1)))]) (fun i => hg n + 1 - i) 0 ?_ ?_ ?_
 ·exact Nat.zero_le _
 ·exact (Sv [5,15,16,17,1000014] rfl)
 intro i hi
 refine GV rfl (QS ?_);refine A.cond rfl (fun hc18 => ?_) (fun hc18 => ?_)
 ·have hlt : i < hg n + 1 := by simp at hc18; omega
  refine QK (QSB (GT (RS (ok_indexV i U27 info3 rfl rfl rfl (by omega)) ?_)));refine RS (ok_loadV (s := 1000014) (by decide) U3 rfl rfl rfl (by rw [Nat.zero_add]; exact rowU_get (by omega) (by omega))) ?_;refine RVN 1 rfl ?_;refine GTE (RV 3 rfl ?_);refine RZ (nI (tot n (i + 1))) (wrap_eq (by rw [tot_succ]; omega) (by have := tot_small h1 h2 (l := i + 1) (by omega); omega)) ?_;refine RVN 1 rfl ?_;refine End.normal_block (EN (GTE (RB rfl rfl rfl ?_)));refine RZ (nI (i + 1)) (wrap_eq (by omega) (by omega)) ?_;refine RVN 1 rfl ?_;refine End.normal_then ?_;refine End.again (i + 1) ?_ ?_ ?_
  ·show _ ≤ _; omega
  ·show _ - _ < _ - _; omega
  ·exact (Sv [5,15,16,17,1000014] rfl)
 ·have hie : i = hg n + 1 := by simp at hc18; omega
  refine A.exit (End.exit_then (End.exit_then (End.exit_here (EN (GT (RM rfl ?_))))));refine RZ (nI (tot n (hg n + 1))) (by rw [hie]) ?_;refine RVN 2 rfl ?_;refine A.ret ?_;exact End.ret2V rfl rfl rfl
theorem Total_bad (m : Int) (hm : ¬ (1 ≤ m ∧ m ≤ 4096))  : Fn Tryz.prog 45 [.v (.int .i64 (m))] (.v (.tuple #[.int .i64 0, .int .i64 1])) := by
 refine FV Tryz.func45 rfl Tryz.ntmps45 rfl fun w₀ => ?_
 refine GV rfl (QS (GT (RM rfl ?_)));refine RS (ok_call (Check_bad m hm) (A1 rfl)) ?_;refine RVN 1 rfl ?_;refine GT (RV 2 rfl ?_);refine RT ?_;refine RN (A.yes rfl ?_);refine GV rfl (A.ret (End.ret_then ?_));exact End.ret2V rfl rfl rfl
theorem Count_ok (n : Nat) (h1 : 1 ≤ n) (h2 : n ≤ 4096) (l : Nat) (hl : l ≤ hg n) : Fn Tryz.prog 72 [.v (nI (n)), .v (nI (l))] (.v (.tuple #[nI (un n (l + 1)), .int .i64 0])) := by
 have hh := hg_le n
 refine FV Tryz.func72 rfl Tryz.ntmps72 rfl fun w₀ => ?_
 refine GV rfl (GS (TN 1 (RVN 1 rfl ?_)));refine ZM 1000008 (fun B' => OCB (shapeOf_fnB n h1 h2) (A1 rfl)) rfl fun b8 ⟨hBb8, hb8⟩ => ?_
 refine TN 2 (RN ?_);refine ZN 1000006 zero134 fun b6 ⟨hBb6, hb6⟩ => ?_
 refine TF 3 (RN ?_);refine ZA 1000006 (size134.of rfl) hBb6 rfl rfl rfl (LT 1000008 rfl (LW [1,6] rfl)) ?_;refine TL (RN (QS (GT (RL 1000006 U134 rfl rfl (size134.of rfl) ?_))));refine RM rfl ?_;refine RS (ok_call (hasLevel_y n b8 l hl) (A2 rfl rfl)) ?_;refine RVN 1 rfl ?_;refine A.no rfl ?_;refine QK (GT (RS (ok_field field134_1 (by decide) rfl) ?_));refine RLV 1000006 U27 rfl rfl rfl ?_;refine RM rfl ?_;refine RS (ok_indexV l U27 info3 rfl rfl rfl (by omega)) ?_;refine RS (ok_loadV (s := 1000008) (by decide) U3 rfl rfl rfl (by rw [Nat.zero_add]; exact rowU_get (by omega) (by omega))) ?_;refine RVN 2 rfl ?_;refine A.ret ?_;exact End.ret2V rfl rfl rfl
theorem Parts_ok (n : Nat) (h1 : 1 ≤ n) (h2 : n ≤ 4096) (l j : Nat) (hl : l ≤ hg n) (hj : j < un n (l + 1))  : Fn Tryz.prog 53 [.v (nI (n)), .v (nI (l)), .v (nI (j))] (.v (.tuple #[nI (pts n l j), .int .i64 0])) := by
 refine FV Tryz.func53 rfl Tryz.ntmps53 rfl fun w₀ => ?_
 refine GV rfl (GS (TN 1 (RVN 1 rfl ?_)));refine ZM 1000011 (fun B' => OCB (shapeOf_fnB n h1 h2) (A1 rfl)) rfl fun b11 ⟨hBb11, hb11⟩ => ?_
 refine TN 5 (RV 2 rfl ?_);refine RS (ok_litS [(0, nI l), (1, nI j)] (plV l j) ⟨rfl, rfl, rfl, rfl, trivial⟩ (buildP _ _)) ?_;refine RN ?_;refine ZN 1000008 zero134 fun b8 ⟨hBb8, hb8⟩ => ?_
 refine TN 6 (RN ?_);refine ZN 1000009 zero67 fun b9 ⟨hBb9, hb9⟩ => ?_
 refine TF 7 (RN ?_);refine ZA 1000008 (size134.of rfl) hBb8 rfl rfl rfl (LT 1000009 rfl (LT 1000011 rfl (LW [8,9,14] rfl))) ?_;refine TF 8 (RN ?_);refine ZA 1000009 (size67.of rfl) hBb9 rfl rfl rfl (LT 1000008 rfl (LT 1000011 rfl (LW [8,9] rfl))) ?_;refine TL (RN (QS (GT (RL 1000008 U134 rfl rfl (size134.of rfl) ?_))));refine RL 1000009 U67 rfl rfl (size67.of rfl) ?_;refine RS (ok_callK 1000011 (has_y n b11 l j hl hj) (by decide) rfl (A2 rfl rfl)) ?_;refine RVN 1 rfl ?_;refine A.no rfl ?_;refine QK (GT (RL 1000008 U134 rfl rfl (size134.of rfl) ?_));refine RL 1000009 U67 rfl rfl (size67.of rfl) ?_;refine RS (ok_callK 1000011 (parts_fn n b11 h1 h2 l j hl hj) (by decide) rfl (A2 rfl rfl)) ?_;refine RVN 2 rfl ?_;refine A.ret ?_;exact End.ret2V rfl rfl rfl
theorem Parts_no (n : Nat) (h1 : 1 ≤ n) (h2 : n ≤ 4096) (l j : Int) (hp : ¬ IsP n l j)  : Fn Tryz.prog 53 [.v (nI (n)), .v (.int .i64 (l)), .v (.int .i64 (j))] (.v (.tuple #[.int .i64 0, .int .i64 1])) := by
 refine FV Tryz.func53 rfl Tryz.ntmps53 rfl fun w₀ => ?_
 refine GV rfl (GS (TN 1 (RVN 1 rfl ?_)));refine ZM 1000011 (fun B' => OCB (shapeOf_fnB n h1 h2) (A1 rfl)) rfl fun b11 ⟨hBb11, hb11⟩ => ?_
 refine TN 5 (RV 2 rfl ?_);refine RS (ok_litS [(0, .int .i64 (l)), (1, .int .i64 (j))] ([.int .i64 (l), .int .i64 (j)]) ⟨rfl, rfl, rfl, rfl, trivial⟩ (buildP _ _)) ?_;refine RN ?_;refine ZN 1000008 zero134 fun b8 ⟨hBb8, hb8⟩ => ?_
 refine TN 6 (RN ?_);refine ZN 1000009 zero67 fun b9 ⟨hBb9, hb9⟩ => ?_
 refine TF 7 (RN ?_);refine ZA 1000008 (size134.of rfl) hBb8 rfl rfl rfl (LT 1000009 rfl (LT 1000011 rfl (LW [8,9,14] rfl))) ?_;refine TF 8 (RN ?_);refine ZA 1000009 (size67.of rfl) hBb9 rfl rfl rfl (LT 1000008 rfl (LT 1000011 rfl (LW [8,9] rfl))) ?_;refine TL (RN (QS (GT (RL 1000008 U134 rfl rfl (size134.of rfl) ?_))));refine RL 1000009 U67 rfl rfl (size67.of rfl) ?_;refine RS (ok_callK 1000011 (has_n n b11 l j hp) (by decide) rfl (A2 rfl rfl)) ?_;refine RVN 1 rfl ?_;refine A.yes rfl ?_;refine GV rfl (A.ret (End.ret_then ?_));exact End.ret2V rfl rfl rfl
theorem Parent_up (n : Nat) (h1 : 1 ≤ n) (h2 : n ≤ 4096) (l j : Nat) (hl : l ≤ hg n) (hj : j < un n (l + 1)) (hu : l < hg n) : Fn Tryz.prog 92 [.v (nI (n)), .v (aggV (plV l j))] (.v (.tuple #[aggV (plV (l + 1) (j / 4)), nI (j % 4), .int .i64 0])) := by
 have hu0 := un_le h1 (l + 1)
 have hv0 := un_pos h1 (l + 1)
 have hh := hg_le n
 refine FV Tryz.func92 rfl Tryz.ntmps92 rfl fun w₀ => ?_
 refine GS (TN 0 (RN ?_));refine ZB 1000003 rfl fun b3 ⟨hBb3, hb3⟩ => ?_
 refine TN 1 (RN ?_);refine ZN 1000004 zero67 fun b4 ⟨hBb4, hb4⟩ => ?_
 have hlt_b3_b4 := hb4 1000003 b3 _ _ rfl
 refine TL (RVN 2 rfl ?_);refine GS (TN 1 (RVN 1 rfl ?_));refine ZM 1000009 (fun B' => OCB (shapeOf_fnB n h1 h2) (A1 rfl)) rfl fun b9 ⟨hBb9, hb9⟩ => ?_
 have hlt_b3_b9 := hb9 1000003 b3 _ _ rfl
 have hlt_b4_b9 := hb9 1000004 b4 _ _ rfl
 refine TN 2 (RN ?_);refine ZN 1000007 zero134 fun b7 ⟨hBb7, hb7⟩ => ?_
 refine TF 3 (RN ?_);refine ZA 1000007 (size134.of rfl) hBb7 rfl rfl rfl (LT 1000003 rfl (LT 1000004 rfl (LT 1000009 rfl (LW [3,4,7] rfl)))) ?_;refine TL (RN (QSB (GT (RL 1000007 U134 rfl rfl (size134.of rfl) ?_))));refine RL 1000003 U67 rfl rfl (size67.of rfl) ?_;refine RS (ok_callK 1000009 (has_y n b9 l j hl hj) (by decide) rfl (A2 rfl rfl)) ?_;refine RVN 2 rfl ?_;refine A.no rfl ?_;refine GTD (RS (ok_field field67_0 (by decide) rfl) ?_);refine RLV 1000003 U3 rfl rfl rfl ?_;refine RL 1000007 U134 rfl rfl (size134.of rfl) ?_;refine RS (ok_call (height_fn n b9) (A1 rfl)) ?_;refine RB rfl rfl rfl ?_;refine RF ?_;refine RVN 1 rfl ?_;refine A.no rfl ?_;refine A.skip (End.normal_block (EN (A.regsOK (k := 1000004) (ys := plV (l + 1) (j / 4)) 10 (by kernel_rfl) (by kernel_rfl) (by kernel_rfl) rfl (Sv [3,4,16,1000003,1000007,1000009] rfl) rfl hBb4 (size67.of (rfl)) (rfl) (rfl) (LV 3 rfl (LV 4 rfl (LV 16 rfl (LB 1000003 rfl (LT 1000007 rfl (LT 1000009 rfl LN)))))) ?_)));refine OncesK.cons (_) rfl rfl (.inl rfl) FromN.all (ok_field field67_0 (by decide) rfl) ?_;refine OncesK.cons ((23, .v _) :: _) rfl rfl (.inl rfl) (FromN.op 0 (by kernel_rfl) rfl rfl FromN.all) (ok_loadV (s := 1000003) (by decide) U3 rfl rfl rfl (rfl)) ?_;refine OncesK.cons ((24, .v _) :: _) rfl rfl (.inl rfl) (FromN.op 1 (by kernel_rfl) rfl rfl FromN.all) (OpOk.asV (nI (l + 1)) (wrap_eq (by omega) (by omega)) (ok_bin rfl rfl rfl)) ?_;refine OncesK.cons (_) rfl rfl (.inl rfl) FromN.all (ok_field field67_1 (by decide) rfl) ?_;refine OncesK.cons ((26, .v _) :: _) rfl rfl (.inl rfl) (FromN.op 3 (by kernel_rfl) rfl rfl FromN.all) (ok_loadV (s := 1000003) (by decide) U3 rfl rfl rfl (rfl)) ?_;refine OncesK.cons ((27, .v _) :: _) rfl rfl (.inl rfl) (FromN.op 4 (by kernel_rfl) rfl rfl FromN.all) (OpOk.asV (nI ((j) / 4)) (by rw [tdiv_lit _ (by decide)]; exact wrap_eq rfl (by first | omega | (simp only [Int.toNat]; omega))) (ok_div rfl rfl (by decide))) ?_;refine OncesK.cons ((25, .v _) :: (28, .v _) :: _) rfl rfl (.inl rfl) (FromN.op 2 (by kernel_rfl) rfl rfl (FromN.op 5 (by kernel_rfl) rfl rfl FromN.all)) (ok_litS [(0, nI (l + 1)), (1, nI (j / 4))] (plV (l + 1) (j / 4)) ⟨rfl, rfl, rfl, rfl, trivial⟩ (buildP _ _)) ?_;refine OncesK.cons (_) rfl rfl (.inl rfl) FromN.all (ok_field field67_1 (by decide) rfl) ?_;refine OncesK.cons ((30, .v _) :: _) rfl rfl (.inl rfl) (FromN.op 7 (by kernel_rfl) rfl rfl FromN.all) (ok_loadV (s := 1000003) (by decide) U3 rfl rfl rfl (rfl)) ?_;refine OncesK.cons ((31, .v _) :: _) rfl rfl (.inl rfl) (FromN.op 8 (by kernel_rfl) rfl rfl FromN.all) (OpOk.asV (nI ((j) % 4)) (by rw [tmod_lit _ (by decide)]; rfl) (ok_rem rfl rfl (by decide))) ?_;refine OncesK.store ((29, .v _) :: _) rfl (FromN.op 6 (by kernel_rfl) rfl rfl FromN.all) rfl rfl ?_;refine OncesK.cons ((32, .v _) :: _) rfl rfl (.inl rfl) (FromN.op 9 (by kernel_rfl) rfl rfl FromN.all) (ok_assign rfl) ?_;refine OncesK.cons (_) rfl rfl (.inl rfl) FromN.all (ok_assign rfl) ?_
 refine OncesK.nil ⟨_, (FromE.op (t := 5) 11 rfl rfl (FromE.op (t := 6) 12 rfl rfl FromE.all)), ?_⟩
 refine A.sub (Sv [4,5,6,1000003,1000004,1000007,1000009] rfl) ?_;refine A.ret ?_;exact End.cellVV rfl U67 rfl (size67.of rfl) rfl (s := 1000004) rfl rfl rfl
theorem Child_ok (n : Nat) (h1 : 1 ≤ n) (h2 : n ≤ 4096) (l j : Nat) (hl : l ≤ hg n) (hj : j < un n (l + 1)) (h0 : 0 < l) (x : Nat) (hx : x < pts n l j) : Fn Tryz.prog 99 [.v (nI (n)), .v (aggV (plV l j)), .v (nI (x))] (.v (.tuple #[aggV (plV (l - 1) (4 * j + x)), .int .i64 0])) := by
 have hu0 := un_le h1 (l)
 have hv0 := un_pos h1 (l)
 have hu1 := un_le h1 (l + 1)
 have hv1 := un_pos h1 (l + 1)
 have hh := hg_le n
 have hp := pts_pos hj
 refine FV Tryz.func99 rfl Tryz.ntmps99 rfl fun w₀ => ?_
 refine GS (TN 0 (RN ?_));refine ZB 1000004 rfl fun b4 ⟨hBb4, hb4⟩ => ?_
 refine TN 1 (RN ?_);refine ZN 1000006 zero67 fun b6 ⟨hBb6, hb6⟩ => ?_
 have hlt_b4_b6 := hb6 1000004 b4 _ _ rfl
 refine TL (RVN 1 rfl ?_);refine GS (TN 1 (RVN 1 rfl ?_));refine ZM 1000010 (fun B' => OCB (shapeOf_fnB n h1 h2) (A1 rfl)) rfl fun b10 ⟨hBb10, hb10⟩ => ?_
 have hlt_b4_b10 := hb10 1000004 b4 _ _ rfl
 have hlt_b6_b10 := hb10 1000006 b6 _ _ rfl
 refine TN 2 (RN ?_);refine ZN 1000008 zero134 fun b8 ⟨hBb8, hb8⟩ => ?_
 refine TF 3 (RN ?_);refine ZA 1000008 (size134.of rfl) hBb8 rfl rfl rfl (LT 1000004 rfl (LT 1000006 rfl (LT 1000010 rfl (LW [2,4,6,8] rfl)))) ?_;refine TL (RN (QSB (GT (RL 1000008 U134 rfl rfl (size134.of rfl) ?_))));refine RL 1000004 U67 rfl rfl (size67.of rfl) ?_;refine RS (ok_callK 1000010 (has_y n b10 l j hl hj) (by decide) rfl (A2 rfl rfl)) ?_;refine RV 3 rfl ?_;refine RQ (ok_call (within_y _ _ (by omega) (by omega)) (A2 rfl rfl)) ?_;refine RVN 3 rfl ?_;refine A.no rfl ?_;refine GT (RS (ok_field field67_0 (by decide) rfl) ?_);refine RLV 1000004 U3 rfl rfl rfl ?_;refine RB rfl rfl rfl ?_;refine RF ?_;refine RV 2 rfl ?_;refine RQ (ok_loadA (s := 1000008) (by decide) U134 rfl (size134.of (rfl)) rfl rfl) ?_;refine RQ (ok_loadA (s := 1000004) (by decide) U67 rfl (size67.of (rfl)) rfl rfl) ?_;refine RQ (ok_callK 1000010 (parts_fn n b10 h1 h2 l j hl hj) (by decide) rfl (A2 rfl rfl)) ?_;refine RQ (ok_bin rfl rfl rfl) ?_;refine RF ?_;refine RVN 2 rfl ?_;refine A.sub (Sv [2,4,6,22,1000004,1000006,1000008,1000010] rfl) ?_;refine A.no rfl ?_;refine A.skip (End.normal_block (EN (GS (TF 9 (RS (ok_field field67_0 (by decide) rfl) ?_)))));refine RLV 1000004 U3 rfl rfl rfl ?_;refine RB rfl rfl rfl ?_;refine RZ (nI (l - 1)) (wrap_eq (by omega) (by omega)) ?_;refine RS (ok_field field67_1 (by decide) rfl) ?_;refine RLV 1000004 U3 rfl rfl rfl ?_;refine RB rfl rfl rfl ?_;refine RZ (nI (4 * j)) (wrap_eq (by omega) (by omega)) ?_;refine RV 2 rfl ?_;refine RZ (nI (4 * j + x)) (wrap_eq (by omega) (by omega)) ?_;refine RS (ok_litS [(0, nI (l - 1)), (1, nI (4 * j + x))] (plV (l - 1) (4 * j + x)) ⟨rfl, rfl, rfl, rfl, trivial⟩ (buildP _ _)) ?_;refine RN ?_;refine ZA 1000006 (size67.of rfl) hBb6 rfl rfl rfl (LV 6 rfl (LB 1000004 rfl (LT 1000008 rfl (LT 1000010 rfl LN)))) ?_;refine TL (RVN 1 rfl ?_);refine A.ret ?_;exact End.cellV rfl U67 rfl (size67.of rfl) rfl (s := 1000006) rfl rfl
theorem Child_leaf (n : Nat) (h1 : 1 ≤ n) (h2 : n ≤ 4096) (l j : Nat) (hl : l ≤ hg n) (hj : j < un n (l + 1)) (h0 : l = 0) (x : Nat) (hx : x < 4) : Fn Tryz.prog 99 [.v (nI (n)), .v (aggV (plV l j)), .v (nI (x))] (.v (.tuple #[aggV [.int .i64 0, .int .i64 0], .int .i64 11])) := by
 refine FV Tryz.func99 rfl Tryz.ntmps99 rfl fun w₀ => ?_
 refine GS (TN 0 (RN ?_));refine ZB 1000004 rfl fun b4 ⟨hBb4, hb4⟩ => ?_
 refine TN 1 (RN ?_);refine ZN 1000006 zero67 fun b6 ⟨hBb6, hb6⟩ => ?_
 have hlt_b4_b6 := hb6 1000004 b4 _ _ rfl
 refine TL (RVN 1 rfl ?_);refine GS (TN 1 (RVN 1 rfl ?_));refine ZM 1000010 (fun B' => OCB (shapeOf_fnB n h1 h2) (A1 rfl)) rfl fun b10 ⟨hBb10, hb10⟩ => ?_
 have hlt_b4_b10 := hb10 1000004 b4 _ _ rfl
 have hlt_b6_b10 := hb10 1000006 b6 _ _ rfl
 refine TN 2 (RN ?_);refine ZN 1000008 zero134 fun b8 ⟨hBb8, hb8⟩ => ?_
 refine TF 3 (RN ?_);refine ZA 1000008 (size134.of rfl) hBb8 rfl rfl rfl (LT 1000004 rfl (LT 1000006 rfl (LT 1000010 rfl (LW [2,4,6,8] rfl)))) ?_;refine TL (RN (QSB (GT (RL 1000008 U134 rfl rfl (size134.of rfl) ?_))));refine RL 1000004 U67 rfl rfl (size67.of rfl) ?_;refine RS (ok_callK 1000010 (has_y n b10 l j hl hj) (by decide) rfl (A2 rfl rfl)) ?_;refine RV 3 rfl ?_;refine RQ (ok_call (within_y _ _ (by omega) (by omega)) (A2 rfl rfl)) ?_;refine RVN 3 rfl ?_;refine A.no rfl ?_;refine GT (RS (ok_field field67_0 (by decide) rfl) ?_);refine RLV 1000004 U3 rfl rfl rfl ?_;refine RB rfl rfl rfl ?_;refine RT ?_;refine RVN 8 rfl ?_;refine A.sub (Sv [2,4,6,22,1000004,1000006,1000008,1000010] rfl) ?_;refine A.yes rfl ?_;refine GS (TF 1 (RS (ok_lit [] ([.int .i64 0] ++ [.int .i64 0]) (fun _ _ => rfl) (by kernel_rfl)) ?_));refine RN ?_;refine ZA 1000006 (size67.of rfl) hBb6 rfl rfl rfl (LV 6 rfl (LB 1000004 rfl (LT 1000008 rfl (LT 1000010 rfl LN)))) ?_;refine TL (RVN 1 rfl ?_);refine A.ret (End.ret_block (End.ret_then ?_));exact End.cellV rfl U67 rfl (size67.of rfl) rfl (s := 1000006) rfl rfl
theorem Child_none (n : Nat) (h1 : 1 ≤ n) (h2 : n ≤ 4096) (l j : Nat) (hl : l ≤ hg n) (hj : j < un n (l + 1)) (h0 : 0 < l) (x : Nat) (hx : x < 4) (hx' : pts n l j ≤ x) : Fn Tryz.prog 99 [.v (nI (n)), .v (aggV (plV l j)), .v (nI (x))] (.v (.tuple #[aggV [.int .i64 0, .int .i64 0], .int .i64 11])) := by
 refine FV Tryz.func99 rfl Tryz.ntmps99 rfl fun w₀ => ?_
 refine GS (TN 0 (RN ?_));refine ZB 1000004 rfl fun b4 ⟨hBb4, hb4⟩ => ?_
 refine TN 1 (RN ?_);refine ZN 1000006 zero67 fun b6 ⟨hBb6, hb6⟩ => ?_
 have hlt_b4_b6 := hb6 1000004 b4 _ _ rfl
 refine TL (RVN 1 rfl ?_);refine GS (TN 1 (RVN 1 rfl ?_));refine ZM 1000010 (fun B' => OCB (shapeOf_fnB n h1 h2) (A1 rfl)) rfl fun b10 ⟨hBb10, hb10⟩ => ?_
 have hlt_b4_b10 := hb10 1000004 b4 _ _ rfl
 have hlt_b6_b10 := hb10 1000006 b6 _ _ rfl
 refine TN 2 (RN ?_);refine ZN 1000008 zero134 fun b8 ⟨hBb8, hb8⟩ => ?_
 refine TF 3 (RN ?_);refine ZA 1000008 (size134.of rfl) hBb8 rfl rfl rfl (LT 1000004 rfl (LT 1000006 rfl (LT 1000010 rfl (LW [2,4,6,8] rfl)))) ?_;refine TL (RN (QSB (GT (RL 1000008 U134 rfl rfl (size134.of rfl) ?_))));refine RL 1000004 U67 rfl rfl (size67.of rfl) ?_;refine RS (ok_callK 1000010 (has_y n b10 l j hl hj) (by decide) rfl (A2 rfl rfl)) ?_;refine RV 3 rfl ?_;refine RQ (ok_call (within_y _ _ (by omega) (by omega)) (A2 rfl rfl)) ?_;refine RVN 3 rfl ?_;refine A.no rfl ?_;refine GT (RS (ok_field field67_0 (by decide) rfl) ?_);refine RLV 1000004 U3 rfl rfl rfl ?_;refine RB rfl rfl rfl ?_;refine RF ?_;refine RV 2 rfl ?_;refine RQ (ok_loadA (s := 1000008) (by decide) U134 rfl (size134.of (rfl)) rfl rfl) ?_;refine RQ (ok_loadA (s := 1000004) (by decide) U67 rfl (size67.of (rfl)) rfl rfl) ?_;refine RQ (ok_callK 1000010 (parts_fn n b10 h1 h2 l j hl hj) (by decide) rfl (A2 rfl rfl)) ?_;refine RQ (ok_bin rfl rfl rfl) ?_;refine RT ?_;refine RVN 2 rfl ?_;refine A.sub (Sv [2,4,6,22,1000004,1000006,1000008,1000010] rfl) ?_;refine A.yes rfl ?_;refine GS (TF 1 (RS (ok_lit [] ([.int .i64 0] ++ [.int .i64 0]) (fun _ _ => rfl) (by kernel_rfl)) ?_));refine RN ?_;refine ZA 1000006 (size67.of rfl) hBb6 rfl rfl rfl (LV 6 rfl (LB 1000004 rfl (LT 1000008 rfl (LT 1000010 rfl LN)))) ?_;refine TL (RVN 1 rfl ?_);refine A.ret (End.ret_block (End.ret_then ?_));exact End.cellV rfl U67 rfl (size67.of rfl) rfl (s := 1000006) rfl rfl
theorem Group_ok (n : Nat) (h1 : 1 ≤ n) (h2 : n ≤ 4096) (x : Nat) (hx : x < n) : Fn Tryz.prog 49 [.v (nI (n)), .v (nI (x))] (.v (.tuple #[aggV (plV 0 (x / 4)), nI (x % 4), .int .i64 0])) := by
 refine FV Tryz.func49 rfl Tryz.ntmps49 rfl fun w₀ => ?_
 refine GS (TN 0 (RN ?_));refine ZN 1000004 zero67 fun b4 ⟨hBb4, hb4⟩ => ?_
 refine TL (RVN 2 rfl ?_);refine QS (GT (RV 2 rfl ?_));refine RS (ok_call (hasBlock_y n h1 h2 x hx) (A2 rfl rfl)) ?_;refine RVN 1 rfl ?_;refine A.no rfl ?_;refine QK (GS (TF 5 (RM rfl ?_)));refine RS (ok_div rfl rfl (by decide)) ?_;refine RZ (nI ((x) / 4)) (by rw [tdiv_lit _ (by decide)]; exact wrap_eq rfl (by first | omega | (simp only [Int.toNat]; omega))) ?_;refine RS (ok_litS [(0, nI 0), (1, nI (x / 4))] (plV 0 (x / 4)) ⟨rfl, rfl, rfl, rfl, trivial⟩ (buildP _ _)) ?_;refine RM rfl ?_;refine RS (ok_rem rfl rfl (by decide)) ?_;refine RZ (nI ((x) % 4)) (by rw [tmod_lit _ (by decide)]; rfl) ?_;refine RN ?_;refine ZA 1000004 (size67.of rfl) hBb4 rfl rfl rfl (LW [4,16] rfl) ?_;refine TL (RVN 2 rfl ?_);refine A.ret ?_;exact End.cellVV rfl U67 rfl (size67.of rfl) rfl (s := 1000004) rfl rfl rfl
end
section
theorem zero155 : ZeroIs Tryz.prog 155 (List.replicate 64 (.int .u32 0)) := by unfold ZeroIs; kernel_rfl
theorem size155 : SizeIs Tryz.prog 155 64 := by unfold SizeIs; kernel_rfl
theorem zero156 : ZeroIs Tryz.prog 156 (List.replicate 8 (.int .u32 0)) := by unfold ZeroIs; kernel_rfl
theorem size156 : SizeIs Tryz.prog 156 8 := by unfold SizeIs; kernel_rfl
theorem K64_lit : K64.length = 64 := by decide
theorem refrotr_fn (x : UInt32) (n : Nat) (hn0 : 0 < n) (hn : n < 32) : Fn Tryz.prog 118 [.v (u32V x), .v (.int .i64 (n : Int))] (.v (u32V (rotr32 x n))) := by
 have hx := u32_lt x
 refine FV Tryz.func118 rfl Tryz.ntmps118 rfl fun w₀ => ?_
 refine GV rfl (GTD (RV 2 rfl ?_));refine RS (ok_shr rfl rfl (Int.natCast_nonneg n)) ?_;refine RZ (.int .u32 ((x.toNat / 2 ^ n : Nat) : Int)) (by rw [Int.toNat_natCast, show min n IntKind.u32.bits = n from Nat.min_eq_left (by show n ≤ 32; omega), shr_nat]) ?_;refine RV 3 rfl ?_;refine RZ (.int .i64 ((32 - n : Nat) : Int)) (by rw [wrap_i64 (by omega) (by omega)]; congr 1; omega) ?_;refine RS (ok_shl rfl rfl (Int.natCast_nonneg _)) ?_;refine RZ (.int .u32 ((x.toNat * 2 ^ (32 - n) % 4294967296 : Nat) : Int)) (by rw [Int.toNat_natCast, show min (32 - n) IntKind.u32.bits = 32 - n from Nat.min_eq_left (by show 32 - n ≤ 32; omega), ← wrap_u32_nat]; simp) ?_;refine RB rfl rfl rfl ?_;refine RZ (u32V (rotr32 x n)) (by
  show Value.int .u32 (IntKind.u32.wrap ((BitVec.ofInt 32 _ ||| BitVec.ofInt 32 _).toNat : Int)) = _
  rw [or_u32_nat (Nat.lt_of_le_of_lt (Nat.div_le_self _ _) hx) (Nat.mod_lt _ (by decide)), rotr32_val, ← rotB_go hx (by omega), Nat.or_comm, show 32 - (32 - n) = n from by omega]) ?_
 refine RVN 1 rfl ?_;refine A.ret ?_;exact ER rfl rfl
set_option maxHeartbeats 1000000 in
theorem refConstants_fn  : Fn Tryz.prog 87 [] (tup [.v (aggV (K64.map u32V)), .v (aggV (H8.list.map u32V))]) := by
 refine FV Tryz.func87 rfl Tryz.ntmps87 rfl fun w₀ => ?_
 refine GS (TN 0 (RN ?_));refine ZN 1000000 zero155 fun b0 ⟨hBb0, hb0⟩ => ?_
 refine TN 1 (RN ?_);refine ZN 1000001 zero156 fun b1 ⟨hBb1, hb1⟩ => ?_
 refine TL (RN (GS (TF 2 (RS (ok_litA [_, _, _, _, _, _, _, _, _, _, _, _, _, _, _, _, _, _, _, _, _, _, _, _, _, _, _, _, _, _, _, _, _, _, _, _, _, _, _, _, _, _, _, _, _, _, _, _, _, _, _, _, _, _, _, _, _, _, _, _, _, _, _, _] U155 info46 zero155 rfl ⟨rfl, rfl, rfl, rfl, rfl, rfl, rfl, rfl, rfl, rfl, rfl, rfl, rfl, rfl, rfl, rfl, rfl, rfl, rfl, rfl, rfl, rfl, rfl, rfl, rfl, rfl, rfl, rfl, rfl, rfl, rfl, rfl, rfl, rfl, rfl, rfl, rfl, rfl, rfl, rfl, rfl, rfl, rfl, rfl, rfl, rfl, rfl, rfl, rfl, rfl, rfl, rfl, rfl, rfl, rfl, rfl, rfl, rfl, rfl, rfl, rfl, rfl, rfl, rfl, rfl, rfl, rfl, rfl, rfl, rfl, rfl, rfl, rfl, rfl, rfl, rfl, rfl, rfl, rfl, rfl, rfl, rfl, rfl, rfl, rfl, rfl, rfl, rfl, rfl, rfl, rfl, rfl, rfl, rfl, rfl, rfl, rfl, rfl, rfl, rfl, rfl, rfl, rfl, rfl, rfl, rfl, rfl, rfl, rfl, rfl, rfl, rfl, rfl, rfl, rfl, rfl, rfl, rfl, rfl, rfl, rfl, rfl, rfl, rfl, rfl, rfl, rfl, rfl, trivial⟩ rfl) ?_))));refine RZ (aggV (K64.map u32V)) (by kernel_rfl) ?_;refine RS (ok_litA [_, _, _, _, _, _, _, _] U156 info46 zero156 rfl ⟨rfl, rfl, rfl, rfl, rfl, rfl, rfl, rfl, rfl, rfl, rfl, rfl, rfl, rfl, rfl, rfl, trivial⟩ rfl) ?_;refine RZ (aggV (H8.list.map u32V)) (by kernel_rfl) ?_;refine RN ?_;refine ZA 1000000 (size155.of rfl) hBb0 rfl rfl rfl (LT 1000001 rfl (LW [0,1,3] rfl)) ?_;refine TF 3 (RN ?_);refine ZA 1000001 (size156.of rfl) hBb1 rfl rfl rfl (LT 1000000 rfl (LW [0,1] rfl)) ?_;refine TL (RN (A.ret ?_));exact End.cell2 (s := 1000000) (s' := 1000001) rfl U155 rfl (size155.of (rfl)) rfl rfl (Le.refl _) U156 rfl (size156.of (rfl)) rfl rfl (Le.refl _)
end
section
set_option maxHeartbeats 400000 in
theorem refCompress_fn (h : R8) (l : List UInt8) (hl : l.length = 64) : Fn Tryz.prog 88 [.v (aggV (h.list.map u32V)), byt l] (.v (aggV ((compress h l).list.map u32V))) := by
 refine Fn.of Tryz.func88 rfl (by kernel_rfl) Tryz.ntmps88 (by simp) (fun w => [(0, .v (aggV (h.list.map u32V))), (1, old w.heap.size (byt l))]) (fun w => (Start.v rfl (Start.old rfl Start.nil))) fun w₀ => ?_
 refine GS (TN 0 (RN ?_));refine ZB 1000002 rfl fun b2 ⟨hBb2, hb2⟩ => ?_
 refine TN 1 (RN ?_);refine ZN 1000004 zero156 fun b4 ⟨hBb4, hb4⟩ => ?_
 have hlt_b2_b4 := hb4 1000002 b2 _ _ rfl
 refine TL (RN (GS (TN 4 (RS (ok_call refConstants_fn Args.nil) ?_))));refine RM rfl ?_;refine RS (ok_extract rfl rfl) ?_;refine RS (ok_extract rfl rfl) ?_;refine RN ?_;refine ZN 1000005 zero155 fun b5 ⟨hBb5, hb5⟩ => ?_
 refine TN 5 (RN ?_);refine ZN 1000006 zero156 fun b6 ⟨hBb6, hb6⟩ => ?_
 have hlt_b2_b6 := hb6 1000002 b2 _ _ rfl
 have hlt_b4_b6 := hb6 1000004 b4 _ _ rfl
 refine TF 6 (RN ?_);refine ZA 1000005 (size155.of rfl) hBb5 rfl rfl rfl (LO 1 rfl (LT 1000002 rfl (LT 1000004 rfl (LT 1000006 rfl (LW [2,4,5,6,29] rfl))))) ?_;refine TF 7 (RN ?_);refine ZA 1000006 (size156.of rfl) hBb6 rfl rfl rfl (LO 1 rfl (LB 1000002 rfl (LB 1000004 rfl (LT 1000005 rfl (LW [2,4,5] rfl))))) ?_;refine TL (RN (GS (TN 0 (RN ?_))));refine ZN 1000007 zero155 fun b7 ⟨hBb7, hb7⟩ => ?_
 have hlt_b5_b7 := hb7 1000005 b5 _ _ rfl
 refine TL (RN (QS (GV rfl (A.block ?_))));refine A.loop (ι := Nat) (fun j => j ≤ 64) (fun j => [(1, old w₀.heap.size (byt l)), (2, .v (.pointer (some ⟨b2,0, none⟩))), (4, .v (.pointer (some ⟨b4,0, none⟩))), (5, .v (.pointer (some ⟨b5,0, none⟩))), (7, .v (.pointer (some ⟨b7,0, none⟩))), (8, .v (.int .i64 ((j : Nat) : Int))), (1000002, blk b2 156 (h.list.map u32V)), (1000004, blk b4 156 (List.replicate 8 (.int .u32 0))), (1000005, blk b5 155 (K64.map u32V)), (1000007, blk b7 155 (table (sched l j) 64))]) (fun j => 64 - j) 0 ?_ ?_ ?_
 ·exact Nat.zero_le _
 ·exact (KC 1 rfl (KC 2 rfl (KC 4 rfl (KC 5 rfl (KC 7 rfl (KC 8 rfl (KC 1000002 rfl (KC 1000004 rfl (KC 1000005 rfl (KE 1000007 rfl (rfl) KN))))))))))
 intro j hj
 refine QS (GV rfl ?_);refine A.cond rfl (fun hc31 => ?_) (fun hc31 => ?_)
 ·have hlt : j < 64 := by simp at hc31; omega
  refine QK (QSB (QS (GV rfl ?_)));refine A.cond rfl (fun hc35 => ?_) (fun hc35 => ?_)
  ·have hj16 : j < 16 := by simp at hc35; omega
   refine GT (RV 3 rfl ?_);refine RZ (.int .i64 ((4 * j : Nat) : Int)) (by rw [wrap_i64 (by omega) (by omega)]; first | rfl | (congr 1; omega)) ?_;refine RV 2 rfl ?_;refine RZ (.int .i64 ((4 * j : Nat) : Int)) (by rw [wrap_i64 (by omega) (by omega)]; first | rfl | (congr 1; omega)) ?_;refine RB rfl rfl rfl ?_;refine RZ (.int .i64 ((4 * j + 4 : Nat) : Int)) (by rw [wrap_i64 (by omega) (by omega)]; first | rfl | (congr 1; omega)) ?_;refine RS (ok_slice (4 * j) (4 * j + 4) U23 info5 rfl (Le.old _ _) (.inl ⟨_, _, rfl, rfl⟩) (.inl ⟨_, _, rfl, rfl⟩) (by omega) (by simp; omega)) ?_;refine RS (ok_call (refGet_fn ((l.drop (4 * j)).take 4) 4 (by decide) (by decide)) (Args.cons rfl ((Le.eq (by simp only [byt, List.map_take, List.map_drop, List.drop_take]; congr 2; omega))) (A1 rfl))) ?_;refine RM rfl ?_;refine RS (ok_extract rfl rfl) ?_;refine RS (ok_extract rfl rfl) ?_;refine RVN 2 rfl ?_;refine GS (TF 4 (RV 2 rfl ?_));refine RS (ok_conv U47 U46 rfl) ?_;refine RZ (u32V (nextW l (sched l j) j)) (by rw [nextW, if_pos hj16, word, u32V_ofNat, getV, if_pos (by simp; omega), wrap_u32_nat]) ?_;refine RS (ok_index0 _ U155 info46 rfl rfl (rfl) (by omega)) ?_;refine RN ?_;refine ⟨_, eff_storeS (n := 202) (s := 1000007) info46 rfl rfl rfl hBb7 rfl (by rw [table_length (by rw [sched_length]; omega)]; omega) (LO 1 rfl (LT 1000002 rfl (LT 1000004 rfl (LB 1000005 rfl (LW [2,4,5,7,8] rfl))))), ?_⟩
   refine TL (RN (A.exit (End.exit_then (End.exit_here (EN (GTE (RV 2 rfl ?_)))))));refine RZ (.int .i64 ((j + 1 : Nat) : Int)) (by rw [wrap_i64 (by omega) (by omega)]; first | rfl | (congr 1; omega)) ?_;refine RVN 1 rfl ?_;refine End.sub (Sv [1,2,4,5,7,8,1000002,1000004,1000005,1000007] rfl) ?_;refine End.normal_then ?_;refine End.again (j + 1) ?_ ?_ ?_
   ·show _ ≤ _; omega
   ·show _ - _ < _ - _; omega
   ·exact (KC 1 rfl (KC 2 rfl (KC 4 rfl (KC 5 rfl (KC 7 rfl (KC 8 rfl (KC 1000002 rfl (KC 1000004 rfl (KC 1000005 rfl (KE 1000007 rfl (by rw [table_set (sched_length l j) hlt]; rfl) KN))))))))))
  ·have hj16 : ¬ j < 16 := by simp at hc35; omega
   refine QK (GTD (RV 2 rfl ?_));refine RZ (.int .i64 ((j - 15 : Nat) : Int)) (by rw [wrap_i64 (by omega) (by omega)]; first | rfl | (congr 1; omega)) ?_;refine RS (ok_index0 _ U155 info46 rfl rfl (rfl) (by omega)) ?_;refine RS (ok_loadV (s := 1000007) (by decide) U46 rfl rfl rfl (table_get (by rw [sched_length]; omega))) ?_;refine RV 2 rfl ?_;refine RZ (.int .i64 ((j - 2 : Nat) : Int)) (by rw [wrap_i64 (by omega) (by omega)]; first | rfl | (congr 1; omega)) ?_;refine RS (ok_index0 _ U155 info46 rfl rfl (rfl) (by omega)) ?_;refine RS (ok_loadV (s := 1000007) (by decide) U46 rfl rfl rfl (table_get (by rw [sched_length]; omega))) ?_;refine RVN 2 rfl ?_;refine A.reg (by kernel_rfl) (by kernel_rfl) (.inr (by kernel_rfl)) ?_;refine TD 29 ?_;refine RV 3 rfl ?_;refine RZ (.int .i64 ((j - 16 : Nat) : Int)) (by rw [wrap_i64 (by omega) (by omega)]; first | rfl | (congr 1; omega)) ?_;refine RS (ok_index0 _ U155 info46 rfl rfl (rfl) (by omega)) ?_;refine RS (ok_loadV (s := 1000007) (by decide) U46 rfl rfl rfl (table_get (by rw [sched_length]; omega))) ?_;refine RV 2 rfl ?_;refine RZ (.int .i64 ((j - 7 : Nat) : Int)) (by rw [wrap_i64 (by omega) (by omega)]; first | rfl | (congr 1; omega)) ?_;refine RS (ok_index0 _ U155 info46 rfl rfl (rfl) (by omega)) ?_;refine RS (ok_loadV (s := 1000007) (by decide) U46 rfl rfl rfl (table_get (by rw [sched_length]; omega))) ?_;refine RS (ok_add32 rfl rfl) ?_;refine RM rfl ?_;refine RS (ok_call (refrotr_fn _ 7 (by decide) (by decide)) (A2 rfl rfl)) ?_;refine RM rfl ?_;refine RS (ok_call (refrotr_fn _ 18 (by decide) (by decide)) (A2 rfl rfl)) ?_;refine RS (ok_xor32 rfl rfl) ?_;refine RM rfl ?_;refine RS (ok_shr32 3 rfl rfl rfl (by decide)) ?_;refine RS (ok_xor32 rfl rfl) ?_;refine RS (ok_add32 rfl rfl) ?_;refine RM rfl ?_;refine RS (ok_call (refrotr_fn _ 17 (by decide) (by decide)) (A2 rfl rfl)) ?_;refine RM rfl ?_;refine RS (ok_call (refrotr_fn _ 19 (by decide) (by decide)) (A2 rfl rfl)) ?_;refine RS (ok_xor32 rfl rfl) ?_;refine RM rfl ?_;refine RS (ok_shr32 10 rfl rfl rfl (by decide)) ?_;refine RS (ok_xor32 rfl rfl) ?_;refine RS (ok_add32 rfl rfl) ?_;refine RZ (u32V (nextW l (sched l j) j)) (by rw [nextW, if_neg hj16]; rfl) ?_;refine RS (ok_index0 _ U155 info46 rfl rfl (rfl) (by omega)) ?_;refine RN ?_;refine ⟨_, eff_storeS (n := 202) (s := 1000007) info46 rfl rfl rfl hBb7 rfl (by rw [table_length (by rw [sched_length]; omega)]; omega) (LO 1 rfl (LT 1000002 rfl (LT 1000004 rfl (LB 1000005 rfl (LW [2,4,5,7,8] rfl))))), ?_⟩
   refine TL (RN (End.sub (Sv [1,2,4,5,7,8,1000002,1000004,1000005,1000007] rfl) ?_));refine End.normal_block (EN (GTE (RV 2 rfl ?_)));refine RZ (.int .i64 ((j + 1 : Nat) : Int)) (by rw [wrap_i64 (by omega) (by omega)]; first | rfl | (congr 1; omega)) ?_;refine RVN 1 rfl ?_;refine End.normal_then ?_;refine End.again (j + 1) ?_ ?_ ?_
   ·show _ ≤ _; omega
   ·show _ - _ < _ - _; omega
   ·exact (KC 1 rfl (KC 2 rfl (KC 4 rfl (KC 5 rfl (KC 7 rfl (KC 8 rfl (KC 1000002 rfl (KC 1000004 rfl (KC 1000005 rfl (KE 1000007 rfl (by rw [table_set (sched_length l j) hlt]; rfl) KN))))))))))
 ·obtain rfl : j = 64 := by simp at hc31; omega
  refine A.exit (End.exit_then (End.exit_then (End.exit_here (EN (GTD (RS (ok_index0 (0) U156 info46 rfl rfl (rfl) (by decide)) ?_))))));refine RLV 1000002 U46 rfl rfl rfl ?_;refine RS (ok_index0 (1) U156 info46 rfl rfl (rfl) (by decide)) ?_;refine RLV 1000002 U46 rfl rfl rfl ?_;refine RS (ok_index0 (2) U156 info46 rfl rfl (rfl) (by decide)) ?_;refine RLV 1000002 U46 rfl rfl rfl ?_;refine RS (ok_index0 (3) U156 info46 rfl rfl (rfl) (by decide)) ?_;refine RLV 1000002 U46 rfl rfl rfl ?_;refine RS (ok_index0 (4) U156 info46 rfl rfl (rfl) (by decide)) ?_;refine RLV 1000002 U46 rfl rfl rfl ?_;refine RS (ok_index0 (5) U156 info46 rfl rfl (rfl) (by decide)) ?_;refine RLV 1000002 U46 rfl rfl rfl ?_;refine RS (ok_index0 (6) U156 info46 rfl rfl (rfl) (by decide)) ?_;refine RLV 1000002 U46 rfl rfl rfl ?_;refine RS (ok_index0 (7) U156 info46 rfl rfl (rfl) (by decide)) ?_;refine RLV 1000002 U46 rfl rfl rfl ?_;refine RVN 8 rfl ?_;refine A.sub (Sv [2,4,5,7,13,14,15,16,17,18,19,20,1000002,1000004,1000005,1000007] rfl) ?_;refine QS (GV rfl (A.block ?_));refine A.loop (ι := Nat) (fun i => i ≤ 64) (fun i => [(2, .v (.pointer (some ⟨b2,0, none⟩))), (4, .v (.pointer (some ⟨b4,0, none⟩))), (5, .v (.pointer (some ⟨b5,0, none⟩))), (7, .v (.pointer (some ⟨b7,0, none⟩))), (13, .v (u32V (rounds h K64 (sched l 64) i).a)), (14, .v (u32V (rounds h K64 (sched l 64) i).b)), (15, .v (u32V (rounds h K64 (sched l 64) i).c)), (16, .v (u32V (rounds h K64 (sched l 64) i).d)), (17, .v (u32V (rounds h K64 (sched l 64) i).e)), (18, .v (u32V (rounds h K64 (sched l 64) i).f)), (19, .v (u32V (rounds h K64 (sched l 64) i).g)), (20, .v (u32V (rounds h K64 (sched l 64) i).h)), (21, .v (.int .i64 ((i : Nat) : Int))), (1000002, blk b2 156 (h.list.map u32V)), (1000004, blk b4 156 (List.replicate 8 (.int .u32 0))), (1000005, blk b5 155 (K64.map u32V)), (1000007, blk b7 155 (table (sched l 64) 64))]) (fun i => 64 - i) 0 ?_ ?_ ?_
  ·exact Nat.zero_le _
  ·exact (Sv [2,4,5,7,13,14,15,16,17,18,19,20,21,1000002,1000004,1000005,1000007] rfl)
  intro i hi
  refine QS (GV rfl ?_);refine A.cond rfl (fun hc105 => ?_) (fun hc105 => ?_)
  ·have hlt : i < 64 := by simp at hc105; omega
   refine QK (QSB (GT (RV 2 rfl ?_)));refine RS (ok_and32 rfl rfl) ?_;refine RM rfl ?_;refine RS (ok_not32 rfl) ?_;refine RM rfl ?_;refine RS (ok_and32 rfl rfl) ?_;refine RS (ok_or32 rfl rfl) ?_;refine RZ (u32V (choice (rounds h K64 (sched l 64) i).e (rounds h K64 (sched l 64) i).f (rounds h K64 (sched l 64) i).g)) (by rw [choice_or]) ?_;refine RVN 1 rfl ?_;refine GT (RV 2 rfl ?_);refine RS (ok_and32 rfl rfl) ?_;refine RV 2 rfl ?_;refine RS (ok_and32 rfl rfl) ?_;refine RS (ok_or32 rfl rfl) ?_;refine RV 2 rfl ?_;refine RS (ok_and32 rfl rfl) ?_;refine RS (ok_or32 rfl rfl) ?_;refine RZ (u32V (most (rounds h K64 (sched l 64) i).a (rounds h K64 (sched l 64) i).b (rounds h K64 (sched l 64) i).c)) (by rw [most_or]) ?_;refine RVN 1 rfl ?_;refine GTD (RV 2 rfl ?_);refine RS (ok_call (refrotr_fn _ 6 (by decide) (by decide)) (A2 rfl rfl)) ?_;refine RM rfl ?_;refine RS (ok_call (refrotr_fn _ 11 (by decide) (by decide)) (A2 rfl rfl)) ?_;refine RS (ok_xor32 rfl rfl) ?_;refine RM rfl ?_;refine RS (ok_call (refrotr_fn _ 25 (by decide) (by decide)) (A2 rfl rfl)) ?_;refine RS (ok_xor32 rfl rfl) ?_;refine RS (ok_add32 rfl rfl) ?_;refine RM rfl ?_;refine RS (ok_add32 rfl rfl) ?_;refine RM rfl ?_;refine RS (ok_index0 _ U155 info46 rfl rfl (rfl) (by omega)) ?_;refine RS (ok_loadV (s := 1000005) (by decide) U46 rfl rfl rfl (map_get32 (by rw [K64_lit]; omega))) ?_;refine RS (ok_add32 rfl rfl) ?_;refine RM rfl ?_;refine RS (ok_index0 _ U155 info46 rfl rfl (rfl) (by omega)) ?_;refine RS (ok_loadV (s := 1000007) (by decide) U46 rfl rfl rfl (table_get (by rw [sched_length]; omega))) ?_;refine RS (ok_add32 rfl rfl) ?_;refine RVN 1 rfl ?_;refine A.sub (Sv [2,4,5,7,13,14,15,16,17,18,19,21,23,24,1000002,1000004,1000005,1000007] rfl) ?_;refine GT (RM rfl ?_);refine RS (ok_call (refrotr_fn _ 2 (by decide) (by decide)) (A2 rfl rfl)) ?_;refine RM rfl ?_;refine RS (ok_call (refrotr_fn _ 13 (by decide) (by decide)) (A2 rfl rfl)) ?_;refine RS (ok_xor32 rfl rfl) ?_;refine RM rfl ?_;refine RS (ok_call (refrotr_fn _ 22 (by decide) (by decide)) (A2 rfl rfl)) ?_;refine RS (ok_xor32 rfl rfl) ?_;refine RM rfl ?_;refine RS (ok_add32 rfl rfl) ?_;refine RVN 1 rfl ?_;refine GTE (RV 5 rfl ?_);refine RS (ok_add32 rfl rfl) ?_;refine RV 5 rfl ?_;refine RS (ok_add32 rfl rfl) ?_;refine RVN 8 rfl ?_;refine End.sub (Sv [2,4,5,7,13,14,15,16,17,18,19,20,21,1000002,1000004,1000005,1000007] rfl) ?_;refine End.normal_block (EN (GTE (RV 2 rfl ?_)));refine RZ (.int .i64 ((i + 1 : Nat) : Int)) (by rw [wrap_i64 (by omega) (by omega)]; first | rfl | (congr 1; omega)) ?_;refine RVN 1 rfl ?_;refine End.normal_then ?_;refine End.again (i + 1) ?_ ?_ ?_
   ·show _ ≤ _; omega
   ·show _ - _ < _ - _; omega
   ·exact (Sv [2,4,5,7,13,14,15,16,17,18,19,20,21,1000002,1000004,1000005,1000007] rfl)
  ·obtain rfl : i = 64 := by simp at hc105; omega
   refine A.exit (End.exit_then (End.exit_then (End.exit_here (EN (GS (TF 33 (RS (ok_index0 (0) U156 info46 rfl rfl (rfl) (by decide)) ?_)))))));refine RLV 1000002 U46 rfl rfl rfl ?_;refine RM rfl ?_;refine RS (ok_add32 rfl rfl) ?_;refine RS (ok_index0 (1) U156 info46 rfl rfl (rfl) (by decide)) ?_;refine RLV 1000002 U46 rfl rfl rfl ?_;refine RM rfl ?_;refine RS (ok_add32 rfl rfl) ?_;refine RS (ok_index0 (2) U156 info46 rfl rfl (rfl) (by decide)) ?_;refine RLV 1000002 U46 rfl rfl rfl ?_;refine RM rfl ?_;refine RS (ok_add32 rfl rfl) ?_;refine RS (ok_index0 (3) U156 info46 rfl rfl (rfl) (by decide)) ?_;refine RLV 1000002 U46 rfl rfl rfl ?_;refine RM rfl ?_;refine RS (ok_add32 rfl rfl) ?_;refine RS (ok_index0 (4) U156 info46 rfl rfl (rfl) (by decide)) ?_;refine RLV 1000002 U46 rfl rfl rfl ?_;refine RM rfl ?_;refine RS (ok_add32 rfl rfl) ?_;refine RS (ok_index0 (5) U156 info46 rfl rfl (rfl) (by decide)) ?_;refine RLV 1000002 U46 rfl rfl rfl ?_;refine RM rfl ?_;refine RS (ok_add32 rfl rfl) ?_;refine RS (ok_index0 (6) U156 info46 rfl rfl (rfl) (by decide)) ?_;refine RLV 1000002 U46 rfl rfl rfl ?_;refine RM rfl ?_;refine RS (ok_add32 rfl rfl) ?_;refine RS (ok_index0 (7) U156 info46 rfl rfl (rfl) (by decide)) ?_;refine RLV 1000002 U46 rfl rfl rfl ?_;refine RM rfl ?_;refine RS (ok_add32 rfl rfl) ?_;refine RS (ok_litA [_, _, _, _, _, _, _, _] U156 info46 zero156 rfl ⟨rfl, rfl, rfl, rfl, rfl, rfl, rfl, rfl, rfl, rfl, rfl, rfl, rfl, rfl, rfl, rfl, trivial⟩ rfl) ?_;refine RZ (aggV ((compress h l).list.map u32V)) (by rw [compress, R8.add_list]) ?_;refine RN ?_;refine ⟨_, eff_storeA (n := 202) (s := 1000004) (size156.of (R8.size _)) rfl rfl (all_u32 _) hBb4 rfl ((R8.size _).symm) (LV 4 rfl (LB 1000002 rfl (LT 1000005 rfl (LT 1000007 rfl LN)))), ?_⟩
   refine TL (RN (A.sub (Sv [4,1000002,1000004,1000005,1000007] rfl) ?_));refine A.ret ?_;exact End.cell1 (s := 1000004) rfl U156 rfl (size156.of (R8.size _)) rfl rfl (Le.refl _)
end
section
set_option maxHeartbeats 400000 in
theorem refSum_fn (l : List UInt8) (hl : l.length ≤ 1000000) : Fn Tryz.prog 56 [byt l] (.v (aggV ((sha l).map byteV))) := by
 have hpl := padded_length l
 have hpm := padded_mod l
 refine Fn.of Tryz.func56 rfl (by kernel_rfl) Tryz.ntmps56 (by simp) (fun w => [(0, old w.heap.size (byt l))]) (fun w => (Start.old rfl Start.nil)) fun w₀ => ?_
 refine GS (TN 0 (RN ?_));refine ZN 1000002 zero40 fun b2 ⟨hBb2, hb2⟩ => ?_
 refine TL (RN (GS (TF 2 (RS (ok_build0own U23 info5) ?_))));refine RVN 1 rfl ?_;refine ⟨_, eff_appendS (vs := l.map byteV) U23 info5 (by decide) rfl rfl rfl ((Le.old _ _).trans (Le.eq (byt_vals l))) (by simp [byteV, Value.oneCell']) (by simp; omega) (by decide) (fun g hg => (LO 0 rfl (LV 2 rfl (LT 1000002 rfl LN)))), ?_⟩
 refine TF 4 (RS (ok_build [byteD 128] U23 info5 rfl (by decide) (by decide) rfl ⟨rfl, rfl, trivial⟩ (fun d hd w x h => by simp only [List.mem_cons, List.not_mem_nil, or_false] at hd; rcases hd with rfl; exact v_one rfl h)) ?_);refine RN ?_;refine ⟨_, eff_appendS (vs := [byteV 128]) U23 info5 (by decide) rfl rfl rfl (le_lst _ _) (by simp [byteV, Value.oneCell']) (by simp; omega) (by decide) (fun g hg => (LO 0 rfl (LV 2 rfl (LT 1000002 rfl LN)))), ?_⟩
 refine TL (RVN 1 rfl ?_);refine QSB ?_;refine A.loop (ι := Nat) (fun z => z ≤ ((119 - l.length % 64) % 64)) (fun z => [(0, old w₀.heap.size (byt l)), (2, .v (.pointer (some ⟨b2,0, none⟩))), (3, own w₀.heap.size 5 (l.length + 1 + z) ((l ++ 128 :: List.replicate z 0).map byteV)), (1000002, blk b2 40 (List.replicate 32 (.int .u8 0)))]) (fun z => ((119 - l.length % 64) % 64) - z) 0 ?_ ?_ ?_
 ·exact Nat.zero_le _
 ·exact (KC 0 rfl (KC 2 rfl (KE 3 rfl (by simp) (KC 1000002 rfl KN))))
 intro z hz
 refine QS (GT (RM rfl ?_));refine RS (ok_lenB U23 rfl (own_byt (by simp; omega))) ?_;refine RZ (.int .i64 ((l.length + 1 + z : Nat) : Int)) (by congr 2; simp; omega) ?_;refine RS (ok_rem rfl rfl (by decide)) ?_;refine RZ (.int .i64 (((l.length + 1 + z) % 64 : Nat) : Int)) (by rw [tmod_lit _ (by decide)]; rfl) ?_;refine RVN 1 rfl ?_;refine A.cond rfl (fun hc19 => ?_) (fun hc19 => ?_)
 ·have hzl : z < ((119 - l.length % 64) % 64) := by simp at hc19; omega
  refine QK (A.block (GE (TF 2 (RM rfl ?_))));refine RS (ok_build [byteD 0] U23 info5 rfl (by decide) (by decide) rfl ⟨rfl, rfl, trivial⟩ (fun d hd w x h => by simp only [List.mem_cons, List.not_mem_nil, or_false] at hd; rcases hd with rfl; exact v_one rfl h)) ?_;refine RN ?_;refine ⟨_, eff_appendS (vs := [byteV 0]) U23 info5 (by decide) rfl rfl rfl (le_lst _ _) (by simp [byteV, Value.oneCell']) (by simp; omega) (by decide) (fun g hg => (LO 0 rfl (LV 2 rfl (LT 1000002 rfl LN)))), ?_⟩
  refine TL (RVN 1 rfl ?_);refine End.normal_block (End.normal_then ?_);refine End.again (z + 1) ?_ ?_ ?_
  ·show _ ≤ _; omega
  ·show _ - _ < _ - _; omega
  ·exact (KC 0 rfl (KC 2 rfl (KE 3 rfl (by rw [List.replicate_succ']; simp [Nat.add_assoc]) (KC 1000002 rfl KN))))
 ·obtain rfl : z = ((119 - l.length % 64) % 64) := by simp at hc19; omega
  refine A.exit (End.exit_then (End.exit_then (End.exit_here (EN (GS (TF 6 (RV 2 rfl ?_)))))));refine RS (ok_lenB U23 rfl (Le.old _ _)) ?_;refine RS (ok_conv U3 U47 rfl) ?_;refine RZ (.int .u64 ((l.length : Nat) : Int)) (by rw [wrapN_u64 (by omega)]) ?_;refine RB rfl rfl rfl ?_;refine RZ (.int .u64 ((8 * l.length : Nat) : Int)) (by rw [wrap_u64 (by omega) (by omega)]; congr 1) ?_;refine RS (ok_call (refPut64_fn ((8 * l.length : Nat) : Int) (by omega) (by omega)) (A1 rfl)) ?_;refine RN ?_;refine ⟨_, eff_appendS (vs := (be 8 (8 * l.length)).map byteV) U23 info5 (by decide) rfl rfl rfl ((le_byt _ _).trans (Le.eq (byt_vals _))) (by simp [byteV, Value.oneCell']) (by simp [be_length]; omega) (by decide) (fun g hg => (LV 2 rfl (LT 1000002 rfl LN))), ?_⟩
  refine TL (RVN 1 rfl ?_);refine GS (TN 4 (RS (ok_call refConstants_fn Args.nil) ?_));refine RM rfl ?_;refine RS (ok_extract rfl rfl) ?_;refine RS (ok_extract rfl rfl) ?_;refine RN ?_;refine ZN 1000004 zero155 fun b4 ⟨hBb4, hb4⟩ => ?_
  refine TN 5 (RN ?_);refine ZN 1000005 zero156 fun b5 ⟨hBb5, hb5⟩ => ?_
  refine TF 6 (RN ?_);refine ZA 1000004 (size155.of rfl) hBb4 rfl rfl rfl (LeftS.cons (t := 3) rfl (Surv.own (by decide)) (LT 1000002 rfl (LT 1000005 rfl (LW [2,5,33] rfl)))) ?_;refine TF 7 (RN ?_);refine ⟨_, eff_storeA (n := 69) (s := 1000005) (size156.of (R8.size _)) rfl rfl (all_u32 _) hBb5 rfl (by first | exact (R8.size _).trans (R8.size _).symm | rfl) (LeftS.cons (t := 3) rfl (Surv.own (by decide)) (LT 1000002 rfl (LT 1000004 rfl (LW [2,5] rfl)))), ?_⟩
  refine TL (RN (QS (GV rfl (A.block ?_))));refine A.loop (ι := Nat) (fun k => k ≤ ((padded l).length / 64)) (fun k => [(2, .v (.pointer (some ⟨b2,0, none⟩))), (3, own w₀.heap.size 5 ((padded l).length) ((padded l).map byteV)), (5, .v (.pointer (some ⟨b5,0, none⟩))), (6, .v (.int .i64 ((64 * k : Nat) : Int))), (1000002, blk b2 40 (List.replicate 32 (.int .u8 0))), (1000005, blk b5 156 ((chain H8 (padded l) k).list.map u32V))]) (fun k => ((padded l).length / 64) - k) 0 ?_ ?_ ?_
  ·exact Nat.zero_le _
  ·exact (KC 2 rfl (KE 3 rfl (by rw [hpl]; simp [padded, be_length, Nat.add_assoc]) (KC 5 rfl (KC 6 rfl (KC 1000002 rfl (KC 1000005 rfl KN))))))
  intro k hk
  refine QS (GT (RV 2 rfl ?_));refine RS (ok_lenB U23 rfl (own_byt rfl)) ?_;refine RVN 1 rfl ?_;refine A.cond rfl (fun hc37 => ?_) (fun hc37 => ?_)
  ·have hlt : 64 * k < (padded l).length := by simp at hc37; omega
   have hk1 : k < ((padded l).length / 64) := by omega
   refine QK (QSB (A.reg (by kernel_rfl) (by kernel_rfl) (.inr (by kernel_rfl)) ?_));refine TD 7 ?_;refine RL 1000005 U156 rfl rfl (size156.of (R8.size _)) ?_;refine RV 4 rfl ?_;refine RZ (.int .i64 ((64 * k + 64 : Nat) : Int)) (by rw [wrap_i64 (by omega) (by omega)]; first | rfl | (congr 1; omega)) ?_;refine RS (ok_slice (64 * k) (64 * k + 64) U23 info5 rfl (own_byt rfl) (.inl ⟨_, _, rfl, rfl⟩) (.inl ⟨_, _, rfl, rfl⟩) (by omega) (by simp; omega)) ?_;refine RS (ok_call (refCompress_fn (chain H8 (padded l) k) (((padded l).drop (64 * k)).take 64) (by simp; omega)) (Args.cons rfl (Le.refl _) (Args.cons rfl (Le.eq (by simp only [byt, List.map_take, List.map_drop, List.drop_take]; congr 2; omega)) Args.nil))) ?_;refine RZ (aggV ((chain H8 (padded l) (k + 1)).list.map u32V)) (rfl) ?_;refine RN ?_;refine ⟨_, eff_storeA (n := 69) (s := 1000005) (size156.of (R8.size _)) rfl rfl (all_u32 _) hBb5 rfl (by first | exact (R8.size _).trans (R8.size _).symm | rfl) (LeftS.cons (t := 3) rfl (Surv.own (by decide)) (LT 1000002 rfl (LW [2,5,6] rfl))), ?_⟩
   refine TL (RN (End.normal_block (EN (GTE (RV 2 rfl ?_)))));refine RZ (.int .i64 ((64 * (k + 1) : Nat) : Int)) (by rw [wrap_i64 (by omega) (by omega)]; first | rfl | (congr 1; omega)) ?_;refine RVN 1 rfl ?_;refine End.normal_then ?_;refine End.again (k + 1) ?_ ?_ ?_
   ·show _ ≤ _; omega
   ·show _ - _ < _ - _; omega
   ·exact (Sv [2,3,5,6,1000002,1000005] rfl)
  ·obtain rfl : k = ((padded l).length / 64) := by simp at hc37; omega
   refine A.exit (End.exit_then (End.exit_then (End.exit_here (EN (GS (TN 0 (RN ?_)))))));refine ZN 1000007 zero40 fun b7 ⟨hBb7, hb7⟩ => ?_
   have hlt_b2_b7 := hb7 1000002 b2 _ _ rfl
   refine TL (RN (QS (GV rfl (A.block ?_))));refine A.loop (ι := Nat) (fun i => i ≤ 8) (fun i => [(2, .v (.pointer (some ⟨b2,0, none⟩))), (5, .v (.pointer (some ⟨b5,0, none⟩))), (7, .v (.pointer (some ⟨b7,0, none⟩))), (8, .v (.int .i64 ((i : Nat) : Int))), (1000002, blk b2 40 (List.replicate 32 (.int .u8 0))), (1000005, blk b5 156 ((shaR l).list.map u32V)), (1000007, blk b7 40 (tableB ((sha l).take (4 * i)) 32))]) (fun i => 8 - i) 0 ?_ ?_ ?_
   ·exact Nat.zero_le _
   ·exact (KC 2 rfl (KC 5 rfl (KC 7 rfl (KC 8 rfl (KC 1000002 rfl (KC 1000005 rfl (KE 1000007 rfl (by rw [Nat.mul_zero, List.take_zero, ← tableB_nil]) KN)))))))
   intro i hi
   refine QS (GV rfl ?_);refine A.cond rfl (fun hc48 => ?_) (fun hc48 => ?_)
   ·have hi8 : i < 8 := by simp at hc48; omega
    refine QK (QSB (GT (RM rfl ?_)));refine RS (ok_index0 _ U156 info46 rfl rfl (rfl) (by omega)) ?_;refine RS (ok_loadV (s := 1000005) (by decide) U46 rfl rfl rfl (map_get32 (by show i < 8; omega))) ?_;refine RS (ok_callB (refPut32_fnB ((((shaR l).list.getD i 0).toNat : Nat) : Int) (Int.natCast_nonneg _) (by have := u32_lt ((shaR l).list.getD i 0); omega)) (fun _ _ => fresh_mono _ _) (A1 rfl)) ?_;refine RVN 1 rfl ?_;refine GV rfl (A.block ?_);refine A.loop (ι := Nat) (fun k => k ≤ 4) (fun k => [(2, .v (.pointer (some ⟨b2,0, none⟩))), (5, .v (.pointer (some ⟨b5,0, none⟩))), (7, .v (.pointer (some ⟨b7,0, none⟩))), (8, .v (.int .i64 ((i : Nat) : Int))), (9, fresh w₀.heap.size 5 ((be 4 ((shaR l).list.getD i 0).toNat).map byteV) 4), (10, .v (.int .i64 ((k : Nat) : Int))), (1000002, blk b2 40 (List.replicate 32 (.int .u8 0))), (1000005, blk b5 156 ((shaR l).list.map u32V)), (1000007, blk b7 40 (tableB ((sha l).take (4 * i + k)) 32))]) (fun k => 4 - k) 0 ?_ ?_ ?_
    ·exact Nat.zero_le _
    ·exact (Sv [2,5,7,8,9,10,1000002,1000005,1000007] rfl)
    intro k hk
    refine QS (GV rfl ?_);refine A.cond rfl (fun hc56 => ?_) (fun hc56 => ?_)
    ·have hk4 : k < 4 := by simp at hc56; omega
     refine QK (QSB (GE (TF 9 (RV 2 rfl ?_))));refine RZ (.int .i64 ((4 * i : Nat) : Int)) (by rw [wrap_i64 (by omega) (by omega)]; first | rfl | (congr 1; omega)) ?_;refine RV 2 rfl ?_;refine RZ (.int .i64 ((4 * i + k : Nat) : Int)) (by rw [wrap_i64 (by omega) (by omega)]; first | rfl | (congr 1; omega)) ?_;refine RV 2 rfl ?_;refine RS (ok_index (d := byteD ((sha l).getD (4 * i + k) 0)) U23 info5 rfl ((fresh_bytes (l := be 4 ((shaR l).list.getD i 0).toNat) (by rw [be_length]) (by decide)).trans (le_byt _ _)) rfl (by omega) (by rw [Int.toNat_natCast, List.getElem?_map, sha_get l (by omega) (by omega)]; rfl)) ?_;refine RS (ok_load U5 rfl rfl) ?_;refine RS (ok_index0 _ U40 info5 rfl rfl (rfl) (by omega)) ?_;refine RN ?_;refine ⟨_, eff_storeS (n := 69) (s := 1000007) info5 rfl rfl rfl hBb7 rfl (by rw [tableB_length (by simp [sha_length]; omega)]; omega) (LeftS.cons (t := 9) rfl (Surv.fresh (by decide)) (LB 1000002 rfl (LT 1000005 rfl (LW [2,5,7,8,10] rfl)))), ?_⟩
     refine TL (RN (End.normal_block (EN (GTE (RV 2 rfl ?_)))));refine RZ (.int .i64 ((k + 1 : Nat) : Int)) (by rw [wrap_i64 (by omega) (by omega)]; first | rfl | (congr 1; omega)) ?_;refine RVN 1 rfl ?_;refine End.normal_then ?_;refine End.again (k + 1) ?_ ?_ ?_
     ·show _ ≤ _; omega
     ·show _ - _ < _ - _; omega
     ·exact (KC 2 rfl (KC 5 rfl (KC 7 rfl (KC 8 rfl (KC 9 rfl (KC 10 rfl (KC 1000002 rfl (KC 1000005 rfl (KE 1000007 rfl (by rw [tableB_step (sha_length l) (by omega)]; rfl) KN)))))))))
    ·obtain rfl : k = 4 := by simp at hc56; omega
     refine A.exit (End.exit_then (End.exit_then (End.exit_here (End.normal_block (EN (GTE (RV 2 rfl ?_)))))));refine RZ (.int .i64 ((i + 1 : Nat) : Int)) (by rw [wrap_i64 (by omega) (by omega)]; first | rfl | (congr 1; omega)) ?_;refine RVN 1 rfl ?_;refine End.normal_then ?_;refine End.again (i + 1) ?_ ?_ ?_
     ·show _ ≤ _; omega
     ·show _ - _ < _ - _; omega
     ·exact (Sv [2,5,7,8,1000002,1000005,1000007] rfl)
   ·obtain rfl : i = 8 := by simp at hc48; omega
    refine A.exit (End.exit_then (End.exit_then (End.exit_here (EN (GS (TF 1 (RL 1000007 U40 rfl rfl (size40.of (by rw [tableB_length (by simp [sha_length])])) ?_)))))));refine RZ (aggV ((sha l).map byteV)) (by rw [tableB_full (by simp [sha_length]), List.take_of_length_le (by rw [sha_length]; decide)]) ?_;refine RN ?_;refine ⟨_, eff_storeA (n := 69) (s := 1000002) (size40.of (by rw [List.length_map, sha_length])) rfl rfl (all_bytes _) hBb2 rfl (by rw [List.length_map, sha_length, List.length_replicate]) (LV 2 rfl (LT 1000005 rfl (LB 1000007 rfl LN))), ?_⟩
    refine TL (RN (A.ret ?_));exact End.cell1 (s := 1000002) rfl U40 rfl (size40.of (by rw [List.length_map, sha_length])) rfl rfl (Le.refl _)
end
section
theorem rot_amount (n : Int) : ∃ s : Nat, s < 32 ∧ n % 32 = (s : Int) ∧ (n % 18446744073709551616 % 32 = (s : Int)) := ⟨(n % 32).toNat, by omega, by omega, by omega⟩
theorem RotateLeft32_fn (v n : Int) (hv0 : 0 ≤ v) (hv : v < 4294967296) : Fn Tryz.prog 164 [.v (.int .u32 v), .v (.int .i64 n)] (.v (.int .u32 (rotB v.toNat (n % 32).toNat))) := by
 obtain ⟨V, rfl⟩ := Int.eq_ofNat_of_zero_le hv0
 obtain ⟨s, hs, h1, h2⟩ := rot_amount n
 obtain ⟨M, hM⟩ := Int.eq_ofNat_of_zero_le (Int.emod_nonneg n (show (18446744073709551616 : Int) ≠ 0 by decide))
 have hMlt : M < 18446744073709551616 := by omega
 have hMs : M % 32 = s := by omega
 rw [h1]
 simp only [Int.toNat_natCast]
 refine FV Tryz.func164 rfl Tryz.ntmps164 rfl fun w₀ => ?_
 refine GV rfl (GT (RM rfl ?_));refine RS (ok_conv U3 U161 rfl) ?_;refine RZ (.int .u64 (M : Int)) (by rw [wrap_u64_int, hM]) ?_;refine RB rfl rfl rfl ?_;refine RZ (.int .u64 (s : Int)) (by rw [show IntKind.u64.bits = 64 from rfl, show (31 : Int) = ((31 : Nat) : Int) from rfl, and_u64_nat hMlt (by decide), and31, hMs]) ?_;refine RVN 1 rfl ?_;refine GT (RV 2 rfl ?_);refine RS (ok_shl rfl rfl (by omega)) ?_;refine RZ (.int .u32 ((V * 2 ^ s % 4294967296 : Nat) : Int)) (by rw [Int.toNat_natCast, show min s IntKind.u32.bits = s from by simp only [IntKind.bits]; omega, ← wrap_u32_nat]; congr 2) ?_;refine RV 3 rfl ?_;refine RZ (.int .u64 ((32 - s : Nat) : Int)) (by rw [wrap_u64 (by omega) (by omega)]; congr 1; omega) ?_;refine RS (ok_shr rfl rfl (by omega)) ?_;refine RZ (.int .u32 ((V / 2 ^ (32 - s) : Nat) : Int)) (by rw [Int.toNat_natCast, show min (32 - s) IntKind.u32.bits = 32 - s from by simp only [IntKind.bits]; omega, shr_nat]) ?_;refine RB rfl rfl rfl ?_;refine RZ (.int .u32 ((rotB V s : Nat) : Int)) (by rw [show IntKind.u32.bits = 32 from rfl, or_u32_nat (Nat.mod_lt _ (by decide)) (Nat.lt_of_le_of_lt (Nat.div_le_self _ _) (by omega)), rotB_go (by omega) hs]) ?_;refine RVN 1 rfl ?_;refine A.ret ?_;exact ER rfl rfl
theorem Rot_fn (v n : Int) (hv0 : 0 ≤ v) (hv : v < 4294967296) : Fn Tryz.prog 162 [.v (.int .u32 v), .v (.int .i64 n)] (.v (.int .u32 (rotB v.toNat (n % 32).toNat))) := by
 refine FV Tryz.func162 rfl Tryz.ntmps162 rfl fun w₀ => ?_
 refine GV rfl (GT (RV 2 rfl ?_));refine RS (ok_call (RotateLeft32_fn v n hv0 hv) (Args.cons rfl LA (Args.cons rfl LA Args.nil))) ?_;refine RVN 1 rfl ?_;refine A.ret ?_;exact ER rfl rfl
end
section
abbrev tabs : Env := [(1900002, tab 2 (H8.list.map u32V)), (1900003, tab 3 (K64.map u32V))]
theorem tabs_v : ∀ p ∈ tabs, vbase ≤ p.1 := fun p hp => by
 simp only [tabs, List.mem_cons, List.not_mem_nil, or_false] at hp
 rcases hp with rfl | rfl <;> decide
theorem tabs_hi {w : World} (h : ∀ p ∈ tabs, p.2.Of w undef) : 3 < w.heap.size := by
 have := h (1900003, tab 3 (K64.map u32V)) (by simp [tabs])
 exact this.1
theorem size223 : SizeIs Tryz.prog 223 64 := by unfold SizeIs; kernel_rfl
theorem rotr_fn (x : UInt32) (n : Nat) (hn0 : 0 < n) (hn : n < 32) : Fn Tryz.prog 159 [.v (u32V x), .v (.int .i64 (n : Int))] (.v (u32V (rotr32 x n))) := by
 have hx := u32_lt x
 refine FV Tryz.func159 rfl Tryz.ntmps159 rfl fun w₀ => ?_
 refine GV rfl (GT (RV 2 rfl ?_));refine RS (ok_neg rfl) ?_;refine RZ (.int .i64 (-(n : Int))) (by rw [wrap_i64 (by omega) (by omega)]; congr 1; omega) ?_;refine RS (ok_call (Rot_fn (x.toNat : Int) (-(n : Int)) (Int.natCast_nonneg _) (by omega)) (A2 rfl rfl)) ?_;refine RZ (u32V (rotr32 x n)) (by rw [rotr32_val, Int.toNat_natCast, show (-(n : Int) % 32).toNat = 32 - n from by omega]) ?_;refine RVN 1 rfl ?_;refine A.ret ?_;exact ER rfl rfl
set_option maxHeartbeats 400000 in
theorem schedule_fn (l : List UInt8) (hl : l.length = 64) : Fn Tryz.prog 156 [.v (aggV (l.map byteV))] (.v (aggV ((sched l 64).map u32V))) := by
 refine FV Tryz.func156 rfl Tryz.ntmps156 rfl fun w₀ => ?_
 refine GS (TN 0 (RN ?_));refine ZB 1000001 rfl fun b1 ⟨hBb1, hb1⟩ => ?_
 refine TN 1 (RN ?_);refine ZN 1000002 zero155 fun b2 ⟨hBb2, hb2⟩ => ?_
 refine TL (RN (GS (TN 0 (RN ?_))));refine ZN 1000003 zero155 fun b3 ⟨hBb3, hb3⟩ => ?_
 have hlt_b2_b3 := hb3 1000002 b2 _ _ rfl
 refine TL (RN (QS (GV rfl (A.block ?_))));refine A.loop (ι := Nat) (fun j => j ≤ 16) (fun j => [(1, .v (.pointer (some ⟨b1,0, none⟩))), (2, .v (.pointer (some ⟨b2,0, none⟩))), (3, .v (.pointer (some ⟨b3,0, none⟩))), (10, .v (.int .i64 ((j : Nat) : Int))), (1000001, blk b1 223 (l.map byteV)), (1000002, blk b2 155 (List.replicate 64 (.int .u32 0))), (1000003, blk b3 155 (table (sched l j) 64))]) (fun j => 16 - j) 0 ?_ ?_ ?_
 ·exact Nat.zero_le _
 ·exact (KC 1 rfl (KC 2 rfl (KC 3 rfl (KC 10 rfl (KC 1000001 rfl (KC 1000002 rfl (KE 1000003 rfl (rfl) KN)))))))
 intro j hj
 refine GV rfl (QS ?_);refine A.cond rfl (fun hc11 => ?_) (fun hc11 => ?_)
 ·have hlt : j < 16 := by simp at hc11; omega
  refine QK (QSB (GV rfl (GE (TF 12 (RV 3 rfl ?_)))));refine RZ (.int .i64 ((4 * j : Nat) : Int)) (by rw [wrap_i64 (by omega) (by omega)]; first | rfl | (congr 1; omega)) ?_;refine RV 2 rfl ?_;refine RZ (.int .i64 ((j + 1 : Nat) : Int)) (by rw [wrap_i64 (by omega) (by omega)]; first | rfl | (congr 1; omega)) ?_;refine RB rfl rfl rfl ?_;refine RZ (.int .i64 ((4 * j + 4 : Nat) : Int)) (by rw [wrap_i64 (by omega) (by omega)]; first | rfl | (congr 1; omega)) ?_;refine RS (ok_sliceA (s := 1000001) (4 * j) (4 * j + 4) (by decide) U223 info5 rfl rfl (.inl ⟨_, _, rfl, rfl⟩) (.inl ⟨_, _, rfl, rfl⟩) (by omega) (by omega) (by rw [List.length_map, hl]) (by decide)) ?_;refine RS (ok_call (Get32_fn ((l.drop (4 * j)).take 4)) (Args.cons rfl (Le.eq (by rw [byt_vals]; congr 2; rw [List.map_take, List.map_drop, List.drop_take, show 4 * j + 4 - 4 * j = 4 from by omega])) Args.nil)) ?_;refine RM rfl ?_;refine RS (ok_extract rfl rfl) ?_;refine RZ (u32V (nextW l (sched l j) j)) (by rw [nextW, if_pos hlt, word, u32V_ofNat, getV, if_pos (by simp; omega), Nat.mod_eq_of_lt (word_lt l j)]) ?_;refine RS (ok_extract rfl rfl) ?_;refine RS (ok_index0 _ U155 info46 rfl rfl (rfl) (by omega)) ?_;refine RN ?_;refine ⟨_, eff_storeS (n := 70) (s := 1000003) info46 rfl rfl rfl hBb3 rfl (by rw [table_length (by rw [sched_length]; omega)]; omega) (LT 1000001 rfl (LB 1000002 rfl (LW [1,2,3,10] rfl))), ?_⟩
  refine TL (RN (End.normal_block (EN (GTE (RB rfl rfl rfl ?_)))));refine RZ (.int .i64 ((j + 1 : Nat) : Int)) (by rw [wrap_i64 (by omega) (by omega)]; first | rfl | (congr 1; omega)) ?_;refine RVN 1 rfl ?_;refine End.normal_then ?_;refine End.again (j + 1) ?_ ?_ ?_
  ·show _ ≤ _; omega
  ·show _ - _ < _ - _; omega
  ·exact (KC 1 rfl (KC 2 rfl (KC 3 rfl (KC 10 rfl (KC 1000001 rfl (KC 1000002 rfl (KE 1000003 rfl (by rw [table_set (sched_length l j) (by omega)]; rfl) KN)))))))
 ·obtain rfl : j = 16 := by simp at hc11; omega
  refine A.exit (End.exit_then (End.exit_then (End.exit_here (EN (QS (GV rfl (A.block ?_)))))));refine A.loop (ι := Nat) (fun j => 16 ≤ j ∧ j ≤ 64) (fun j => [(2, .v (.pointer (some ⟨b2,0, none⟩))), (3, .v (.pointer (some ⟨b3,0, none⟩))), (5, .v (.int .i64 ((j : Nat) : Int))), (1000002, blk b2 155 (List.replicate 64 (.int .u32 0))), (1000003, blk b3 155 (table (sched l j) 64))]) (fun j => 64 - j) 16 ?_ ?_ ?_
  ·exact ⟨Nat.le_refl _, by decide⟩
  ·exact (Sv [2,3,5,1000002,1000003] rfl)
  intro j hj
  refine QS (GV rfl ?_);refine A.cond rfl (fun hc27 => ?_) (fun hc27 => ?_)
  ·have hlt : j < 64 := by simp at hc27; omega
   refine QK (QSB (GTD (RV 2 rfl ?_)));refine RZ (.int .i64 ((j - 15 : Nat) : Int)) (by rw [wrap_i64 (by omega) (by omega)]; first | rfl | (congr 1; omega)) ?_;refine RS (ok_index0 _ U155 info46 rfl rfl (rfl) (by omega)) ?_;refine RS (ok_loadV (s := 1000003) (by decide) U46 rfl rfl rfl (table_get (by rw [sched_length]; omega))) ?_;refine RV 2 rfl ?_;refine RZ (.int .i64 ((j - 2 : Nat) : Int)) (by rw [wrap_i64 (by omega) (by omega)]; first | rfl | (congr 1; omega)) ?_;refine RS (ok_index0 _ U155 info46 rfl rfl (rfl) (by omega)) ?_;refine RS (ok_loadV (s := 1000003) (by decide) U46 rfl rfl rfl (table_get (by rw [sched_length]; omega))) ?_;refine RVN 2 rfl ?_;refine GT (RM rfl ?_);refine RS (ok_call (rotr_fn _ 7 (by decide) (by decide)) (A2 rfl rfl)) ?_;refine RM rfl ?_;refine RS (ok_call (rotr_fn _ 18 (by decide) (by decide)) (A2 rfl rfl)) ?_;refine RS (ok_xor32 rfl rfl) ?_;refine RM rfl ?_;refine RS (ok_shr32 3 rfl rfl rfl (by decide)) ?_;refine RS (ok_xor32 rfl rfl) ?_;refine RVN 1 rfl ?_;refine GT (RM rfl ?_);refine RS (ok_call (rotr_fn _ 17 (by decide) (by decide)) (A2 rfl rfl)) ?_;refine RM rfl ?_;refine RS (ok_call (rotr_fn _ 19 (by decide) (by decide)) (A2 rfl rfl)) ?_;refine RS (ok_xor32 rfl rfl) ?_;refine RM rfl ?_;refine RS (ok_shr32 10 rfl rfl rfl (by decide)) ?_;refine RS (ok_xor32 rfl rfl) ?_;refine RVN 1 rfl ?_;refine A.sub (Sv [2,3,5,8,9,1000002,1000003] rfl) ?_;refine A.reg (by kernel_rfl) (by kernel_rfl) (.inr (by kernel_rfl)) ?_;refine TD 15 ?_;refine RV 4 rfl ?_;refine RZ (.int .i64 ((j - 7 : Nat) : Int)) (by rw [wrap_i64 (by omega) (by omega)]; first | rfl | (congr 1; omega)) ?_;refine RS (ok_index0 _ U155 info46 rfl rfl (rfl) (by omega)) ?_;refine RS (ok_loadV (s := 1000003) (by decide) U46 rfl rfl rfl (table_get (by rw [sched_length]; omega))) ?_;refine RS (ok_add32 rfl rfl) ?_;refine RM rfl ?_;refine RS (ok_add32 rfl rfl) ?_;refine RV 2 rfl ?_;refine RZ (.int .i64 ((j - 16 : Nat) : Int)) (by rw [wrap_i64 (by omega) (by omega)]; first | rfl | (congr 1; omega)) ?_;refine RS (ok_index0 _ U155 info46 rfl rfl (rfl) (by omega)) ?_;refine RS (ok_loadV (s := 1000003) (by decide) U46 rfl rfl rfl (table_get (by rw [sched_length]; omega))) ?_;refine RS (ok_add32 rfl rfl) ?_;refine RZ (u32V (nextW l (sched l j) j)) (by rw [nextW, if_neg (by omega), sha0, sha1]; congr 1; ac_rfl) ?_;refine RS (ok_index0 _ U155 info46 rfl rfl (rfl) (by omega)) ?_;refine RN ?_;refine ⟨_, eff_storeS (n := 70) (s := 1000003) info46 rfl rfl rfl hBb3 rfl (by rw [table_length (by rw [sched_length]; omega)]; omega) (LB 1000002 rfl (LW [2,3,5] rfl)), ?_⟩
   refine TL (RN (End.normal_block (EN (GTE (RV 2 rfl ?_)))));refine RZ (.int .i64 ((j + 1 : Nat) : Int)) (by rw [wrap_i64 (by omega) (by omega)]; first | rfl | (congr 1; omega)) ?_;refine RVN 1 rfl ?_;refine End.normal_then ?_;refine End.again (j + 1) ?_ ?_ ?_
   ·show _ ∧ _; omega
   ·show _ - _ < _ - _; omega
   ·exact (KC 2 rfl (KC 3 rfl (KC 5 rfl (KC 1000002 rfl (KE 1000003 rfl (by rw [table_set (sched_length l j) hlt]; rfl) KN)))))
  ·obtain rfl : j = 64 := by simp at hc27; omega
   refine A.exit (End.exit_then (End.exit_then (End.exit_here (EN (GS (TF 1 (RL 1000003 U155 rfl rfl (size155.of (by rw [table_length (by rw [sched_length]; exact Nat.le_refl _)])) ?_)))))));refine RZ (aggV ((sched l 64).map u32V)) (by rw [table_full (sched_length l 64)]) ?_;refine RN ?_;refine ⟨_, eff_storeA (n := 70) (s := 1000002) (size155.of (by rw [List.length_map, sched_length])) rfl rfl (all_u32 _) hBb2 rfl (by rw [List.length_map, sched_length, List.length_replicate]) (LV 2 rfl (LB 1000003 rfl LN)), ?_⟩
   refine TL (RN (A.ret ?_));exact End.cell1 (s := 1000002) rfl U155 rfl (size155.of (by rw [List.length_map, sched_length])) rfl rfl (Le.refl _)
set_option maxHeartbeats 400000 in
theorem rounds_fn (h : R8) (ws : List UInt32) (hw : ws.length = 64) : FnM Tryz.prog 155 tabs [.v (aggV (h.list.map u32V)), .v (aggV (ws.map u32V))] (.v (aggV ((rounds h K64 ws 64).list.map u32V))) := by
 refine FnM.of Tryz.func155 rfl (by kernel_rfl) Tryz.ntmps155 (by simp) (by decide) (fun w => [(0, .v (aggV (h.list.map u32V))), (1, .v (aggV (ws.map u32V))), (1900002, tab 2 (H8.list.map u32V)), (1900003, tab 3 (K64.map u32V))]) (fun w => (StartM.v rfl (StartM.v rfl (StartM.m (by simp [tabs]) (by decide) (StartM.m (by simp [tabs]) (by decide) StartM.nil))))) fun w₀ hM => ?_
 have htab := tabs_hi hM
 refine GS (TN 0 (RN ?_));refine ZB 1000002 rfl fun b2 ⟨hBb2, hb2⟩ => ?_
 refine TN 1 (RN ?_);refine ZB 1000003 rfl fun b3 ⟨hBb3, hb3⟩ => ?_
 refine TN 2 (RN ?_);refine ZN 1000004 zero156 fun b4 ⟨hBb4, hb4⟩ => ?_
 have hlt_b2_b4 := hb4 1000002 b2 _ _ rfl
 refine TL (RN (GTD (RS (ok_index0 (0) U156 info46 rfl rfl (rfl) (by decide)) ?_)));refine RLV 1000002 U46 rfl rfl rfl ?_;refine RS (ok_index0 (1) U156 info46 rfl rfl (rfl) (by decide)) ?_;refine RLV 1000002 U46 rfl rfl rfl ?_;refine RS (ok_index0 (2) U156 info46 rfl rfl (rfl) (by decide)) ?_;refine RLV 1000002 U46 rfl rfl rfl ?_;refine RS (ok_index0 (3) U156 info46 rfl rfl (rfl) (by decide)) ?_;refine RLV 1000002 U46 rfl rfl rfl ?_;refine RS (ok_index0 (4) U156 info46 rfl rfl (rfl) (by decide)) ?_;refine RLV 1000002 U46 rfl rfl rfl ?_;refine RS (ok_index0 (5) U156 info46 rfl rfl (rfl) (by decide)) ?_;refine RLV 1000002 U46 rfl rfl rfl ?_;refine RS (ok_index0 (6) U156 info46 rfl rfl (rfl) (by decide)) ?_;refine RLV 1000002 U46 rfl rfl rfl ?_;refine RS (ok_index0 (7) U156 info46 rfl rfl (rfl) (by decide)) ?_;refine RLV 1000002 U46 rfl rfl rfl ?_;refine RVN 8 rfl ?_;refine A.sub (Sv [3,4,5,6,7,8,9,10,11,12,1000002,1000003,1000004,1900002,1900003] rfl) ?_;refine QS (GT (RS (ok_loadT (s := 1900003) (by decide) U155 rfl (size155.of (by rw [List.length_map, K64_lit])) rfl rfl) ?_));refine RVN 1 rfl ?_;refine A.block ?_;refine A.loop (ι := Nat) (fun i => i ≤ 64) (fun i => [(3, .v (.pointer (some ⟨b3,0, none⟩))), (4, .v (.pointer (some ⟨b4,0, none⟩))), (5, .v (u32V (rounds h K64 ws i).a)), (6, .v (u32V (rounds h K64 ws i).b)), (7, .v (u32V (rounds h K64 ws i).c)), (8, .v (u32V (rounds h K64 ws i).d)), (9, .v (u32V (rounds h K64 ws i).e)), (10, .v (u32V (rounds h K64 ws i).f)), (11, .v (u32V (rounds h K64 ws i).g)), (12, .v (u32V (rounds h K64 ws i).h)), (33, .v (aggV (K64.map u32V))), (34, .v (.int .i64 ((i : Nat) : Int))), (1000003, blk b3 155 (ws.map u32V)), (1000004, blk b4 156 (List.replicate 8 (.int .u32 0))), (1900002, tab 2 (H8.list.map u32V)), (1900003, tab 3 (K64.map u32V))]) (fun i => 64 - i) 0 ?_ ?_ ?_
 ·exact Nat.zero_le _
 ·exact (Sv [3,4,5,6,7,8,9,10,11,12,33,34,1000003,1000004,1900002,1900003] rfl)
 intro i hi
 refine GV rfl (QS ?_);refine A.cond rfl (fun hc35 => ?_) (fun hc35 => ?_)
 ·have hlt : i < 64 := by simp at hc35; omega
  refine QK (QSB (GT (RM rfl ?_)));refine RS (ok_indexV1 i U155 U46 rfl info46 rfl rfl rfl hlt (map_get32 (by rw [K64_lit]; omega))) ?_;refine RVN 2 rfl ?_;refine GTD (RV 2 rfl ?_);refine RS (ok_call (rotr_fn _ 6 (by decide) (by decide)) (A2 rfl rfl)) ?_;refine RM rfl ?_;refine RS (ok_call (rotr_fn _ 11 (by decide) (by decide)) (A2 rfl rfl)) ?_;refine RS (ok_xor32 rfl rfl) ?_;refine RM rfl ?_;refine RS (ok_call (rotr_fn _ 25 (by decide) (by decide)) (A2 rfl rfl)) ?_;refine RS (ok_xor32 rfl rfl) ?_;refine RS (ok_add32 rfl rfl) ?_;refine RV 2 rfl ?_;refine RS (ok_and32 rfl rfl) ?_;refine RM rfl ?_;refine RS (ok_not32 rfl) ?_;refine RM rfl ?_;refine RS (ok_and32 rfl rfl) ?_;refine RS (ok_xor32 rfl rfl) ?_;refine RS (ok_add32 rfl rfl) ?_;refine RM rfl ?_;refine RS (ok_add32 rfl rfl) ?_;refine RM rfl ?_;refine RS (ok_index0 _ U155 info46 rfl rfl (rfl) (by omega)) ?_;refine RS (ok_loadV (s := 1000003) (by decide) U46 rfl rfl rfl (map_get32 (by omega))) ?_;refine RS (ok_add32 rfl rfl) ?_;refine RVN 1 rfl ?_;refine A.sub (Sv [3,4,5,6,7,8,9,10,11,15,33,34,1000003,1000004,1900002,1900003] rfl) ?_;refine GT (RM rfl ?_);refine RS (ok_call (rotr_fn _ 2 (by decide) (by decide)) (A2 rfl rfl)) ?_;refine RM rfl ?_;refine RS (ok_call (rotr_fn _ 13 (by decide) (by decide)) (A2 rfl rfl)) ?_;refine RS (ok_xor32 rfl rfl) ?_;refine RM rfl ?_;refine RS (ok_call (rotr_fn _ 22 (by decide) (by decide)) (A2 rfl rfl)) ?_;refine RS (ok_xor32 rfl rfl) ?_;refine RV 2 rfl ?_;refine RS (ok_and32 rfl rfl) ?_;refine RV 2 rfl ?_;refine RS (ok_and32 rfl rfl) ?_;refine RS (ok_xor32 rfl rfl) ?_;refine RV 2 rfl ?_;refine RS (ok_and32 rfl rfl) ?_;refine RS (ok_xor32 rfl rfl) ?_;refine RS (ok_add32 rfl rfl) ?_;refine RVN 1 rfl ?_;refine GTE (RV 5 rfl ?_);refine RS (ok_add32 rfl rfl) ?_;refine RV 5 rfl ?_;refine RS (ok_add32 rfl rfl) ?_;refine RVN 8 rfl ?_;refine End.sub (Sv [3,4,5,6,7,8,9,10,11,12,33,34,1000003,1000004,1900002,1900003] rfl) ?_;refine End.normal_block (EN (GTE (RB rfl rfl rfl ?_)));refine RZ (.int .i64 ((i + 1 : Nat) : Int)) (by rw [wrap_i64 (by omega) (by omega)]; first | rfl | (congr 1; omega)) ?_;refine RVN 1 rfl ?_;refine End.normal_then ?_;refine End.again (i + 1) ?_ ?_ ?_
  ·show _ ≤ _; omega
  ·show _ - _ < _ - _; omega
  ·exact (Sv [3,4,5,6,7,8,9,10,11,12,33,34,1000003,1000004,1900002,1900003] rfl)
 ·obtain rfl : i = 64 := by simp at hc35; omega
  refine A.exit (End.exit_then (End.exit_then (End.exit_here (EN (GS (TF 9 (RV 8 rfl ?_)))))));refine RS (ok_litA [_, _, _, _, _, _, _, _] U156 info46 zero156 rfl ⟨rfl, rfl, rfl, rfl, rfl, rfl, rfl, rfl, rfl, rfl, rfl, rfl, rfl, rfl, rfl, rfl, trivial⟩ rfl) ?_;refine RZ (aggV ((rounds h K64 ws 64).list.map u32V)) (rfl) ?_;refine RN ?_;refine ⟨_, eff_storeA (n := 105) (s := 1000004) (size156.of (R8.size _)) rfl rfl (all_u32 _) hBb4 rfl ((R8.size _).symm) (LV 4 rfl (LT 1000003 rfl (LQ 1900002 rfl (LQ 1900003 rfl LN)))), ?_⟩
  refine TL (RN (A.ret ?_));exact End.cell1 (s := 1000004) rfl U156 rfl (size156.of (R8.size _)) rfl rfl (Le.refl _)
end
def restAt (l : List UInt8) (i : Nat) : UInt8 := if (l.length + 63 - i) / 64 = 0 then 0 else l.getD (64 * ((l.length + 63 - i) / 64 - 1) + i) 0
def restL (l : List UInt8) : List UInt8 := (List.range 64).map (restAt l)
def fullR (l : List UInt8) : R8 := if l.length < 64 then ⟨0,0,0,0,0,0,0,0⟩ else chain H8 l (l.length / 64)
def stM (f : R8) (r : List UInt8) (n : Nat) : List Value := f.list.map u32V ++ (r.map byteV ++ [.int .u64 (n : Int)])
def stL (l : List UInt8) : List Value := stM (fullR l) (restL l) l.length
def stV (l : List UInt8) : Value := aggV (stL l)
theorem restL_length (l : List UInt8) : (restL l).length = 64 := by simp [restL]
theorem restL_get (l : List UInt8) {i : Nat} (h : i < 64) : (restL l)[i]? = some (restAt l i) := by simp [restL, h]
theorem stM_length {f : R8} {r : List UInt8} {n : Nat} (hr : r.length = 64) : (stM f r n).length = 73 := by simp [stM, hr, R8.list]
theorem stM_full (f : R8) (r : List UInt8) (n : Nat) : ((stM f r n).drop 0).take 8 = f.list.map u32V := by
 rw [List.drop_zero, stM, List.take_left' (by simp [R8.list])]
theorem stM_rest {f : R8} {r : List UInt8} {n : Nat} (hr : r.length = 64) : ((stM f r n).drop 8).take 64 = r.map byteV := by
 rw [stM, List.drop_left' (by simp [R8.list]), List.take_left' (by simp [hr])]
theorem stM_size {f : R8} {r : List UInt8} {n : Nat} (hr : r.length = 64) : (stM f r n)[72]? = some (.int .u64 (n : Int)) := by
 rw [stM, List.getElem?_append_right (by simp [R8.list]), List.getElem?_append_right (by simp [R8.list, hr])]
 simp [R8.list, hr]
theorem stM_setSize {f : R8} {r : List UInt8} {n m : Nat} (hr : r.length = 64) : (stM f r n).set 72 (.int .u64 (m : Int)) = stM f r m := by
 rw [stM, List.set_append_right _ _ (by simp [R8.list]), List.set_append_right _ _ (by simp [R8.list, hr])]
 simp [R8.list, hr, stM]
theorem stM_setFull {f f' : R8} {r : List UInt8} {n : Nat} : (stM f r n).take 0 ++ f'.list.map u32V ++ (stM f r n).drop (0 + (f'.list.map u32V).length) = stM f' r n := by
 rw [R8.size, List.take_zero, List.nil_append, Nat.zero_add, stM, List.drop_left' (by simp [R8.list]), stM]
theorem stM_ones {f : R8} {r : List UInt8} {n : Nat} : (stM f r n).all (·.oneCell') = true := by
 simp [stM, List.all_append, u32V, byteV, Value.oneCell']
theorem stL_length (l : List UInt8) : (stL l).length = 73 := stM_length (restL_length l)
theorem stL_full (l : List UInt8) : ((stL l).drop 0).take 8 = (fullR l).list.map u32V := stM_full _ _ _
theorem stL_rest (l : List UInt8) : ((stL l).drop 8).take 64 = (restL l).map byteV := stM_rest (restL_length l)
theorem stL_size (l : List UInt8) : (stL l)[72]? = some (.int .u64 (l.length : Int)) := stM_size (restL_length l)
theorem stL_nil : stL [] = List.replicate 8 (.int .u32 0) ++ List.replicate 64 (.int .u8 0) ++ [.int .u64 0] := by kernel_rfl
theorem stL_ones (l : List UInt8) : (stL l).all (·.oneCell') = true := stM_ones
theorem chain_append (s : R8) (l b : List UInt8) : ∀ k, 64 * k ≤ l.length → chain s (l ++ b) k = chain s l k
 | 0, _ => rfl
 | k + 1, h => by
  have h1 := chain_append s l b k (by omega)
  rw [chain, chain, h1, List.drop_append_of_le_length (by omega), List.take_append_of_le_length (by simp; omega)]
theorem chain_start (l : List UInt8) (h : l.length < 64) : chain H8 l (l.length / 64) = H8 := by rw [Nat.div_eq_of_lt h]; rfl
theorem restAt_grow (l b : List UInt8) (i : Nat) (hi : i < 64) (hb : l.length % 64 + b.length ≤ 64) :
  restAt (l ++ b) i = if i < l.length % 64 then restAt l i else if i < l.length % 64 + b.length then b.getD (i - l.length % 64) 0 else restAt l i := by
 have hlen : (l ++ b).length = l.length + b.length := by simp
 by_cases h1 : i < l.length % 64
 ·rw [if_pos h1]
  have h2 : (l.length + b.length + 63 - i) / 64 = (l.length + 63 - i) / 64 := by omega
  have h3 : ¬ (l.length + 63 - i) / 64 = 0 := by omega
  have h4 : 64 * ((l.length + 63 - i) / 64 - 1) + i < l.length := by omega
  rw [restAt, restAt, hlen, h2, if_neg h3, if_neg h3, List.getD_eq_getElem?_getD, List.getD_eq_getElem?_getD, List.getElem?_append_left h4]
 ·rw [if_neg h1]
  by_cases h2 : i < l.length % 64 + b.length
  ·rw [if_pos h2]
   have h3 : (l.length + b.length + 63 - i) / 64 = l.length / 64 + 1 := by omega
   have h4 : 64 * (l.length / 64 + 1 - 1) + i = l.length + (i - l.length % 64) := by omega
   rw [restAt, hlen, h3, if_neg (by omega), h4, List.getD_eq_getElem?_getD, List.getElem?_append_right (by omega), List.getD_eq_getElem?_getD]
   congr 2
   omega
  ·rw [if_neg h2]
   have h3 : (l.length + b.length + 63 - i) / 64 = (l.length + 63 - i) / 64 := by omega
   by_cases h5 : (l.length + 63 - i) / 64 = 0
   ·rw [restAt, restAt, hlen, h3, if_pos h5, if_pos h5]
   ·have h4 : 64 * ((l.length + 63 - i) / 64 - 1) + i < l.length := by omega
    rw [restAt, restAt, hlen, h3, if_neg h5, if_neg h5, List.getD_eq_getElem?_getD, List.getD_eq_getElem?_getD, List.getElem?_append_left h4]
theorem restL_step (l b : List UInt8) (hb : l.length % 64 + b.length ≤ 64) : (restL l).take (l.length % 64) ++ b ++ (restL l).drop (l.length % 64 + b.length) = restL (l ++ b) := by
 have hk : l.length % 64 < 64 := Nat.mod_lt _ (by decide)
 apply List.ext_getElem?
 intro i
 rcases Nat.lt_or_ge i 64 with hi | hi
 ·rw [restL_get _ hi, restAt_grow l b i hi hb]
  by_cases h1 : i < l.length % 64
  ·rw [if_pos h1, List.append_assoc, List.getElem?_append_left (by simp [restL_length]; omega), List.getElem?_take, if_pos h1, restL_get _ hi]
  ·rw [if_neg h1]
   by_cases h2 : i < l.length % 64 + b.length
   ·rw [if_pos h2, List.append_assoc, List.getElem?_append_right (by simp [restL_length]; omega)]
    have h3 : i - ((restL l).take (l.length % 64)).length = i - l.length % 64 := by simp [restL_length]; omega
    rw [h3, List.getElem?_append_left (by omega), List.getD_eq_getElem?_getD, List.getElem?_eq_getElem (by omega)]
    rfl
   ·rw [if_neg h2, List.getElem?_append_right (by simp [restL_length]; omega), List.getElem?_drop]
    have h3 : l.length % 64 + b.length + (i - ((restL l).take (l.length % 64) ++ b).length) = i := by simp [restL_length]; omega
    rw [h3, restL_get _ hi]
 ·rw [List.getElem?_eq_none (by simp [restL_length]; omega), List.getElem?_eq_none (by rw [restL_length]; exact hi)]
theorem restL_take (l : List UInt8) : (restL l).take (l.length % 64) = l.drop (64 * (l.length / 64)) := by
 have hk : l.length % 64 < 64 := Nat.mod_lt _ (by decide)
 apply List.ext_getElem?
 intro i
 rw [List.getElem?_take, List.getElem?_drop]
 split
 ·rename_i hi
  rw [restL_get _ (by omega), restAt]
  have h3 : (l.length + 63 - i) / 64 = l.length / 64 + 1 := by omega
  rw [h3, if_neg (by omega), Nat.add_sub_cancel, List.getD_eq_getElem?_getD, List.getElem?_eq_getElem (by omega)]
  rfl
 ·rw [List.getElem?_eq_none (by omega)]
theorem restL_block (l : List UInt8) (h : l.length % 64 = 0) (h0 : 0 < l.length) : restL l = (l.drop (64 * (l.length / 64 - 1))).take 64 := by
 apply List.ext_getElem?
 intro i
 rw [List.getElem?_take, List.getElem?_drop]
 split
 ·rename_i hi
  rw [restL_get _ hi, restAt]
  have h3 : (l.length + 63 - i) / 64 = l.length / 64 := by omega
  rw [h3, if_neg (by omega), List.getD_eq_getElem?_getD, List.getElem?_eq_getElem (by omega)]
  rfl
 ·rw [List.getElem?_eq_none (by rw [restL_length]; omega)]
theorem fullR_same (l b : List UInt8) (h : (l.length + b.length) / 64 = l.length / 64) : fullR (l ++ b) = fullR l := by
 unfold fullR
 rw [List.length_append, h, chain_append _ _ _ _ (by omega)]
 by_cases h1 : l.length < 64
 ·rw [if_pos h1, if_pos (by omega)]
 ·rw [if_neg h1, if_neg (by omega)]
theorem fullR_step (l b : List UInt8) (h : l.length % 64 + b.length = 64) : fullR (l ++ b) = compress (chain H8 l (l.length / 64)) (restL (l ++ b)) := by
 have hk : l.length % 64 < 64 := Nat.mod_lt _ (by decide)
 have h1 : (l ++ b).length / 64 = l.length / 64 + 1 := by simp; omega
 rw [fullR, if_neg (by simp; omega), h1, chain, chain_append _ _ _ _ (by omega), restL_block _ (by simp; omega) (by simp; omega), h1, Nat.add_sub_cancel]
theorem st_copy (L r : List UInt8) : (stL L).take (8 + L.length % 64) ++ (r.take (64 - L.length % 64)).map byteV ++ (stL L).drop (8 + L.length % 64 + min r.length (64 - L.length % 64)) = stM (fullR L) (restL (L ++ r.take (64 - L.length % 64))) L.length := by
 have hk : L.length % 64 < 64 := Nat.mod_lt _ (by decide)
 have hb : (r.take (64 - L.length % 64)).length = min r.length (64 - L.length % 64) := by rw [List.length_take, Nat.min_comm]
 have h8 : ((fullR L).list.map u32V).length = 8 := R8.size _
 rw [← restL_step L (r.take (64 - L.length % 64)) (by rw [hb]; omega), hb]
 have h1 : (stL L).take (8 + L.length % 64) = (fullR L).list.map u32V ++ ((restL L).take (L.length % 64)).map byteV := by
  rw [stL, stM, List.take_append, h8, Nat.add_sub_cancel_left, List.take_of_length_le (by rw [h8]; omega), List.take_append_of_le_length (by simp [restL_length]; omega), List.map_take]
 have h2 : (stL L).drop (8 + L.length % 64 + min r.length (64 - L.length % 64)) = ((restL L).drop (L.length % 64 + min r.length (64 - L.length % 64))).map byteV ++ [.int .u64 (L.length : Int)] := by
  rw [stL, stM, List.drop_append, h8, List.drop_eq_nil_of_le (by rw [h8]; omega), List.nil_append, show 8 + L.length % 64 + min r.length (64 - L.length % 64) - 8 = L.length % 64 + min r.length (64 - L.length % 64) from by omega,
   List.drop_append_of_le_length (by simp [restL_length]; omega), List.map_drop]
 rw [h1, h2, stM]
 simp
theorem padded_tail (l e : List UInt8) : l ++ e = l.take (64 * (l.length / 64)) ++ (l.drop (64 * (l.length / 64)) ++ e) := by
 rw [← List.append_assoc, List.take_append_drop]
theorem chain_tail (s : R8) (a t : List UInt8) (k : Nat) (ha : a.length = 64 * k) : ∀ i, chain (chain s a k) t i = chain s (a ++ t) (k + i)
 | 0 => by rw [Nat.add_zero, chain_append _ _ _ _ (by omega)]; rfl
 | i + 1 => by
  have h1 : (a ++ t).drop (64 * (k + i)) = t.drop (64 * i) := by
   rw [List.drop_append, show a.drop (64 * (k + i)) = [] from List.drop_eq_nil_of_le (by omega), List.nil_append, show 64 * (k + i) - a.length = 64 * i from by omega]
  rw [chain, chain_tail s a t k ha i, ← Nat.add_assoc, chain, h1]
theorem tableB_more {bs c : List UInt8} {m : Nat} (h : bs.length + c.length ≤ m) : (tableB bs m).take bs.length ++ c.map byteV ++ (tableB bs m).drop (bs.length + c.length) = tableB (bs ++ c) m := by
 have h1 : m - bs.length = c.length + (m - (bs ++ c).length) := by rw [List.length_append]; omega
 rw [tableB, List.map_append, List.take_left' (by simp), List.drop_append, List.drop_eq_nil_of_le (by simp), List.nil_append, List.length_map, Nat.add_sub_cancel_left, h1, List.map_replicate, List.drop_replicate, Nat.add_sub_cancel_left, tableB, List.map_append, List.map_append, List.map_replicate]
theorem flatBe_take : ∀ (xs : List UInt32) (i : Nat), i < xs.length → (xs.flatMap fun x => be 4 x.toNat).take (4 * (i + 1)) = (xs.flatMap fun x => be 4 x.toNat).take (4 * i) ++ be 4 (xs.getD i 0).toNat
 | [], i, h => by simp at h
 | x :: xs, 0, _ => by
  rw [List.flatMap_cons, List.take_left' (by rw [be_length]), Nat.mul_zero, List.take_zero]; rfl
 | x :: xs, i + 1, h => by
  have hb : (be 4 x.toNat).length = 4 := be_length _ _
  have h1 : ∀ k, 4 ≤ k → (be 4 x.toNat ++ xs.flatMap fun x => be 4 x.toNat).take k = be 4 x.toNat ++ (xs.flatMap fun x => be 4 x.toNat).take (k - 4) := fun k hk => by
   rw [List.take_append, hb, show (be 4 x.toNat).take k = be 4 x.toNat from List.take_of_length_le (by omega)]
  rw [List.flatMap_cons, h1 _ (by omega), h1 _ (by omega), show 4 * (i + 1 + 1) - 4 = 4 * (i + 1) from by omega, show 4 * (i + 1) - 4 = 4 * i from by omega,
   flatBe_take xs i (by simpa using h), List.append_assoc]
  rfl
theorem sha_copy (l : List UInt8) {i : Nat} (h : i < 8) : (tableB ((sha l).take (4 * i)) 32).take (0 + 4 * i) ++ ((be 4 ((shaR l).list.getD i 0).toNat).take (32 - 4 * i)).map byteV ++ (tableB ((sha l).take (4 * i)) 32).drop (0 + 4 * i + min (be 4 ((shaR l).list.getD i 0).toNat).length (32 - 4 * i)) = tableB ((sha l).take (4 * (i + 1))) 32 := by
 have hb : (be 4 ((shaR l).list.getD i 0).toNat).length = 4 := be_length _ _
 have hl : ((sha l).take (4 * i)).length = 4 * i := by rw [List.length_take, sha_length]; omega
 have h1 : (sha l).take (4 * (i + 1)) = (sha l).take (4 * i) ++ be 4 ((shaR l).list.getD i 0).toNat := flatBe_take (shaR l).list i h
 have := tableB_more (bs := (sha l).take (4 * i)) (c := be 4 ((shaR l).list.getD i 0).toNat) (m := 32) (by rw [hl, hb]; omega)
 rw [h1, ← this, hl, hb, Nat.zero_add, show (be 4 ((shaR l).list.getD i 0).toNat).take (32 - 4 * i) = be 4 ((shaR l).list.getD i 0).toNat from List.take_of_length_le (by omega), Nat.min_eq_left (by omega)]
def endL (n : Nat) : List UInt8 := 128 :: (List.replicate ((119 - n % 64) % 64) 0 ++ be 8 (8 * n))
theorem endL_length (n : Nat) : (endL n).length = 1 + (119 - n % 64) % 64 + 8 := by simp [endL, be_length]; omega
def tailL (l : List UInt8) : List UInt8 := l.drop (64 * (l.length / 64)) ++ endL l.length
theorem tailL_length (l : List UInt8) : (tailL l).length = l.length % 64 + (1 + (119 - l.length % 64) % 64 + 8) := by
 rw [tailL, List.length_append, List.length_drop, endL_length]; omega
theorem tailL_mod (l : List UInt8) : (tailL l).length = 64 * ((tailL l).length / 64) := by
 rw [tailL_length]; omega
theorem tailL_sha (l : List UInt8) : chain (chain H8 l (l.length / 64)) (tailL l) ((tailL l).length / 64) = shaR l := by
 have ha : (l.take (64 * (l.length / 64))).length = 64 * (l.length / 64) := by rw [List.length_take]; omega
 have h1 : chain H8 l (l.length / 64) = chain H8 (l.take (64 * (l.length / 64))) (l.length / 64) := by
  have := chain_append H8 (l.take (64 * (l.length / 64))) (l.drop (64 * (l.length / 64))) (l.length / 64) (by omega)
  rwa [List.take_append_drop] at this
 have h2 : padded l = l.take (64 * (l.length / 64)) ++ tailL l := padded_tail l (endL l.length)
 have h3 : (padded l).length / 64 = l.length / 64 + (tailL l).length / 64 := by
  rw [h2, List.length_append, ha]; omega
 rw [h1, chain_tail _ _ _ _ ha, ← h2, ← h3]; rfl
theorem tailL_block (l : List UInt8) {ys : List Value} {i : Nat} (h : i < (tailL l).length / 64) : (((tailL l).map byteV ++ ys).drop (64 * i)).take 64 = (((tailL l).drop (64 * i)).take 64).map byteV := by
 rw [List.drop_append_of_le_length (by simp; omega), List.take_append_of_le_length (by simp; omega), List.map_take, List.map_drop]
section
theorem zero225 : ZeroIs Tryz.prog 225 (List.replicate 8 (.int .u32 0) ++ List.replicate 64 (.int .u8 0) ++ [.int .u64 0]) := by unfold ZeroIs; kernel_rfl
theorem size225 : SizeIs Tryz.prog 225 73 := by unfold SizeIs; kernel_rfl
theorem field225_0 : FieldIs Tryz.prog 225 0 0 8 := by unfold FieldIs; kernel_rfl
theorem field225_1 : FieldIs Tryz.prog 225 1 8 64 := by unfold FieldIs; kernel_rfl
theorem field225_2 : FieldIs Tryz.prog 225 2 72 1 := by unfold FieldIs; kernel_rfl
def half (s t : R8) (i : Nat) : List Value := ((s.add t).list.take i ++ s.list.drop i).map u32V
theorem half_length {s t : R8} {i : Nat} (h : i ≤ 8) : (half s t i).length = 8 := by
 have h1 : s.list.length = 8 := rfl
 have h2 : (s.add t).list.length = 8 := rfl
 simp [half, h1, h2]; omega
theorem half_get {s t : R8} {i : Nat} (h : i < 8) : (half s t i)[i]? = some (u32V (s.list.getD i 0)) := by
 rcases i with _ | _ | _ | _ | _ | _ | _ | _ | i
 all_goals first | rfl | omega
theorem half_set {s t : R8} {i : Nat} (h : i < 8) : (half s t i).set i (u32V (s.list.getD i 0 + t.list.getD i 0)) = half s t (i + 1) := by
 rcases i with _ | _ | _ | _ | _ | _ | _ | _ | i
 all_goals first | rfl | omega
set_option maxHeartbeats 400000 in
theorem Compress_fn (h : R8) (l : List UInt8) (hl : l.length = 64) : FnM Tryz.prog 149 tabs [.v (aggV (h.list.map u32V)), .v (aggV (l.map byteV))] (.v (aggV ((compress h l).list.map u32V))) := by
 refine FnM.of Tryz.func149 rfl (by kernel_rfl) Tryz.ntmps149 (by simp) (by decide) (fun w => [(0, .v (aggV (h.list.map u32V))), (1, .v (aggV (l.map byteV))), (1900002, tab 2 (H8.list.map u32V)), (1900003, tab 3 (K64.map u32V))]) (fun w => (StartM.v rfl (StartM.v rfl (StartM.m (by simp [tabs]) (by decide) (StartM.m (by simp [tabs]) (by decide) StartM.nil))))) fun w₀ hM => ?_
 have htab := tabs_hi hM
 refine GS (TN 0 (RN ?_));refine ZB 1000002 rfl fun b2 ⟨hBb2, hb2⟩ => ?_
 refine TN 1 (RN ?_);refine ZB 1000003 rfl fun b3 ⟨hBb3, hb3⟩ => ?_
 refine TN 2 (RN ?_);refine ZN 1000004 zero156 fun b4 ⟨hBb4, hb4⟩ => ?_
 have hlt_b2_b4 := hb4 1000002 b2 _ _ rfl
 refine TL (RN (QS (GTD (RL 1000002 U156 rfl rfl (size156.of (R8.size _)) ?_))));refine RL 1000003 U223 rfl rfl (size223.of (by rw [List.length_map, hl])) ?_;refine RS (ok_call (schedule_fn l hl) (A1 rfl)) ?_;refine RS (ok_callM (rounds_fn h (sched l 64) (sched_length l 64)) (Sub.cons rfl (Sub.cons rfl KN)) tabs_v (Args.cons rfl LA (Args.cons rfl LA Args.nil))) ?_;refine RVN 1 rfl ?_;refine A.block ?_;refine A.loop (ι := Nat) (fun i => i ≤ 8) (fun i => [(2, .v (.pointer (some ⟨b2,0, none⟩))), (4, .v (.pointer (some ⟨b4,0, none⟩))), (10, .v (aggV ((rounds h K64 (sched l 64) 64).list.map u32V))), (11, .v (.int .i64 ((i : Nat) : Int))), (1000002, blk b2 156 (half h (rounds h K64 (sched l 64) 64) i)), (1000004, blk b4 156 (List.replicate 8 (.int .u32 0))), (1900002, tab 2 (H8.list.map u32V)), (1900003, tab 3 (K64.map u32V))]) (fun i => 8 - i) 0 ?_ ?_ ?_
 ·exact Nat.zero_le _
 ·exact (KC 2 rfl (KC 4 rfl (KC 10 rfl (KC 11 rfl (KE 1000002 rfl (rfl) (KC 1000004 rfl (KC 1900002 rfl (KC 1900003 rfl KN))))))))
 intro i hi
 refine GV rfl (QS ?_);refine A.cond rfl (fun hc12 => ?_) (fun hc12 => ?_)
 ·have hlt : i < 8 := by simp at hc12; omega
  refine QK (QSB (GT (RM rfl ?_)));refine RS (ok_indexV1 i U156 U46 rfl info46 rfl rfl rfl hlt (map_get32 (by show i < 8; omega))) ?_;refine RVN 2 rfl ?_;refine GE (TF 6 (RM rfl ?_));refine RS (ok_index0 _ U156 info46 rfl rfl (rfl) (by omega)) ?_;refine RS (ok_loadV (s := 1000002) (by decide) U46 rfl rfl rfl (half_get hlt)) ?_;refine RM rfl ?_;refine RS (ok_add32 rfl rfl) ?_;refine RS (ok_index0 _ U156 info46 rfl rfl (rfl) (by omega)) ?_;refine RN ?_;refine ⟨_, eff_storeS (n := 23) (s := 1000002) info46 rfl rfl rfl hBb2 rfl (by rw [half_length (by omega)]; omega) (LB 1000004 rfl (LQ 1900002 rfl (LQ 1900003 rfl (LW [2,4,10,11] rfl)))), ?_⟩
  refine TL (RN (End.normal_block (EN (GTE (RB rfl rfl rfl ?_)))));refine RZ (.int .i64 ((i + 1 : Nat) : Int)) (by rw [wrap_i64 (by omega) (by omega)]; first | rfl | (congr 1; omega)) ?_;refine RVN 1 rfl ?_;refine End.normal_then ?_;refine End.again (i + 1) ?_ ?_ ?_
  ·show _ ≤ _; omega
  ·show _ - _ < _ - _; omega
  ·exact (KC 2 rfl (KC 4 rfl (KC 10 rfl (KC 11 rfl (KE 1000002 rfl (by rw [half_set hlt]) (KC 1000004 rfl (KC 1900002 rfl (KC 1900003 rfl KN))))))))
 ·obtain rfl : i = 8 := by simp at hc12; omega
  refine A.exit (End.exit_then (End.exit_then (End.exit_here (EN (GS (TF 1 (RL 1000002 U156 rfl rfl (size156.of (half_length (by omega))) ?_)))))));refine RZ (aggV ((compress h l).list.map u32V)) (rfl) ?_;refine RN ?_;refine ⟨_, eff_storeA (n := 23) (s := 1000004) (size156.of (R8.size _)) rfl rfl (all_u32 _) hBb4 rfl ((R8.size _).symm) (LV 4 rfl (LB 1000002 rfl (LQ 1900002 rfl (LQ 1900003 rfl LN)))), ?_⟩
  refine TL (RN (A.ret ?_));exact End.cell1 (s := 1000004) rfl U156 rfl (size156.of (R8.size _)) rfl rfl (Le.refl _)
theorem New_fn  : Fn Tryz.prog 136 [] (.v (stV [])) := by
 refine FV Tryz.func136 rfl Tryz.ntmps136 rfl fun w₀ => ?_
 refine GS (TN 0 (RN ?_));refine ZN 1000000 zero225 fun b0 ⟨hBb0, hb0⟩ => ?_
 refine TL (RN (GS (TF 1 (RS (ok_lit [] (List.replicate 8 (.int .u32 0) ++ List.replicate 64 (.int .u8 0) ++ [.int .u64 0]) (fun _ _ => rfl) (by kernel_rfl)) ?_))));refine RN ?_;refine ⟨_, eff_storeA (n := 2) (s := 1000000) (size225.of (by decide)) rfl rfl (by decide) hBb0 rfl (rfl) (LV 0 rfl LN), ?_⟩
 refine TL (RN (A.ret ?_));exact End.cell1 (s := 1000000) rfl U225 rfl (size225.of (by decide)) rfl rfl (Le.eq (by rw [stV, stL_nil]))
theorem filled_fn (f : R8) (r : List UInt8) (m : Nat) (hr : r.length = 64) (hm : m ≤ 1000000) : Fn Tryz.prog 148 [.v (aggV (stM f r m))] (.v (.int .i64 ((m % 64 : Nat) : Int))) := by
 refine FV Tryz.func148 rfl Tryz.ntmps148 rfl fun w₀ => ?_
 refine GS (TN 0 (RN ?_));refine ZB 1000001 rfl fun b1 ⟨hBb1, hb1⟩ => ?_
 refine TL (RVN 1 rfl ?_);refine GT (RS (ok_field field225_2 (by decide) rfl) ?_);refine RS (ok_loadV (s := 1000001) (by decide) U47 rfl rfl rfl (stM_size hr)) ?_;refine RS (ok_rem rfl rfl (by decide)) ?_;refine RZ (.int .u64 ((m % 64 : Nat) : Int)) (by rw [tmod_lit _ (by decide)]; rfl) ?_;refine RS (ok_conv U47 U3 rfl) ?_;refine RZ (.int .i64 ((m % 64 : Nat) : Int)) (by rw [wrap_i64 (by omega) (by omega)]) ?_;refine RVN 1 rfl ?_;refine A.ret ?_;exact ER rfl rfl
theorem compressed_fn (l : List UInt8) (hl : l.length ≤ 1000000) : FnM Tryz.prog 147 tabs [.v (stV l)] (.v (aggV ((chain H8 l (l.length / 64)).list.map u32V))) := by
 refine FnM.of Tryz.func147 rfl (by kernel_rfl) Tryz.ntmps147 (by simp) (by decide) (fun w => [(0, .v (stV l)), (1900002, tab 2 (H8.list.map u32V)), (1900003, tab 3 (K64.map u32V))]) (fun w => (StartM.v rfl (StartM.m (by simp [tabs]) (by decide) (StartM.m (by simp [tabs]) (by decide) StartM.nil)))) fun w₀ hM => ?_
 have htab := tabs_hi hM
 refine GS (TN 0 (RN ?_));refine ZB 1000001 rfl fun b1 ⟨hBb1, hb1⟩ => ?_
 refine TN 1 (RN ?_);refine ZN 1000002 zero156 fun b2 ⟨hBb2, hb2⟩ => ?_
 refine TL (RN (QS (GT (RS (ok_field field225_2 (by decide) rfl) ?_))));refine RS (ok_loadV (s := 1000001) (by decide) U47 rfl rfl rfl (stL_size l)) ?_;refine RVN 1 rfl ?_;refine A.cond rfl (fun hc5 => ?_) (fun hc5 => ?_)
 ·have hs : l.length < 64 := by simp at hc5; omega
  refine GS (TF 1 (RS (ok_loadT (s := 1900002) (by decide) U156 rfl (size156.of (R8.size _)) rfl rfl) ?_));refine RZ (aggV ((chain H8 l (l.length / 64)).list.map u32V)) (by rw [chain_start l hs]) ?_;refine RN ?_;refine ⟨_, eff_storeA (n := 9) (s := 1000002) (size156.of (R8.size _)) rfl rfl (all_u32 _) hBb2 rfl ((R8.size _).symm) (LV 2 rfl (LT 1000001 rfl (LQ 1900002 rfl (LQ 1900003 rfl LN)))), ?_⟩
  refine TL (RN (A.ret (End.ret_then ?_)));exact End.cell1 (s := 1000002) rfl U156 rfl (size156.of (R8.size _)) rfl rfl (Le.refl _)
 ·have hs : ¬ l.length < 64 := by simp at hc5; omega
  refine QK (GS (TF 2 (RS (ok_field field225_0 (by decide) rfl) ?_)));refine RS (ok_loadP (s := 1000001) (by decide) U156 rfl size156 rfl rfl (by rw [stL_length]; decide) (stL_full l)) ?_;refine RZ (aggV ((chain H8 l (l.length / 64)).list.map u32V)) (by rw [fullR, if_neg hs]) ?_;refine RN ?_;refine ⟨_, eff_storeA (n := 9) (s := 1000002) (size156.of (R8.size _)) rfl rfl (all_u32 _) hBb2 rfl ((R8.size _).symm) (LV 2 rfl (LT 1000001 rfl (LQ 1900002 rfl (LQ 1900003 rfl LN)))), ?_⟩
  refine TL (RN (A.ret ?_));exact End.cell1 (s := 1000002) rfl U156 rfl (size156.of (R8.size _)) rfl rfl (Le.refl _)
theorem ending_fn (l : List UInt8) (hl : l.length ≤ 1000000) : Fn Tryz.prog 150 [.v (stV l)] (byt (endL l.length)) := by
 refine FV Tryz.func150 rfl Tryz.ntmps150 rfl fun w₀ => ?_
 refine GS (TN 0 (RN ?_));refine ZB 1000001 rfl fun b1 ⟨hBb1, hb1⟩ => ?_
 refine TL (RVN 1 rfl ?_);refine GT (RL 1000001 U225 rfl rfl (size225.of (stL_length l)) ?_);refine RS (ok_call (filled_fn (fullR l) (restL l) l.length (restL_length l) hl) (A1 rfl)) ?_;refine RB rfl rfl rfl ?_;refine RZ (.int .i64 ((119 - l.length % 64 : Nat) : Int)) (by rw [wrap_i64 (by omega) (by omega)]; congr 1; omega) ?_;refine RS (ok_rem rfl rfl (by decide)) ?_;refine RZ (.int .i64 (((119 - l.length % 64) % 64 : Nat) : Int)) (by rw [tmod_lit _ (by decide)]; rfl) ?_;refine RVN 1 rfl ?_;refine GTD (RS (ok_build [byteD 128] U23 info5 rfl (by decide) (by decide) rfl ⟨rfl, rfl, trivial⟩ (fun d hd w x h => by simp only [List.mem_cons, List.not_mem_nil, or_false] at hd; rcases hd with rfl; exact v_one rfl h)) ?_);refine RM rfl ?_;refine RS (ok_make ((119 - l.length % 64) % 64) U23 info5 (by decide) rfl rfl rfl rfl rfl (by omega)) ?_;refine RS (ok_field field225_2 (by decide) rfl) ?_;refine RS (ok_loadV (s := 1000001) (by decide) U47 rfl rfl rfl (stL_size l)) ?_;refine RB rfl rfl rfl ?_;refine RZ (.int .u64 ((8 * l.length : Nat) : Int)) (by rw [wrap_u64 (by omega) (by omega)]; congr 1) ?_;refine RS (ok_call (Put64_fn ((8 * l.length : Nat) : Int) (by omega) (by omega)) (A1 rfl)) ?_;refine RS (ok_build [list [byteD 128] 1, fresh w₀.heap.size 5 (List.replicate ((119 - l.length % 64) % 64) (.int .u8 0)) ((119 - l.length % 64) % 64), bytes (be 8 (8 * l.length)) 8] U222 info23 rfl (by decide) (by decide) rfl ⟨rfl, rfl, rfl, rfl, rfl, rfl, trivial⟩ (fun d hd w x h => by simp only [List.mem_cons, List.not_mem_nil, or_false] at hd; rcases hd with rfl | rfl | rfl <;> first | exact list_one h | exact freshS_one h | exact bytes_one h)) ?_;refine RS (ok_call ((Join_fn [[128], List.replicate ((119 - l.length % 64) % 64) 0, be 8 (8 * l.length)] (by simp) (by simp [be_length]; omega)).le (d' := byt (endL l.length)) ((le_byt _ _).trans (Le.eq (by simp [endL])))) (Args.cons rfl (list_lst3 (le_lst _ _) (fresh_zeros (by simp only [maxLen]; omega)) (le_byt _ _)) Args.nil)) ?_;refine RVN 1 rfl ?_;refine A.ret ?_;exact ER rfl rfl
end
section
variable {κ : Cx}
end
section
end
section
end
section
end
section
theorem block_len (L r : List UInt8) (h : (L.length + min r.length (64 - L.length % 64)) % 64 = 0) (h0 : 0 < r.length) : L.length % 64 + (r.take (64 - L.length % 64)).length = 64 := by
 have hk : L.length % 64 < 64 := Nat.mod_lt _ (by decide)
 rw [List.length_take]; omega
theorem part_len (L r : List UInt8) (h : ¬ (L.length + min r.length (64 - L.length % 64)) % 64 = 0) : (L.length + (r.take (64 - L.length % 64)).length) / 64 = L.length / 64 := by
 have hk : L.length % 64 < 64 := Nat.mod_lt _ (by decide)
 rw [List.length_take]; omega
set_option maxHeartbeats 1000000 in
theorem Write_fn (l b : List UInt8) (hl : l.length + b.length ≤ 1000000) : FnM Tryz.prog 137 tabs [.v (stV l), byt b] (.v (stV (l ++ b))) := by
 refine FnM.of Tryz.func137 rfl (by kernel_rfl) Tryz.ntmps137 (by simp) (by decide) (fun w => [(0, .v (stV l)), (1, old w.heap.size (byt b)), (1900002, tab 2 (H8.list.map u32V)), (1900003, tab 3 (K64.map u32V))]) (fun w => (StartM.v rfl (StartM.old rfl (StartM.m (by simp [tabs]) (by decide) (StartM.m (by simp [tabs]) (by decide) StartM.nil))))) fun w₀ hM => ?_
 have htab := tabs_hi hM
 refine GS (TN 0 (RN ?_));refine ZB 1000002 rfl fun b2 ⟨hBb2, hb2⟩ => ?_
 refine TN 1 (RN ?_);refine ZN 1000004 zero225 fun b4 ⟨hBb4, hb4⟩ => ?_
 have hlt_b2_b4 := hb4 1000002 b2 _ _ rfl
 refine TL (RN (QSB ?_));refine A.loop (ι := Nat) (fun c => c ≤ b.length) (fun c => [(1, old w₀.heap.size (byt (b.drop c))), (2, .v (.pointer (some ⟨b2,0, none⟩))), (4, .v (.pointer (some ⟨b4,0, none⟩))), (1000002, blk b2 225 (stL (l ++ b.take c))), (1000004, blk b4 225 (List.replicate 8 (.int .u32 0) ++ List.replicate 64 (.int .u8 0) ++ [.int .u64 0])), (1900002, tab 2 (H8.list.map u32V)), (1900003, tab 3 (K64.map u32V))]) (fun c => b.length - c) 0 ?_ ?_ ?_
 ·exact Nat.zero_le _
 ·exact (KE 1 rfl (by rw [List.drop_zero]) (KC 2 rfl (KC 4 rfl (KE 1000002 rfl (by rw [List.take_zero, List.append_nil]) (KC 1000004 rfl (KC 1900002 rfl (KC 1900003 rfl KN)))))))
 intro c hc
 obtain ⟨L, hL⟩ : ∃ L, l ++ b.take c = L := ⟨_, rfl⟩
 obtain ⟨r, hr⟩ : ∃ r, b.drop c = r := ⟨_, rfl⟩
 have hLl : L.length = l.length + c := by rw [← hL]; simp; omega
 have hrl' : r.length = b.length - c := by rw [← hr]; simp
 rw [hL, hr]
 refine QS (GT (RM rfl ?_));refine RS (ok_lenB U23 rfl (Le.old _ _)) ?_;refine RVN 1 rfl ?_;refine A.cond rfl (fun hc9 => ?_) (fun hc9 => ?_)
 ·have hrl : 0 < r.length := by simp at hc9; omega
  refine QK (A.block (GS (TN 2 (RL 1000002 U225 rfl rfl (size225.of (stL_length _)) ?_))));refine RS (ok_callM (compressed_fn L (by omega)) (Sub.cons rfl (Sub.cons rfl KN)) tabs_v (Args.cons rfl LA Args.nil)) ?_;refine RN ?_;refine ZN 1000005 zero156 fun b5 ⟨hBb5, hb5⟩ => ?_
  refine TF 3 (RN ?_);refine ⟨_, eff_storeA (n := 36) (s := 1000005) (size156.of (R8.size _)) rfl rfl (all_u32 _) hBb5 rfl ((R8.size _).symm) (LO 1 rfl (LT 1000002 rfl (LT 1000004 rfl (LQ 1900002 rfl (LQ 1900003 rfl (LW [2,4,5] rfl)))))), ?_⟩
  refine TL (RN (GS (TF 5 (RS (ok_field field225_1 (by decide) rfl) ?_))));refine RL 1000002 U225 rfl rfl (size225.of (stL_length _)) ?_;refine RS (ok_call (filled_fn (fullR L) (restL L) L.length (restL_length L) (by omega)) (A1 rfl)) ?_;refine RS (ok_sliceX (l := L.length % 64) (h := 64) (m := 64) U223 info5 rfl (.inl ⟨_, _, rfl, rfl⟩) (.inr ⟨rfl, rfl, rfl⟩) (.inr ⟨rfl, rfl⟩) (by omega) (by omega) (by omega) (.inl (by omega))) ?_;refine RVN 1 rfl ?_;refine ⟨_, eff_copyS (n := 36) (s := 1000002) (l := r) U23 info5 rfl rfl (Le.old _ _) hBb2 rfl (by rw [stL_length]; omega) (by decide) (LO 1 rfl (LB 1000004 rfl (LT 1000005 rfl (LQ 1900002 rfl (LQ 1900003 rfl (LW [2,4,5] rfl)))))), ?_⟩
  refine TL (RVN 1 rfl ?_);refine A.sub (KC 1 rfl (KC 2 rfl (KC 4 rfl (KC 5 rfl (KC 6 rfl (KE 1000002 rfl (show blk b2 225 _ = blk b2 225 (stM (fullR L) (restL (L ++ r.take (64 - L.length % 64))) L.length) from congrArg _ (st_copy L r)) (KC 1000004 rfl (KC 1000005 rfl (KC 1900002 rfl (KC 1900003 rfl KN)))))))))) ?_;refine GT (RV 2 rfl ?_);refine RS ((ok_sliceO (l := min r.length (64 - L.length % 64)) (h := r.length) (f := byt r) (ds := r.map byteD) U23 info5 rfl (Le.refl _) (.inl ⟨_, _, rfl, rfl⟩) (.inr ⟨rfl, by simp⟩) (by omega) (by simp)).le (d' := old w₀.heap.size (byt (r.drop (min r.length (64 - L.length % 64))))) (Le.eq (by rw [byt, List.map_drop, List.take_of_length_le (by simp)]))) ?_;refine RVN 1 rfl ?_;refine GS (TF 6 (RS (ok_field field225_2 (by decide) rfl) ?_));refine RS (ok_loadV (s := 1000002) (by decide) U47 rfl rfl rfl (stM_size (restL_length _))) ?_;refine RM rfl ?_;refine RS (ok_conv U3 U47 rfl) ?_;refine RZ (.int .u64 ((min r.length (64 - L.length % 64) : Nat) : Int)) (by rw [wrapN_u64 (by omega)]) ?_;refine RB rfl rfl rfl ?_;refine RZ (.int .u64 ((L.length + min r.length (64 - L.length % 64) : Nat) : Int)) (by rw [wrap_u64 (by omega) (by omega)]; congr 1) ?_;refine RS (ok_field field225_2 (by decide) rfl) ?_;refine RN ?_;refine ⟨_, eff_storeS (n := 36) (s := 1000002) info47 rfl rfl rfl hBb2 rfl (by rw [stM_length (restL_length _)]; decide) (LO 1 rfl (LB 1000004 rfl (LT 1000005 rfl (LQ 1900002 rfl (LQ 1900003 rfl (LW [2,4,5] rfl)))))), ?_⟩
  refine TL (RN (A.sub (KC 1 rfl (KC 2 rfl (KC 4 rfl (KC 5 rfl (KE 1000002 rfl (show blk b2 225 _ = blk b2 225 (stM (fullR L) (restL (L ++ r.take (64 - L.length % 64))) (L.length + min r.length (64 - L.length % 64))) from congrArg _ (stM_setSize (restL_length _))) (KC 1000004 rfl (KC 1000005 rfl (KC 1900002 rfl (KC 1900003 rfl KN))))))))) ?_));refine GT (RL 1000002 U225 rfl rfl (size225.of (stM_length (restL_length _))) ?_);refine RS (ok_call (filled_fn (fullR L) (restL (L ++ r.take (64 - L.length % 64))) (L.length + min r.length (64 - L.length % 64)) (restL_length _) (by omega)) (A1 rfl)) ?_;refine RVN 1 rfl ?_;refine A.cond rfl (fun hc29 => ?_) (fun hc29 => ?_)
  ·refine GE (TF 5 (RL 1000005 U156 rfl rfl (size156.of (R8.size _)) ?_));refine RS (ok_field field225_1 (by decide) rfl) ?_;refine RS (ok_loadP (s := 1000002) (by decide) U223 rfl size223 rfl rfl (by rw [stM_length (restL_length _)]; decide) (stM_rest (restL_length _))) ?_;refine RS (ok_callM (Compress_fn (chain H8 L (L.length / 64)) (restL (L ++ r.take (64 - L.length % 64))) (restL_length _)) (Sub.cons rfl (Sub.cons rfl KN)) tabs_v (Args.cons rfl LA (Args.cons rfl LA Args.nil))) ?_;refine RS (ok_field field225_0 (by decide) rfl) ?_;refine RN ?_;refine ⟨_, eff_storeP (n := 36) (s := 1000002) (size156.of (R8.size _)) rfl rfl (all_u32 _) hBb2 rfl (by rw [stM_length (restL_length _), R8.size]; decide) (LO 1 rfl (LB 1000004 rfl (LT 1000005 rfl (LQ 1900002 rfl (LQ 1900003 rfl (LW [2,4] rfl)))))), ?_⟩
   refine TL (RN (End.sub (KC 1 rfl (KC 2 rfl (KC 4 rfl (KE 1000002 rfl (show blk b2 225 _ = blk b2 225 (stL (L ++ r.take (64 - L.length % 64))) from congrArg _ (by rw [stM_setFull, stL, fullR_step L _ (block_len L r (by have := beq_iff_eq.1 hc29; omega) (by omega)), List.length_append, List.length_take, Nat.min_comm (64 - L.length % 64)])) (KC 1000004 rfl (KC 1000005 rfl (KC 1900002 rfl (KC 1900003 rfl KN)))))))) ?_));refine End.normal_block (End.normal_then ?_);refine End.again (c + min r.length (64 - L.length % 64)) ?_ ?_ ?_
   ·show _ ≤ _; omega
   ·show _ - _ < _ - _; omega
   ·exact (KE 1 rfl (by rw [← List.drop_drop, hr]) (KC 2 rfl (KC 4 rfl (KE 1000002 rfl (by rw [List.take_add, hr, ← List.append_assoc, hL, Nat.min_comm r.length, ← List.take_eq_take_min]) (KC 1000004 rfl (KC 1900002 rfl (KC 1900003 rfl KN)))))))
  ·have hst : stM (fullR L) (restL (L ++ r.take (64 - L.length % 64))) (L.length + min r.length (64 - L.length % 64)) = stL (L ++ r.take (64 - L.length % 64)) := by
    rw [stL, fullR_same L _ (part_len L r (by have := beq_eq_false_iff_ne.1 hc29; omega)), List.length_append, List.length_take, Nat.min_comm (64 - L.length % 64)]
   rw [hst]
   refine A.skip (End.normal_block (End.normal_then ?_));refine End.again (c + min r.length (64 - L.length % 64)) ?_ ?_ ?_
   ·show _ ≤ _; omega
   ·show _ - _ < _ - _; omega
   ·exact (KE 1 rfl (by rw [← List.drop_drop, hr]) (KC 2 rfl (KC 4 rfl (KE 1000002 rfl (by rw [List.take_add, hr, ← List.append_assoc, hL, Nat.min_comm r.length, ← List.take_eq_take_min]) (KC 1000004 rfl (KC 1900002 rfl (KC 1900003 rfl KN)))))))
 ·have hr0 : r = [] := by simpa using hc9
  refine A.exit (End.exit_then (End.exit_then (End.exit_here (EN (GS (TF 1 (RL 1000002 U225 rfl rfl (size225.of (stL_length _)) ?_)))))));refine RN ?_;refine ⟨_, eff_storeA (n := 36) (s := 1000004) (size225.of (stL_length _)) rfl rfl (stL_ones _) hBb4 rfl ((stL_length _).symm) (LV 4 rfl (LB 1000002 rfl (LQ 1900002 rfl (LQ 1900003 rfl LN)))), ?_⟩
  refine TL (RN (A.ret ?_));exact End.cell1 (s := 1000004) rfl U225 rfl (size225.of (stL_length _)) rfl rfl (Le.v (by rw [← hL, stV]; simp [List.drop_eq_nil_iff.1 (hr.trans hr0), List.take_of_length_le]))
end
section
theorem Chunk_fnB (g m c : Nat) : FnB Tryz.prog 151 [.v (.slice (some ⟨g, 0, none⟩) m c), .v (.int .i64 64)] (fun B => closD B 157 23 3 (.slice (some ⟨g, 0, none⟩) m c) (.int .i64 64)) := by
 refine FnB.of Tryz.func151 rfl (by kernel_rfl) Tryz.ntmps151 (by simp) (fun w => [(0, .v (.slice (some ⟨g, 0, none⟩) m c)), (1, .v (.int .i64 64))]) (fun w => (Start.v rfl (Start.v rfl Start.nil))) fun w₀ => ?_
 refine GS (TN 0 (RN ?_));refine ⟨_, _, eff_box1 (n := 9) (d := 2) (k := 1000002) rfl rfl (by decide), fun b2 hb2 => ?_⟩
 have hBb2 := hb2.1
 refine TN 1 (RN ?_);refine ⟨_, _, eff_box1 (n := 9) (d := 3) (k := 1000003) rfl rfl (by decide), fun b3 hb3 => ?_⟩
 have hBb3 := hb3.1
 have hlt_b2_b3 : b2 < b3 := hb3.2 1000002 _ _ _ rfl
 refine TL (RVN 1 rfl ?_);refine QS (GT (RLV 1000003 U3 rfl rfl rfl ?_));refine RB rfl rfl rfl ?_;refine RZ (.bool false) (rfl) ?_;refine RN (A.no rfl ?_);refine QK (GT (RS (ok_makeFunc2 rfl rfl) ?_));refine RVN 1 rfl ?_;refine A.ret ?_;exact End.clos rfl hBb2 hlt_b2_b3 rfl (k₁ := 1000002) (k₂ := 1000003) rfl rfl
theorem Chunk1_seq {w₀ : World} {N m l p q g cap : Nat} {J : Nat → World → Prop} {arg : Nat → D} (hm : m = 64 * N) (hcap : m ≤ cap) (hmax : cap ≤ maxLen) (harg : ∀ i, i < N → arg i = .v (.slice (some ⟨g, 64 * i, none⟩) 64 64))
  (hq : Seqs Tryz.prog w₀ N l arg (fun _ => [(1000091, blk p 23 [.slice (some ⟨g, 0, none⟩) m cap]), (1000092, blk q 3 [.int .i64 64])]) J) {w : World} (h0 : J 0 w) :
  Calls Tryz.prog 157 (.func (.yield l) #[] #[] :: [.pointer (some ⟨p, 0, none⟩), .pointer (some ⟨q, 0, none⟩)] : List Value).toArray w fun e W => (∃ v, e = .returned v) ∧ J N W := by
 have hmx : maxLen = 9223372036854775807 := rfl
 obtain ⟨hb, hs, hV⟩ := hq.holds 0 w h0
 refine Calls.within (n := 31) (E := [(0, .v (.func (.yield l) #[] #[])), (1, .v (.pointer (some ⟨p, 0, none⟩))), (2, .v (.pointer (some ⟨q, 0, none⟩))), (1000090, jD (J 0)), (1000091, blk p 23 [.slice (some ⟨g, 0, none⟩) m cap]), (1000092, blk q 3 [.int .i64 64])]) Tryz.func157 rfl Tryz.ntmps157 (by simp) (by decide) hb hs ?_ ?_
 ·intro x hx
  simp only [List.mem_cons, List.not_mem_nil, or_false] at hx
  rcases hx with rfl | rfl | rfl | rfl | rfl | rfl
  ·exact .inr ⟨_, rfl, rfl⟩
  ·exact .inr ⟨_, rfl, rfl⟩
  ·exact .inr ⟨_, rfl, rfl⟩
  ·exact .inl ⟨vle rfl, jD_mk h0⟩
  ·exact .inl ⟨vle rfl, hV _ (by simp)⟩
  ·exact .inl ⟨vle rfl, hV _ (by simp)⟩
 refine GV rfl (A.block ?_);refine A.loop (ι := Nat) (fun i => i ≤ N) (fun i => [(0, .v (.func (.yield l) #[] #[])), (1, .v (.pointer (some ⟨p, 0, none⟩))), (2, .v (.pointer (some ⟨q, 0, none⟩))), (4, .v (.int .i64 ((64 * i : Nat) : Int))), (1000090, jD (J i)), (1000091, blk p 23 [.slice (some ⟨g, 0, none⟩) m cap]), (1000092, blk q 3 [.int .i64 64])]) (fun i => N - i) 0 ?_ ?_ ?_
 ·exact Nat.zero_le _
 ·exact (Sv [0,1,2,4,1000090,1000091,1000092] rfl)
 intro i hi
 refine QS (GT (RM rfl ?_));refine RLV 1000091 U23 rfl rfl rfl ?_;refine RS (ok_lenV U23 rfl) ?_;refine RVN 1 rfl ?_;refine A.cond rfl (fun hc9 => ?_) (fun hc9 => ?_)
 ·have hlt : i < N := by simp at hc9; omega
  refine QK (QSB (GTD (RLV 1000092 U3 rfl rfl rfl ?_)));refine RLV 1000091 U23 rfl rfl rfl ?_;refine RM rfl ?_;refine RS (ok_sliceS (l := 64 * i) (h := m) (m := cap) U23 info5 rfl (.inl ⟨_, _, rfl, rfl⟩) (.inr ⟨rfl, rfl, rfl⟩) (.inr ⟨rfl, rfl⟩) (by omega) (by omega) (by omega) (.inl (by omega))) ?_;refine RS (ok_lenV U23 rfl) ?_;refine RS (ok_min rfl rfl) ?_;refine RZ (.int .i64 ((64 : Nat) : Int)) (by congr 1; omega) ?_;refine RVN 1 rfl ?_;refine GS (TF 10 (RM rfl ?_));refine RLV 1000091 U23 rfl rfl rfl ?_;refine RV 4 rfl ?_;refine RZ (.int .i64 ((64 * i + 64 : Nat) : Int)) (by rw [wrap_i64 (by omega) (by omega)]; first | rfl | (congr 1; omega)) ?_;refine RV 3 rfl ?_;refine RZ (.int .i64 ((64 * i + 64 : Nat) : Int)) (by rw [wrap_i64 (by omega) (by omega)]; first | rfl | (congr 1; omega)) ?_;refine RS (ok_sliceS (l := 64 * i) (h := 64 * i + 64) (m := 64 * i + 64) U23 info5 rfl (.inl ⟨_, _, rfl, rfl⟩) (.inl ⟨_, _, rfl, rfl⟩) (.inl ⟨_, _, rfl, rfl⟩) (by omega) (by omega) (by omega) (.inl (by omega))) ?_;refine RZ (.slice (some ⟨g, 64 * i, none⟩) 64 64) (by rw [Nat.zero_add, show 64 * i + 64 - 64 * i = 64 from by omega]) ?_;refine RN ?_;refine ⟨_, eff_yield (vJ := 1000090) hq i hlt rfl rfl rfl (Le.eq (harg i hlt).symm) (by decide) (fun p hp => by simp only [List.mem_cons, List.not_mem_nil, or_false] at hp; rcases hp with rfl | rfl <;> exact vle rfl) (by decide) (Left.cons (t := 0) rfl (Stays.v _ _) (Left.cons (t := 1) rfl (Stays.v _ _) (Left.cons (t := 2) rfl (Stays.v _ _) (Left.cons (t := 4) rfl (Stays.v _ _) Left.nil)))), ?_⟩
  refine TL (RS (ok_not rfl) ?_);refine RZ (.bool false) (rfl) ?_;refine RN (A.no rfl ?_);refine A.skip (End.normal_block (EN (GTE (RM rfl ?_))));refine RLV 1000092 U3 rfl rfl rfl ?_;refine RB rfl rfl rfl ?_;refine RZ (.int .i64 ((64 * (i + 1) : Nat) : Int)) (by rw [wrap_i64 (by omega) (by omega)]; first | rfl | (congr 1; omega)) ?_;refine RVN 1 rfl ?_;refine End.sub (Sv [0,1,2,4,1000090,1000091,1000092] rfl) ?_;refine End.normal_then ?_;refine End.again (i + 1) ?_ ?_ ?_
  ·show _ ≤ _; omega
  ·show _ - _ < _ - _; omega
  ·exact (Sv [0,1,2,4,1000090,1000091,1000092] rfl)
 ·obtain rfl : i = N := by simp at hc9; omega
  refine A.exit (End.exit_then (End.exit_then (End.exit_here ?_)));exact End.seq (vJ := 1000090) hq rfl rfl
set_option maxHeartbeats 1000000 in
theorem Sum_fn (l : List UInt8) (hl : l.length ≤ 1000000) : FnM Tryz.prog 138 tabs [.v (stV l)] (.v (aggV ((sha l).map byteV))) := by
 refine FnM.of Tryz.func138 rfl (by kernel_rfl) Tryz.ntmps138 (by simp) (by decide) (fun w => [(0, .v (stV l)), (1900002, tab 2 (H8.list.map u32V)), (1900003, tab 3 (K64.map u32V))]) (fun w => (StartM.v rfl (StartM.m (by simp [tabs]) (by decide) (StartM.m (by simp [tabs]) (by decide) StartM.nil)))) fun w₀ hM => ?_
 have htab := tabs_hi hM
 refine GS (TN 0 (RN ?_));refine ZB 1000001 rfl fun b1 ⟨hBb1, hb1⟩ => ?_
 refine TN 1 (RN ?_);refine ZN 1000002 zero40 fun b2 ⟨hBb2, hb2⟩ => ?_
 refine TL (RN (GT (RL 1000001 U225 rfl rfl (size225.of (stL_length l)) ?_)));refine RS (ok_call (filled_fn (fullR l) (restL l) l.length (restL_length l) hl) (A1 rfl)) ?_;refine RVN 1 rfl ?_;refine GTD (RS (ok_field field225_1 (by decide) rfl) ?_);refine RV 2 rfl ?_;refine RS (ok_sliceX (l := 0) (h := l.length % 64) (m := l.length % 64) U223 info5 rfl (.inr ⟨rfl, rfl⟩) (.inl ⟨_, _, rfl, rfl⟩) (.inl ⟨_, _, rfl, rfl⟩) (by omega) (by omega) (by omega) (.inr rfl)) ?_;refine RL 1000001 U225 rfl rfl (size225.of (stL_length l)) ?_;refine RS (ok_call (ending_fn l hl) (A1 rfl)) ?_;refine RS ((ok_appendCap (s := 1000001) (m := l.length % 64) (us := (l.drop (64 * (l.length / 64))).map byteV) (vs := (endL l.length).map byteV) (by decide) U23 info5 (by decide) rfl rfl rfl (by rw [← restL_take, List.map_take, ← stL_rest, List.take_take, Nat.min_eq_left (by omega)]) (by rw [stL_length]; omega) rfl (Le.eq (byt_vals _)) (by rw [List.length_map, endL_length]; omega) (by rw [List.length_map, endL_length]; omega)).le (d' := own w₀.heap.size 5 (tailL l).length ((tailL l).map byteV)) (Le.eq (by rw [tailL_length, List.length_map, endL_length, ← List.map_append]; rfl))) ?_;refine RVN 1 rfl ?_;refine A.openOwn (t := 4) (k := 1000090) rfl (by rw [tailL_length]; omega) fun g cap ys hBg hcap1 hcap2 hgl hgx => ?_
 refine GS (TN 2 (RL 1000001 U225 rfl rfl (size225.of (stL_length l)) ?_));refine RS (ok_callM (compressed_fn l hl) (Sub.cons rfl (Sub.cons rfl KN)) tabs_v (Args.cons rfl LA Args.nil)) ?_;refine RN ?_;refine ZN 1000005 zero156 fun b5 ⟨hBb5, hb5⟩ => ?_
 refine TF 3 (RN ?_);refine ⟨_, eff_storeA (n := 42) (s := 1000005) (size156.of (R8.size _)) rfl rfl (all_u32 _) hBb5 rfl (by first | exact (R8.size _).trans (R8.size _).symm | rfl) (LT 1000001 rfl (LT 1000002 rfl (LT 1000090 rfl (LQ 1900002 rfl (LQ 1900003 rfl (LW [2,4,5] rfl)))))), ?_⟩
 refine TL (RN (QS (GT (RM rfl ?_))));refine RS (ok_callB (Chunk_fnB g (tailL l).length cap) (fun _ _ => closD_mono _ _) (A2 rfl rfl)) ?_;refine RN ?_;refine A.openClos (t := 22) (k₁ := 1000091) (k₂ := 1000092) rfl fun p q hBp hpq => ?_
 refine A.block ?_;refine A.range (gf := 157) (N := (tailL l).length / 64) (vL := 1000098) (vD := 1000099) (tp := 23) (lb := [.pointer (some ⟨p, 0, none⟩), .pointer (some ⟨q, 0, none⟩)]) (S := [(2, .v (.pointer (some ⟨b2,0, none⟩))), (5, .v (.pointer (some ⟨b5,0, none⟩)))])
  (V := fun i => [(1000002, blk b2 40 (List.replicate 32 (.int .u8 0))), (1000005, blk b5 156 ((chain (chain H8 l (l.length / 64)) (tailL l) i).list.map u32V)), (1000090, blk g 5 ((tailL l).map byteV ++ ys)), (1000091, blk p 23 [.slice (some ⟨g, 0, none⟩) (tailL l).length cap]), (1000092, blk q 3 [.int .i64 64]), (1900002, tab 2 (H8.list.map u32V)), (1900003, tab 3 (K64.map u32V))])
  (Eb := fun i => (6, .v (.slice (some ⟨g, 64 * i, none⟩) 64 64)) :: (23, .v (.slice (some ⟨g, 64 * i, none⟩) 64 64)) :: ([(1000002, blk b2 40 (List.replicate 32 (.int .u8 0))), (1000005, blk b5 156 ((chain (chain H8 l (l.length / 64)) (tailL l) i).list.map u32V)), (1000090, blk g 5 ((tailL l).map byteV ++ ys)), (1000091, blk p 23 [.slice (some ⟨g, 0, none⟩) (tailL l).length cap]), (1000092, blk q 3 [.int .i64 64]), (1900002, tab 2 (H8.list.map u32V)), (1900003, tab 3 (K64.map u32V))] ++ [(2, .v (.pointer (some ⟨b2,0, none⟩))), (5, .v (.pointer (some ⟨b5,0, none⟩)))]))
  (arg := fun i => .v (.slice (some ⟨g, 64 * i, none⟩) 64 64)) rfl ⟨_, Tryz.func157, by kernel_rfl, rfl⟩ (by decide) (by decide) (Sv [1000002,1000005,1000090,1000091,1000092,1900002,1900003,2,5] rfl)
  (fun x hx => by simp only [List.mem_cons, List.not_mem_nil, or_false] at hx; rcases hx with rfl | rfl <;> exact ⟨vlt rfl, .inl ⟨_, rfl⟩⟩)
  (fun i x hx => by simp only [List.mem_cons, List.not_mem_nil, or_false] at hx; rcases hx with rfl | rfl | rfl | rfl | rfl | rfl | rfl <;> exact vle rfl)
  (fun i l' _ x hx => by simp only [List.mem_cons, List.not_mem_nil, or_false] at hx; rcases hx with rfl | rfl | rfl | rfl | rfl | rfl | rfl <;> first | exact Firm.blk | exact Firm.tab)
  (fun i l' _ x hx => by simp only [List.mem_cons, List.mem_append, List.not_mem_nil, or_false] at hx; rcases hx with rfl | rfl | (rfl | rfl | rfl | rfl | rfl | rfl | rfl) | rfl | rfl <;> first | exact Firm.blk | exact Firm.tab | exact Firm.v _ _)
  (fun J l' w hq h0 => Chunk1_seq (g := g) (cap := cap) (tailL_mod l) hcap1 hcap2 (fun i _ => rfl) (hq.sub fun i x hx => by simp only [List.mem_cons, List.not_mem_nil, or_false] at hx ⊢; rcases hx with rfl | rfl <;> simp) h0)
  (fun i l' a w _ h => assign_one (by decide) (by decide) (by decide) h) ?_ ?_
 ·intro i l' D rr mm hi
  refine A.block (A.reg (by kernel_rfl) (by kernel_rfl) (.inr (by kernel_rfl)) ?_);refine TD 5 ?_;refine RL 1000005 U156 rfl rfl (size156.of (R8.size _)) ?_;refine RM rfl ?_;refine RS (ok_arrayAt U223 rfl (by decide)) ?_;refine RS (ok_loadP (s := 1000090) (by decide) U223 rfl size223 rfl rfl (by have := tailL_mod l; simp; omega) (tailL_block l hi)) ?_;refine RS (ok_callM (Compress_fn (chain (chain H8 l (l.length / 64)) (tailL l) i) (((tailL l).drop (64 * i)).take 64) (by have := tailL_mod l; simp; omega)) (Sub.cons rfl (Sub.cons rfl KN)) tabs_v (Args.cons rfl LA (Args.cons rfl LA Args.nil))) ?_;refine RZ (aggV ((chain (chain H8 l (l.length / 64)) (tailL l) (i + 1)).list.map u32V)) (rfl) ?_;refine RN ?_;refine ⟨_, eff_storeA (n := 42) (s := 1000005) (size156.of (R8.size _)) rfl rfl (all_u32 _) hBb5 rfl (by first | exact (R8.size _).trans (R8.size _).symm | rfl) (LT 1000002 rfl (LT 1000090 rfl (LT 1000091 rfl (LT 1000092 rfl (LeftS.cons (t := 1000098) rfl (Surv.rec rfl) (LeftS.cons (t := 1000099) rfl (Surv.rec rfl) (LQ 1900002 rfl (LQ 1900003 rfl LN)))))))), ?_⟩
  refine TL (RN (End.normal_block ?_));exact End.round (Sv [1000098,1000099,1000002,1000005,1000090,1000091,1000092,1900002,1900003] rfl) (fun x hx => by simp only [List.mem_cons, List.not_mem_nil, or_false] at hx; rcases hx with rfl | rfl | rfl | rfl | rfl | rfl | rfl | rfl | rfl <;> exact vle rfl) (by decide)
 ·intro D hD
  refine End.normal_block (EN (GS (TN 0 (RN ?_))));refine ZN 1000007 zero40 fun b7 ⟨hBb7, hb7⟩ => ?_
  have hlt_b2_b7 := hb7 1000002 b2 _ _ rfl
  refine TL (RN (QS (GT (RL 1000005 U156 rfl rfl (size156.of (R8.size _)) ?_))));refine RZ (aggV ((shaR l).list.map u32V)) (by rw [tailL_sha]) ?_;refine RVN 1 rfl ?_;refine A.block ?_;refine A.loop (ι := Nat) (fun i => i ≤ 8) (fun i => [(2, .v (.pointer (some ⟨b2,0, none⟩))), (7, .v (.pointer (some ⟨b7,0, none⟩))), (29, .v (aggV ((shaR l).list.map u32V))), (30, .v (.int .i64 ((i : Nat) : Int))), (1000002, blk b2 40 (List.replicate 32 (.int .u8 0))), (1000007, blk b7 40 (tableB ((sha l).take (4 * i)) 32)), (1000099, recD D (.deferred (some [])) 0), (1900002, tab 2 (H8.list.map u32V)), (1900003, tab 3 (K64.map u32V))]) (fun i => 8 - i) 0 ?_ ?_ ?_
  ·exact Nat.zero_le _
  ·exact (KC 2 rfl (KC 7 rfl (KC 29 rfl (KC 30 rfl (KC 1000002 rfl (KE 1000007 rfl (by rw [Nat.mul_zero, List.take_zero, ← tableB_nil]) (KC 1000099 rfl (KC 1900002 rfl (KC 1900003 rfl KN)))))))))
  intro i hi
  refine GV rfl (QS ?_);refine A.cond rfl (fun hc31 => ?_) (fun hc31 => ?_)
  ·have hlt : i < 8 := by simp at hc31; omega
   refine QK (QSB (GT (RM rfl ?_)));refine RS (ok_indexV1 i U156 U46 rfl info46 rfl rfl rfl hlt (map_get32 (by show i < 8; omega))) ?_;refine RVN 2 rfl ?_;refine A.reg (by kernel_rfl) (by kernel_rfl) (.inr (by kernel_rfl)) ?_;refine TD 5 ?_;refine RV 2 rfl ?_;refine RZ (.int .i64 ((4 * i : Nat) : Int)) (by rw [wrap_i64 (by omega) (by omega)]; first | rfl | (congr 1; omega)) ?_;refine RS (ok_sliceX (l := 4 * i) (h := 32) (m := 32) U40 info5 rfl (.inl ⟨_, _, rfl, rfl⟩) (.inr ⟨rfl, rfl, rfl⟩) (.inr ⟨rfl, rfl⟩) (by omega) (by omega) (by omega) (.inl (by omega))) ?_;refine RM rfl ?_;refine RS (ok_call (Put32_fn ((((shaR l).list.getD i 0).toNat : Nat) : Int) (Int.natCast_nonneg _) (by have := u32_lt ((shaR l).list.getD i 0); omega)) (A1 rfl)) ?_;refine RN ?_;refine ⟨_, eff_copyS (n := 42) (s := 1000007) (l := be 4 ((shaR l).list.getD i 0).toNat) U23 info5 rfl rfl (le_byt _ _) hBb7 rfl (by rw [tableB_length (by simp [sha_length]; omega)]; omega) (by decide) (LB 1000002 rfl (LeftS.cons (t := 1000099) rfl (Surv.rec rfl) (LQ 1900002 rfl (LQ 1900003 rfl (LW [2,7,29,30] rfl))))), ?_⟩
   refine TL (RN (End.sub (KC 2 rfl (KC 7 rfl (KC 29 rfl (KC 30 rfl (KC 1000002 rfl (KE 1000007 rfl (show blk b7 40 _ = blk b7 40 (tableB ((sha l).take (4 * (i + 1))) 32) from congrArg _ (sha_copy l hlt)) (KC 1000099 rfl (KC 1900002 rfl (KC 1900003 rfl KN))))))))) ?_));refine End.normal_block (EN (GTE (RB rfl rfl rfl ?_)));refine RZ (.int .i64 ((i + 1 : Nat) : Int)) (by rw [wrap_i64 (by omega) (by omega)]; first | rfl | (congr 1; omega)) ?_;refine RVN 1 rfl ?_;refine End.normal_then ?_;refine End.again (i + 1) ?_ ?_ ?_
   ·show _ ≤ _; omega
   ·show _ - _ < _ - _; omega
   ·exact (Sv [2,7,29,30,1000002,1000007,1000099,1900002,1900003] rfl)
  ·obtain rfl : i = 8 := by simp at hc31; omega
   refine A.exit (End.exit_then (End.exit_then (End.exit_here (EN (GS (TF 1 (RL 1000007 U40 rfl rfl (size40.of (by rw [tableB_length (by simp [sha_length])])) ?_)))))));refine RZ (aggV ((sha l).map byteV)) (by rw [tableB_full (by simp [sha_length]), List.take_of_length_le (by rw [sha_length]; decide)]) ?_;refine RN ?_;refine ⟨_, eff_storeA (n := 42) (s := 1000002) (size40.of (by rw [List.length_map, sha_length])) rfl rfl (all_bytes _) hBb2 rfl (by rw [List.length_map, sha_length, List.length_replicate]) (LV 2 rfl (LB 1000007 rfl (LeftS.cons (t := 1000099) rfl (Surv.rec rfl) (LQ 1900002 rfl (LQ 1900003 rfl LN))))), ?_⟩
   refine TL (RN (A.ret ?_));exact End.cell1C (D := D) (vD := 1000099) rfl hD rfl U40 rfl (size40.of (by rw [List.length_map, sha_length])) rfl (s := 1000002) rfl (fun _ => rfl)
end
section
set_option maxHeartbeats 400000 in
theorem Of_fn (ps : List (List UInt8)) (l : List UInt8) (hl : ps.flatten = l) (hps : ps.length ≤ 1000000) (htot : l.length ≤ 1000000) : FnM Tryz.prog 107 tabs [lst (ps.map byt)] (.v (aggV ((sha l).map byteV))) := by
 subst hl
 refine FnM.of Tryz.func107 rfl (by kernel_rfl) Tryz.ntmps107 (by simp) (by decide) (fun w => [(0, old w.heap.size (lst (ps.map byt))), (1900002, tab 2 (H8.list.map u32V)), (1900003, tab 3 (K64.map u32V))]) (fun w => (StartM.old rfl (StartM.m (by simp [tabs]) (by decide) (StartM.m (by simp [tabs]) (by decide) StartM.nil)))) fun w₀ hM => ?_
 have htab := tabs_hi hM
 refine GS (TN 0 (RN ?_));refine ZN 1000002 zero40 fun b2 ⟨hBb2, hb2⟩ => ?_
 refine TL (RN (GS (TN 1 (RS (ok_call New_fn Args.nil) ?_))));refine RN ?_;refine ZN 1000003 zero225 fun b3 ⟨hBb3, hb3⟩ => ?_
 refine TF 2 (RN ?_);refine ⟨_, eff_storeA (n := 19) (s := 1000003) (size225.of (stL_length _)) rfl rfl (stL_ones _) hBb3 rfl (by first | exact (stL_length _).trans (stL_length _).symm | exact (stL_length _).symm) (LO 0 rfl (LT 1000002 rfl (LQ 1900002 rfl (LQ 1900003 rfl (LW [2,3] rfl))))), ?_⟩
 refine TL (RN (QS (GT (RM rfl ?_))));refine RS (ok_len U222 rfl LA) ?_;refine RZ (.int .i64 (ps.length : Int)) (by simp) ?_;refine RVN 1 rfl ?_;refine A.block ?_;refine A.loop (ι := Nat) (fun i => i ≤ ps.length) (fun i => [(2, .v (.pointer (some ⟨b2,0, none⟩))), (3, .v (.pointer (some ⟨b3,0, none⟩))), (7, old w₀.heap.size (lst (ps.map byt))), (8, .v (.int .i64 (ps.length : Int))), (9, .v (.int .i64 (i : Int))), (1000002, blk b2 40 (List.replicate 32 (.int .u8 0))), (1000003, blk b3 225 (stL ((ps.take i).flatten))), (1900002, tab 2 (H8.list.map u32V)), (1900003, tab 3 (K64.map u32V))]) (fun i => ps.length - i) 0 ?_ ?_ ?_
 ·exact Nat.zero_le _
 ·exact (Sv [2,3,7,8,9,1000002,1000003,1900002,1900003] rfl)
 intro i hi
 refine GV rfl (QS ?_);refine A.cond rfl (fun hc10 => ?_) (fun hc10 => ?_)
 ·have hlt : i < ps.length := by simpa using hc10
  have hget : ps[i]? = some ps[i] := List.getElem?_eq_getElem hlt
  have hT := flatten_take_le ps (i + 1)
  rw [flatten_take_succ hget, List.length_append] at hT
  refine QK (QSB (GT (RS (ok_index (d := byt ps[i]) U222 info23 rfl LA rfl (by omega) (by simp [hlt])) ?_)));refine RS (ok_load U23 rfl rfl) ?_;refine RVN 1 rfl ?_;refine GE (TF 3 (RL 1000003 U225 rfl rfl (size225.of (stL_length _)) ?_));refine RM rfl ?_;refine RS (ok_callM (Write_fn ((ps.take i).flatten) ps[i] (by omega)) (Sub.cons rfl (Sub.cons rfl KN)) tabs_v (Args.cons rfl LA (Args.cons rfl LA Args.nil))) ?_;refine RZ (aggV (stL ((ps.take (i + 1)).flatten))) (by rw [flatten_take_succ hget]; rfl) ?_;refine RN ?_;refine ⟨_, eff_storeA (n := 19) (s := 1000003) (size225.of (stL_length _)) rfl rfl (stL_ones _) hBb3 rfl (by first | exact (stL_length _).trans (stL_length _).symm | exact (stL_length _).symm) (LO 7 rfl (LT 1000002 rfl (LQ 1900002 rfl (LQ 1900003 rfl (LW [2,3,8,9] rfl))))), ?_⟩
  refine TL (RN (End.normal_block (EN (GTE (RB rfl rfl rfl ?_)))));refine RZ (.int .i64 ((i + 1 : Nat) : Int)) (by rw [wrap_i64 (by omega) (by omega)]; first | rfl | (congr 1; omega)) ?_;refine RVN 1 rfl ?_;refine End.normal_then ?_;refine End.again (i + 1) ?_ ?_ ?_
  ·show _ ≤ _; omega
  ·show _ - _ < _ - _; omega
  ·exact (Sv [2,3,7,8,9,1000002,1000003,1900002,1900003] rfl)
 ·have hi2 : i = ps.length := by simp at hc10; omega
  subst hi2
  refine A.exit (End.exit_then (End.exit_then (End.exit_here (EN (GS (TF 2 (RL 1000003 U225 rfl rfl (size225.of (stL_length _)) ?_)))))));refine RZ (stV ps.flatten) (by rw [List.take_length]; rfl) ?_;refine RS (ok_callM (Sum_fn ps.flatten htot) (Sub.cons rfl (Sub.cons rfl KN)) tabs_v (Args.cons rfl LA Args.nil)) ?_;refine RN ?_;refine ⟨_, eff_storeA (n := 19) (s := 1000002) (size40.of (by rw [List.length_map, sha_length])) rfl rfl (all_bytes _) hBb2 rfl (by rw [List.length_map, sha_length, List.length_replicate]) (LV 2 rfl (LT 1000003 rfl (LQ 1900002 rfl (LQ 1900003 rfl LN)))), ?_⟩
  refine TL (RN (A.ret ?_));exact End.cell1 (s := 1000002) rfl U40 rfl (size40.of (by rw [List.length_map, sha_length])) rfl rfl (Le.refl _)
end
section
theorem rest_zero {α : Type} {L : List α} {z : α} {Z : α → Prop} (hz : ∀ a, Z a → a = z) (hL : L.length = 4) (h : ∀ i, i < 4 → Z (L.getD i z)) : L = List.replicate 4 z :=
 ext4 hL (by simp) z fun i hi => by rw [hz _ (h i hi), List.getD_eq_getElem?_getD, List.getElem?_replicate, if_pos hi]; rfl
open Classical in
noncomputable def ftN (n : Int) (x : NodT) : Int := if ¬ (1 ≤ n ∧ n ≤ 4096) then 1 else if x.ck ≠ 0 then x.ck else if ¬ IsP n.toNat x.l.toNat x.j then 17 else if ∀ i, pts n.toNat x.l.toNat x.j ≤ i → i < 4 → (x.r i).Z ∧ (x.e i).Z then 0 else 17
theorem ft_bad {n : Int} {x : NodT} (h : ¬ (1 ≤ n ∧ n ≤ 4096)) : ftN n x = 1 := if_pos h
theorem ft_ck {n : Nat} {x : NodT} (h1 : 1 ≤ n) (h2 : n ≤ 4096) (h : x.ck ≠ 0) : ftN n x = x.ck := by unfold ftN; rw [if_neg (by omega), if_pos h]
theorem ft_no {n : Nat} {x : NodT} (h1 : 1 ≤ n) (h2 : n ≤ 4096) (h : x.ck = 0) (hp : ¬ IsP n x.l.toNat x.j) : ftN n x = 17 := by unfold ftN; rw [if_neg (by omega), if_neg (by simp [h]), Int.toNat_natCast, if_pos hp]
theorem ft_ok {n : Nat} {x : NodT} (h1 : 1 ≤ n) (h2 : n ≤ 4096) (h : x.ck = 0) (hp : IsP n x.l.toNat x.j) (hz : ∀ i, pts n x.l.toNat x.j ≤ i → i < 4 → (x.r i).Z ∧ (x.e i).Z) : ftN n x = 0 := by unfold ftN; rw [if_neg (by omega), if_neg (by simp [h]), Int.toNat_natCast, if_neg (fun h => h hp), if_pos hz]
theorem ft_part {n : Nat} {x : NodT} (h1 : 1 ≤ n) (h2 : n ≤ 4096) (h : x.ck = 0) (hp : IsP n x.l.toNat x.j) (hz : ¬ ∀ i, pts n x.l.toNat x.j ≤ i → i < 4 → (x.r i).Z ∧ (x.e i).Z) : ftN n x = 17 := by unfold ftN; rw [if_neg (by omega), if_neg (by simp [h]), Int.toNat_natCast, if_neg (fun h => h hp), if_neg hz]
theorem NodT.Fit.rec_drop {x : NodT} (h : x.Fit) {m : Nat} (hm : m ≤ 4) : (x.v.drop (if 4 = m then 0 + 2 else 0 + 2 + m * 35)).take ((x.R.drop m).length * 35) = (x.R.drop m).flatMap RecT.v := by
 by_cases h4 : 4 = m
 ·subst h4
  rw [show x.R.drop 4 = [] from List.drop_eq_nil_of_le (by rw [h.lr]; exact Nat.le_refl _)]
  rw [List.length_nil, Nat.zero_mul, List.take_zero, List.flatMap_nil]
 ·rw [if_neg h4, Nat.zero_add, ← List.drop_drop]
  show List.take _ (List.drop (m * 35) (recsV x.R ++ entsV x.E)) = _
  rw [List.drop_append_of_le_length (by rw [h.lenR]; omega), recsV, flat_drop (RecT.lens h.fr), List.take_left' (flat_length (fun a ha => (h.fr a (List.mem_of_mem_drop ha)).len))]
theorem NodT.Fit.ent_drop {x : NodT} (h : x.Fit) {m : Nat} (hm : m ≤ 4) : (x.v.drop (if 4 = m then 0 + 142 else 0 + 142 + m * 33)).take ((x.E.drop m).length * 33) = (x.E.drop m).flatMap EntT.v := by
 by_cases h4 : 4 = m
 ·subst h4
  rw [show x.E.drop 4 = [] from List.drop_eq_nil_of_le (by rw [h.le]; exact Nat.le_refl _)]
  rw [List.length_nil, Nat.zero_mul, List.take_zero, List.flatMap_nil]
 ·rw [if_neg h4, Nat.zero_add, ← List.drop_drop]
  show List.take _ (List.drop (m * 33) (List.drop 140 (recsV x.R ++ entsV x.E))) = _
  rw [List.drop_left' h.lenR, entsV, flat_drop (EntT.lens h.fe), List.take_of_length_le (Nat.le_of_eq (flat_length (fun a ha => (h.fe a (List.mem_of_mem_drop ha)).len)))]
theorem drop_getD {α : Type} (L : List α) (m i : Nat) (z : α) : (L.drop m).getD i z = L.getD (m + i) z := by rw [List.getD_eq_getElem?_getD, List.getD_eq_getElem?_getD, List.getElem?_drop]
def usN (x : NodT) : Nat := cnt (fun i => if x.l.toNat = 0 then decide ((x.r i).x.toNat ≠ 0) else decide ((x.e i).x.toNat ≠ 0)) 4
theorem cnt_ext {p q : Nat → Bool} : ∀ {n : Nat}, (∀ i, i < n → p i = q i) → cnt p n = cnt q n
 | 0, _ => rfl
 | n + 1, h => by rw [cnt, cnt, cnt_ext (fun i hi => h i (by omega)), h n (by omega)]
theorem buildX (a : UInt8) (j : Nat) : Tryz.prog.built 57 [(0, byteV a), (1, .int .u32 (j : Int))] = some (NodT.emp a j).v.toArray := by kernel_rfl
abbrev tabN : Env := (1900001, tab 1 sizV) :: tabs
theorem tabN_v : ∀ p ∈ tabN, vbase ≤ p.1 := fun p hp => (List.mem_cons.1 hp).elim (fun h => by subst h; decide) (tabs_v p)
theorem tabN_hi {w : World} (h : ∀ p ∈ tabN, p.2.Of w undef) : 3 < w.heap.size := tabs_hi fun p hp => h p (List.mem_cons_of_mem _ hp)
end
section
theorem used_eq (a : UInt8) : Value.bool (((a.toNat : Nat) : Int) != 0) = .bool (decide (a.toNat ≠ 0)) := by
 congr 1
 rw [Bool.eq_iff_iff, bne_iff_ne, decide_eq_true_iff]
 omega
theorem nDigest_ok (x : NodT) (hx : x.Fit) (hk : x.ck = 0) : FnM Tryz.prog 79 tabN [.v (aggV x.v)] (.v (.tuple #[aggV ((sha x.bl).map byteV), .int .i64 0])) := by
 refine FnM.of Tryz.func79 rfl (by kernel_rfl) Tryz.ntmps79 (by simp) (by decide) (fun w => [(0, .v (aggV x.v)), (1900001, tab 1 (sizV)), (1900002, tab 2 (H8.list.map u32V)), (1900003, tab 3 (K64.map u32V))]) (fun w => (StartM.v rfl (StartM.m (by simp [tabN]) (by decide) (StartM.m (by simp [tabN]) (by decide) (StartM.m (by simp [tabN]) (by decide) StartM.nil))))) fun w₀ hM => ?_
 have htab := tabN_hi hM
 refine GS (TN 0 (RN ?_));refine ZB 1000001 rfl fun b1 ⟨hBb1, hb1⟩ => ?_
 refine TN 1 (RN ?_);refine ZN 1000002 zero40 fun b2 ⟨hBb2, hb2⟩ => ?_
 refine TL (RVN 1 rfl ?_);refine GT (RL 1000001 U57 rfl rfl (size57.of (hx.len)) ?_);refine RS (ok_callM (nPut_ok x hx hk) (Sub.cons rfl KN) tabS_v (A1 rfl)) ?_;refine RM rfl ?_;refine RS (ok_extract rfl rfl) ?_;refine RS (ok_extract rfl rfl) ?_;refine RVN 2 rfl ?_;refine QS (GT (RV 2 rfl ?_));refine RF ?_;refine RN (A.no rfl ?_);refine QK (GS (TF 3 (RM rfl ?_)));refine RS (ok_build [bytes x.bl (NodT.sz x.l.toNat)] U222 info23 rfl (by decide) (by decide) rfl ⟨rfl, rfl, trivial⟩ (fun d hd w x h => by simp only [List.mem_cons, List.not_mem_nil, or_false] at hd; subst hd; exact list_one h)) ?_;refine RS (ok_callM (Of_fn [x.bl] x.bl (by simp) (Nat.le_of_ble_eq_true rfl) (by rw [hx.bl_length]; have := sz_le x.l.toNat; omega)) (Sub.cons rfl (Sub.cons rfl KN)) tabs_v (Args.cons rfl (list_lst1 (le_byt _ _)) Args.nil)) ?_;refine RN ?_;refine ⟨_, eff_storeA (n := 18) (s := 1000002) (size40.of (by rw [List.length_map, sha_length])) rfl rfl (all_bytes _) hBb2 rfl (by rw [List.length_map, sha_length]; rfl) (LV 2 rfl (LT 1000001 rfl (LQ 1900001 rfl (LQ 1900002 rfl (LQ 1900003 rfl LN))))), ?_⟩
 refine TL (RVN 1 rfl ?_);refine A.ret ?_;exact End.cellV (s := 1000002) rfl U40 rfl (size40.of (by rw [List.length_map, sha_length])) rfl rfl rfl
theorem nFits_bad (m : Int) (hm : ¬ (1 ≤ m ∧ m ≤ 4096)) (x : NodT) (hx : x.Fit)  : Fn Tryz.prog 105 [.v (.int .i64 (m)), .v (aggV x.v)] (.v (.int .i64 (1))) := by
 refine FV Tryz.func105 rfl Tryz.ntmps105 rfl fun w₀ => ?_
 refine GS (TN 0 (RN ?_));refine ZB 1000003 rfl fun b3 ⟨hBb3, hb3⟩ => ?_
 refine TL (RVN 1 rfl ?_);refine QS (GT (RM rfl ?_));refine RS (ok_call (Check_bad m hm) (A1 rfl)) ?_;refine RVN 1 rfl ?_;refine GT (RV 2 rfl ?_);refine RT ?_;refine RN (A.yes rfl ?_);refine GV rfl (A.ret (End.ret_then ?_));exact ER rfl rfl
theorem nFits_ck (n : Nat) (h1 : 1 ≤ n) (h2 : n ≤ 4096) (x : NodT) (hx : x.Fit) (hk : x.ck ≠ 0) : Fn Tryz.prog 105 [.v (nI (n)), .v (aggV x.v)] (.v (.int .i64 (x.ck))) := by
 refine FV Tryz.func105 rfl Tryz.ntmps105 rfl fun w₀ => ?_
 refine GS (TN 0 (RN ?_));refine ZB 1000003 rfl fun b3 ⟨hBb3, hb3⟩ => ?_
 refine TL (RVN 1 rfl ?_);refine QS (GT (RM rfl ?_));refine RS (ok_call (Check_ok n h1 h2) (A1 rfl)) ?_;refine RVN 1 rfl ?_;refine GT (RV 2 rfl ?_);refine RF ?_;refine RN (A.no rfl ?_);refine QK (QS (GT (RL 1000003 U57 rfl rfl (size57.of (hx.len)) ?_)));refine RS (ok_call (nCheck_fn x hx) (A1 rfl)) ?_;refine RVN 1 rfl ?_;refine GT (RV 2 rfl ?_);refine RZ (.bool true) (by simp [hk]) ?_;refine RN (A.yes rfl ?_);refine GV rfl (A.ret (End.ret_then ?_));exact ER rfl rfl
theorem nFits_no (n : Nat) (h1 : 1 ≤ n) (h2 : n ≤ 4096) (x : NodT) (hx : x.Fit) (hk : x.ck = 0) (hp : ¬ IsP n x.l.toNat x.j) : Fn Tryz.prog 105 [.v (nI (n)), .v (aggV x.v)] (.v (.int .i64 (17))) := by
 refine FV Tryz.func105 rfl Tryz.ntmps105 rfl fun w₀ => ?_
 refine GS (TN 0 (RN ?_));refine ZB 1000003 rfl fun b3 ⟨hBb3, hb3⟩ => ?_
 refine TL (RVN 1 rfl ?_);refine QS (GT (RM rfl ?_));refine RS (ok_call (Check_ok n h1 h2) (A1 rfl)) ?_;refine RVN 1 rfl ?_;refine GT (RV 2 rfl ?_);refine RF ?_;refine RN (A.no rfl ?_);refine QK (QS (GT (RL 1000003 U57 rfl rfl (size57.of (hx.len)) ?_)));refine RS (ok_call (nCheck_fn x hx) (A1 rfl)) ?_;refine RVN 1 rfl ?_;refine GT (RV 2 rfl ?_);refine RZ (.bool false) (by simp [hk]) ?_;refine RN (A.no rfl ?_);refine QK (GT (RM rfl ?_));refine RS (ok_field field57_0 (by decide) rfl) ?_;refine RLV 1000003 U5 rfl rfl rfl ?_;refine RS (ok_conv U5 U3 rfl) ?_;refine RZ (nI (x.l.toNat)) (wrap_eq rfl (by have := x.l.toNat_lt; omega)) ?_;refine RS (ok_field field57_1 (by decide) rfl) ?_;refine RLV 1000003 U46 rfl rfl rfl ?_;refine RS (ok_conv U46 U3 rfl) ?_;refine RZ (nI (x.j)) (wrap_eq rfl (by have := hx.j; omega)) ?_;refine RS (ok_call (Parts_no n h1 h2 x.l.toNat x.j hp) (A3 rfl rfl rfl)) ?_;refine RVN 5 rfl ?_;refine A.sub (Sv [3,7,8,1000003] rfl) ?_;refine QS (GT (RV 2 rfl ?_));refine RT ?_;refine RVN 14 rfl ?_;refine A.yes rfl ?_;refine GV rfl (A.ret (End.ret_then ?_));exact ER rfl rfl
theorem nFits_r (n : Nat) (h1 : 1 ≤ n) (h2 : n ≤ 4096) (x : NodT) (hx : x.Fit) (hk : x.ck = 0) (hl : x.l.toNat ≤ hg n) (hj : x.j < un n (x.l.toNat + 1)) (hz : ¬ ∀ i, i < 4 - pts n x.l.toNat x.j → ((x.R.drop (pts n x.l.toNat x.j)).getD i RecT.zero).Z) : Fn Tryz.prog 105 [.v (nI (n)), .v (aggV x.v)] (.v (.int .i64 (17))) := by
 have hp := pts_pos hj
 refine FV Tryz.func105 rfl Tryz.ntmps105 rfl fun w₀ => ?_
 refine GS (TN 0 (RN ?_));refine ZB 1000003 rfl fun b3 ⟨hBb3, hb3⟩ => ?_
 refine TL (RVN 1 rfl ?_);refine QS (GT (RM rfl ?_));refine RS (ok_call (Check_ok n h1 h2) (A1 rfl)) ?_;refine RVN 1 rfl ?_;refine GT (RV 2 rfl ?_);refine RF ?_;refine RN (A.no rfl ?_);refine QK (QS (GT (RL 1000003 U57 rfl rfl (size57.of (hx.len)) ?_)));refine RS (ok_call (nCheck_fn x hx) (A1 rfl)) ?_;refine RVN 1 rfl ?_;refine GT (RV 2 rfl ?_);refine RZ (.bool false) (by simp [hk]) ?_;refine RN (A.no rfl ?_);refine QK (GT (RM rfl ?_));refine RS (ok_field field57_0 (by decide) rfl) ?_;refine RLV 1000003 U5 rfl rfl rfl ?_;refine RS (ok_conv U5 U3 rfl) ?_;refine RZ (nI (x.l.toNat)) (wrap_eq rfl (by have := x.l.toNat_lt; omega)) ?_;refine RS (ok_field field57_1 (by decide) rfl) ?_;refine RLV 1000003 U46 rfl rfl rfl ?_;refine RS (ok_conv U46 U3 rfl) ?_;refine RZ (nI (x.j)) (wrap_eq rfl (by have := hx.j; omega)) ?_;refine RS (ok_call (Parts_ok n h1 h2 x.l.toNat x.j hl hj) (A3 rfl rfl rfl)) ?_;refine RVN 5 rfl ?_;refine A.sub (Sv [3,7,8,1000003] rfl) ?_;refine QS (GT (RV 2 rfl ?_));refine RF ?_;refine RM rfl ?_;refine RQ (ok_field field57_2 (by decide) rfl) ?_;refine RQ (ok_move rfl) ?_;refine RQ (ok_sliceN (pts n x.l.toNat x.j) 4 U52 size51 rfl (.inl ⟨_, _, rfl, rfl⟩) (.inr ⟨rfl, rfl, rfl⟩) (.inr ⟨rfl, rfl⟩) hp.2.1 (Nat.le_refl _) (Nat.le_refl _)) ?_;refine RQ (ok_callK 1000003 (allZeroR_fn b3 57 (if 4 = pts n x.l.toNat x.j then 0 + 2 else 0 + 2 + pts n x.l.toNat x.j * 35) (4 - pts n x.l.toNat x.j) (4 - pts n x.l.toNat x.j) x.v (x.R.drop (pts n x.l.toNat x.j)) (by rw [List.length_drop, hx.lr]) (by omega) (fun a ha => hx.fr a (List.mem_of_mem_drop ha)) (hx.rec_drop hp.2.1) (by rw [hx.len]; have := hp.1; split <;> omega)) (by decide) rfl (A1 rfl)) ?_;refine RZ (.bool false) (congrArg Value.bool (decide_eq_false hz)) ?_;refine RVN 9 rfl ?_;refine A.yes rfl ?_;refine GV rfl (A.ret (End.ret_then ?_));exact ER rfl rfl
theorem nFits_e (n : Nat) (h1 : 1 ≤ n) (h2 : n ≤ 4096) (x : NodT) (hx : x.Fit) (hk : x.ck = 0) (hl : x.l.toNat ≤ hg n) (hj : x.j < un n (x.l.toNat + 1)) (hz : ∀ i, i < 4 - pts n x.l.toNat x.j → ((x.R.drop (pts n x.l.toNat x.j)).getD i RecT.zero).Z) (hzE : ¬ ∀ i, i < 4 - pts n x.l.toNat x.j → ((x.E.drop (pts n x.l.toNat x.j)).getD i EntT.zero).Z) : Fn Tryz.prog 105 [.v (nI (n)), .v (aggV x.v)] (.v (.int .i64 (17))) := by
 have hp := pts_pos hj
 refine FV Tryz.func105 rfl Tryz.ntmps105 rfl fun w₀ => ?_
 refine GS (TN 0 (RN ?_));refine ZB 1000003 rfl fun b3 ⟨hBb3, hb3⟩ => ?_
 refine TL (RVN 1 rfl ?_);refine QS (GT (RM rfl ?_));refine RS (ok_call (Check_ok n h1 h2) (A1 rfl)) ?_;refine RVN 1 rfl ?_;refine GT (RV 2 rfl ?_);refine RF ?_;refine RN (A.no rfl ?_);refine QK (QS (GT (RL 1000003 U57 rfl rfl (size57.of (hx.len)) ?_)));refine RS (ok_call (nCheck_fn x hx) (A1 rfl)) ?_;refine RVN 1 rfl ?_;refine GT (RV 2 rfl ?_);refine RZ (.bool false) (by simp [hk]) ?_;refine RN (A.no rfl ?_);refine QK (GT (RM rfl ?_));refine RS (ok_field field57_0 (by decide) rfl) ?_;refine RLV 1000003 U5 rfl rfl rfl ?_;refine RS (ok_conv U5 U3 rfl) ?_;refine RZ (nI (x.l.toNat)) (wrap_eq rfl (by have := x.l.toNat_lt; omega)) ?_;refine RS (ok_field field57_1 (by decide) rfl) ?_;refine RLV 1000003 U46 rfl rfl rfl ?_;refine RS (ok_conv U46 U3 rfl) ?_;refine RZ (nI (x.j)) (wrap_eq rfl (by have := hx.j; omega)) ?_;refine RS (ok_call (Parts_ok n h1 h2 x.l.toNat x.j hl hj) (A3 rfl rfl rfl)) ?_;refine RVN 5 rfl ?_;refine A.sub (Sv [3,7,8,1000003] rfl) ?_;refine QS (GT (RV 2 rfl ?_));refine RF ?_;refine RM rfl ?_;refine RQ (ok_field field57_2 (by decide) rfl) ?_;refine RQ (ok_move rfl) ?_;refine RQ (ok_sliceN (pts n x.l.toNat x.j) 4 U52 size51 rfl (.inl ⟨_, _, rfl, rfl⟩) (.inr ⟨rfl, rfl, rfl⟩) (.inr ⟨rfl, rfl⟩) hp.2.1 (Nat.le_refl _) (Nat.le_refl _)) ?_;refine RQ (ok_callK 1000003 (allZeroR_fn b3 57 (if 4 = pts n x.l.toNat x.j then 0 + 2 else 0 + 2 + pts n x.l.toNat x.j * 35) (4 - pts n x.l.toNat x.j) (4 - pts n x.l.toNat x.j) x.v (x.R.drop (pts n x.l.toNat x.j)) (by rw [List.length_drop, hx.lr]) (by omega) (fun a ha => hx.fr a (List.mem_of_mem_drop ha)) (hx.rec_drop hp.2.1) (by rw [hx.len]; have := hp.1; split <;> omega)) (by decide) rfl (A1 rfl)) ?_;refine RZ (.bool true) (congrArg Value.bool (decide_eq_true hz)) ?_;refine RV 3 rfl ?_;refine RQ (ok_field field57_3 (by decide) rfl) ?_;refine RQ (ok_move rfl) ?_;refine RQ (ok_sliceN (pts n x.l.toNat x.j) 4 U55 size54 rfl (.inl ⟨_, _, rfl, rfl⟩) (.inr ⟨rfl, rfl, rfl⟩) (.inr ⟨rfl, rfl⟩) hp.2.1 (Nat.le_refl _) (Nat.le_refl _)) ?_;refine RQ (ok_callK 1000003 (allZeroE_fn b3 57 (if 4 = pts n x.l.toNat x.j then 0 + 142 else 0 + 142 + pts n x.l.toNat x.j * 33) (4 - pts n x.l.toNat x.j) (4 - pts n x.l.toNat x.j) x.v (x.E.drop (pts n x.l.toNat x.j)) (by rw [List.length_drop, hx.le]) (by omega) (fun a ha => hx.fe a (List.mem_of_mem_drop ha)) (hx.ent_drop hp.2.1) (by rw [hx.len]; have := hp.1; split <;> omega)) (by decide) rfl (A1 rfl)) ?_;refine RZ (.bool false) (congrArg Value.bool (decide_eq_false hzE)) ?_;refine RVN 2 rfl ?_;refine A.yes rfl ?_;refine GV rfl (A.ret (End.ret_then ?_));exact ER rfl rfl
theorem nFits_ok (n : Nat) (h1 : 1 ≤ n) (h2 : n ≤ 4096) (x : NodT) (hx : x.Fit) (hk : x.ck = 0) (hl : x.l.toNat ≤ hg n) (hj : x.j < un n (x.l.toNat + 1)) (hz : ∀ i, i < 4 - pts n x.l.toNat x.j → ((x.R.drop (pts n x.l.toNat x.j)).getD i RecT.zero).Z) (hzE : ∀ i, i < 4 - pts n x.l.toNat x.j → ((x.E.drop (pts n x.l.toNat x.j)).getD i EntT.zero).Z) : Fn Tryz.prog 105 [.v (nI (n)), .v (aggV x.v)] (.v (.int .i64 (0))) := by
 have hp := pts_pos hj
 refine FV Tryz.func105 rfl Tryz.ntmps105 rfl fun w₀ => ?_
 refine GS (TN 0 (RN ?_));refine ZB 1000003 rfl fun b3 ⟨hBb3, hb3⟩ => ?_
 refine TL (RVN 1 rfl ?_);refine QS (GT (RM rfl ?_));refine RS (ok_call (Check_ok n h1 h2) (A1 rfl)) ?_;refine RVN 1 rfl ?_;refine GT (RV 2 rfl ?_);refine RF ?_;refine RN (A.no rfl ?_);refine QK (QS (GT (RL 1000003 U57 rfl rfl (size57.of (hx.len)) ?_)));refine RS (ok_call (nCheck_fn x hx) (A1 rfl)) ?_;refine RVN 1 rfl ?_;refine GT (RV 2 rfl ?_);refine RZ (.bool false) (by simp [hk]) ?_;refine RN (A.no rfl ?_);refine QK (GT (RM rfl ?_));refine RS (ok_field field57_0 (by decide) rfl) ?_;refine RLV 1000003 U5 rfl rfl rfl ?_;refine RS (ok_conv U5 U3 rfl) ?_;refine RZ (nI (x.l.toNat)) (wrap_eq rfl (by have := x.l.toNat_lt; omega)) ?_;refine RS (ok_field field57_1 (by decide) rfl) ?_;refine RLV 1000003 U46 rfl rfl rfl ?_;refine RS (ok_conv U46 U3 rfl) ?_;refine RZ (nI (x.j)) (wrap_eq rfl (by have := hx.j; omega)) ?_;refine RS (ok_call (Parts_ok n h1 h2 x.l.toNat x.j hl hj) (A3 rfl rfl rfl)) ?_;refine RVN 5 rfl ?_;refine A.sub (Sv [3,7,8,1000003] rfl) ?_;refine QS (GT (RV 2 rfl ?_));refine RF ?_;refine RM rfl ?_;refine RQ (ok_field field57_2 (by decide) rfl) ?_;refine RQ (ok_move rfl) ?_;refine RQ (ok_sliceN (pts n x.l.toNat x.j) 4 U52 size51 rfl (.inl ⟨_, _, rfl, rfl⟩) (.inr ⟨rfl, rfl, rfl⟩) (.inr ⟨rfl, rfl⟩) hp.2.1 (Nat.le_refl _) (Nat.le_refl _)) ?_;refine RQ (ok_callK 1000003 (allZeroR_fn b3 57 (if 4 = pts n x.l.toNat x.j then 0 + 2 else 0 + 2 + pts n x.l.toNat x.j * 35) (4 - pts n x.l.toNat x.j) (4 - pts n x.l.toNat x.j) x.v (x.R.drop (pts n x.l.toNat x.j)) (by rw [List.length_drop, hx.lr]) (by omega) (fun a ha => hx.fr a (List.mem_of_mem_drop ha)) (hx.rec_drop hp.2.1) (by rw [hx.len]; have := hp.1; split <;> omega)) (by decide) rfl (A1 rfl)) ?_;refine RZ (.bool true) (congrArg Value.bool (decide_eq_true hz)) ?_;refine RV 3 rfl ?_;refine RQ (ok_field field57_3 (by decide) rfl) ?_;refine RQ (ok_move rfl) ?_;refine RQ (ok_sliceN (pts n x.l.toNat x.j) 4 U55 size54 rfl (.inl ⟨_, _, rfl, rfl⟩) (.inr ⟨rfl, rfl, rfl⟩) (.inr ⟨rfl, rfl⟩) hp.2.1 (Nat.le_refl _) (Nat.le_refl _)) ?_;refine RQ (ok_callK 1000003 (allZeroE_fn b3 57 (if 4 = pts n x.l.toNat x.j then 0 + 142 else 0 + 142 + pts n x.l.toNat x.j * 33) (4 - pts n x.l.toNat x.j) (4 - pts n x.l.toNat x.j) x.v (x.E.drop (pts n x.l.toNat x.j)) (by rw [List.length_drop, hx.le]) (by omega) (fun a ha => hx.fe a (List.mem_of_mem_drop ha)) (hx.ent_drop hp.2.1) (by rw [hx.len]; have := hp.1; split <;> omega)) (by decide) rfl (A1 rfl)) ?_;refine RZ (.bool true) (congrArg Value.bool (decide_eq_true hzE)) ?_;refine RVN 2 rfl ?_;refine A.no rfl ?_;refine QK (GV rfl (A.ret ?_));exact ER rfl rfl
theorem nFits_fn (n : Int) (x : NodT) (hx : x.Fit) : Fn Tryz.prog 105 [.v (.int .i64 (n)), .v (aggV x.v)] (.v (.int .i64 (ftN n x))) := by
 by_cases hn : 1 ≤ n ∧ n ≤ 4096
 ·obtain ⟨m, rfl⟩ : ∃ m : Nat, n = (m : Int) := ⟨n.toNat, by omega⟩
  have h1 : 1 ≤ m := by omega
  have h2 : m ≤ 4096 := by omega
  by_cases hk : x.ck = 0
  ·by_cases hp : IsP m x.l.toNat x.j
   ·obtain ⟨hl, hj⟩ := isP_nat.1 hp
    have hb := pts_pos hj
    by_cases hzR : ∀ i, i < 4 - pts m x.l.toNat x.j → ((x.R.drop (pts m x.l.toNat x.j)).getD i RecT.zero).Z
    ·by_cases hzE : ∀ i, i < 4 - pts m x.l.toNat x.j → ((x.E.drop (pts m x.l.toNat x.j)).getD i EntT.zero).Z
     ·rw [ft_ok h1 h2 hk hp fun i ha hb' => ⟨by have := hzR (i - pts m x.l.toNat x.j) (by omega); rwa [drop_getD, Nat.add_sub_cancel' ha] at this, by have := hzE (i - pts m x.l.toNat x.j) (by omega); rwa [drop_getD, Nat.add_sub_cancel' ha] at this⟩]
      exact nFits_ok m h1 h2 x hx hk hl hj hzR hzE
     ·rw [ft_part h1 h2 hk hp fun h => hzE fun i hi => by rw [drop_getD]; exact (h _ (by omega) (by omega)).2]
      exact nFits_e m h1 h2 x hx hk hl hj hzR hzE
    ·rw [ft_part h1 h2 hk hp fun h => hzR fun i hi => by rw [drop_getD]; exact (h _ (by omega) (by omega)).1]
     exact nFits_r m h1 h2 x hx hk hl hj hzR
   ·rw [ft_no h1 h2 hk hp]; exact nFits_no m h1 h2 x hx hk hp
  ·rw [ft_ck h1 h2 hk]; exact nFits_ck m h1 h2 x hx hk
 ·rw [ft_bad hn]; exact nFits_bad n hn x hx
theorem nEmpty_fn (a : UInt8) (j : Nat) (hj : j < 4294967296) : Fn Tryz.prog 68 [.v (byteV a), .v (.int .u32 (j : Int))] (.v (aggV (NodT.emp a j).v)) := by
 refine FV Tryz.func68 rfl Tryz.ntmps68 rfl fun w₀ => ?_
 refine GS (TN 0 (RN ?_));refine ZN 1000004 zero57 fun b4 ⟨hBb4, hb4⟩ => ?_
 refine TL (RN (GS (TF 3 (RV 2 rfl ?_))));refine RS (ok_litS [(0, byteV a), (1, .int .u32 (j : Int))] (NodT.emp a j).v ⟨rfl, rfl, rfl, rfl, trivial⟩ (buildX _ _)) ?_;refine RN ?_;refine ⟨_, eff_storeA (n := 8) (s := 1000004) (size57.of ((NodT.emp_fit a hj).len)) rfl rfl (by first | exact NodT.one _ | exact RecT.one _ | exact EntT.one _ | exact RecT.all1 _ | exact EntT.all1 _ | exact all_byte _ | exact all_bytes _) hBb4 rfl (by first | rfl | (rw [(NodT.emp_fit a hj).len]; rfl)) (LV 4 rfl LN), ?_⟩
 refine TL (RN (A.ret ?_));exact End.cell1 (s := 1000004) rfl U57 rfl (size57.of ((NodT.emp_fit a hj).len)) rfl rfl (Le.refl _)
theorem usedR_fn (r : RecT) : Fn Tryz.prog 113 [.v (aggV r.v)] (.v (.bool (decide (r.x.toNat ≠ 0)))) := by
 refine FV Tryz.func113 rfl Tryz.ntmps113 rfl fun w₀ => ?_
 refine GS (TN 0 (RN ?_));refine ZB 1000001 rfl fun b1 ⟨hBb1, hb1⟩ => ?_
 refine TL (RVN 1 rfl ?_);refine GT (RS (ok_field field51_0 (by decide) rfl) ?_);refine RLV 1000001 U5 rfl rfl rfl ?_;refine RB rfl rfl rfl ?_;refine RZ (.bool (decide (r.x.toNat ≠ 0))) (used_eq _) ?_;refine RVN 1 rfl ?_;refine A.ret ?_;exact ER rfl rfl
theorem countR_fn (L : List RecT) (hL : L.length = 4) (hf : ∀ r ∈ L, r.Fit) : Fn Tryz.prog 112 [.v (aggV (recsV L)), .v (.func (.func 113) #[] #[])] (.v (nI (cnt (fun i => decide ((L.getD i RecT.zero).x.toNat ≠ 0)) 4))) := by
 refine FV Tryz.func112 rfl Tryz.ntmps112 rfl fun w₀ => ?_
 refine GS (TN 0 (RN ?_));refine ZB 1000002 rfl fun b2 ⟨hBb2, hb2⟩ => ?_
 refine TL (RVN 1 rfl ?_);refine GV rfl (QS (GT (RL 1000002 U52 rfl rfl (size52.of (by rw [flat_length (RecT.lens hf), hL])) ?_)));refine RVN 1 rfl ?_;refine A.block ?_;refine A.loop (ι := Nat) (fun i => i ≤ 4) (fun i => [(1, .v (.func (.func 113) #[] #[])), (5, .v (nI (cnt (fun i => decide ((L.getD i RecT.zero).x.toNat ≠ 0)) i))), (8, .v (aggV (recsV L))), (9, .v (nI (i)))]) (fun i => 4 - i) 0 ?_ ?_ ?_
 ·exact Nat.zero_le _
 ·exact (KC 1 rfl (KE 5 rfl (by rfl) (KC 8 rfl (KE 9 rfl (by rfl) KN))))
 intro i hG
 refine GV rfl (QS ?_);refine A.cond rfl (fun hc10 => ?_) (fun hc10 => ?_)
 ·have hi : i < 4 := by simp at hc10; omega
  refine QK (QSB (GS (TN 1 (RS (ok_indexAgg i U52 U51 rfl size51 rfl rfl rfl hi (flat_getD (RecT.lens hf) (by omega) RecT.zero)) ?_))));refine RN ?_;refine ZN 1000007 zero51 fun b7 ⟨hBb7, hb7⟩ => ?_
  refine TF 2 (RN ?_);refine ⟨_, eff_storeA (n := 19) (s := 1000007) (size51.of ((hf (L.getD i RecT.zero) (getD_mem4 hL hi _)).len)) rfl rfl (by first | exact NodT.one _ | exact RecT.one _ | exact EntT.one _ | exact RecT.all1 _ | exact EntT.all1 _ | exact all_byte _ | exact all_bytes _) hBb7 rfl (by first | rfl | (rw [(hf (L.getD i RecT.zero) (getD_mem4 hL hi _)).len]; rfl)) (LW [1,5,7,8,9] rfl), ?_⟩
  refine TL (RN (GT (RM rfl ?_)));refine RL 1000007 U51 rfl rfl (size51.of ((hf (L.getD i RecT.zero) (getD_mem4 hL hi _)).len)) ?_;refine RS (ok_callV0 (usedR_fn (L.getD i RecT.zero)) rfl (A1 rfl)) ?_;refine RN ?_;refine A.cond rfl (fun hc14 => ?_) (fun hc14 => ?_)
  ·have hy : (fun i => decide ((L.getD i RecT.zero).x.toNat ≠ 0)) i = true := hc14
   refine GTE (RV 2 rfl ?_);refine RZ (nI (cnt (fun i => decide ((L.getD i RecT.zero).x.toNat ≠ 0)) (i + 1))) (wrap_eq (by rw [cnt_y (p := (fun i => decide ((L.getD i RecT.zero).x.toNat ≠ 0))) hy]; omega) (by have := cnt_le (fun i => decide ((L.getD i RecT.zero).x.toNat ≠ 0)) (i + 1); omega)) ?_;refine RVN 1 rfl ?_;refine End.normal_block (EN (GTE (RB rfl rfl rfl ?_)));refine RZ (nI (i + 1)) (wrap_eq (by omega) (by omega)) ?_;refine RVN 1 rfl ?_;refine End.normal_then ?_;refine End.again (i + 1) ?_ ?_ ?_
   ·show _ ≤ _; omega
   ·show _ - _ < _ - _; omega
   ·exact (KC 1 rfl (KE 5 rfl (by first | rfl | rw [cnt_n (p := (fun i => decide ((L.getD i RecT.zero).x.toNat ≠ 0))) hy]) (KC 8 rfl (KC 9 rfl KN))))
  ·have hy : (fun i => decide ((L.getD i RecT.zero).x.toNat ≠ 0)) i = false := hc14
   refine A.skip (End.normal_block (EN (GTE (RB rfl rfl rfl ?_))));refine RZ (nI (i + 1)) (wrap_eq (by omega) (by omega)) ?_;refine RVN 1 rfl ?_;refine End.normal_then ?_;refine End.again (i + 1) ?_ ?_ ?_
   ·show _ ≤ _; omega
   ·show _ - _ < _ - _; omega
   ·exact (KC 1 rfl (KE 5 rfl (by first | rfl | rw [cnt_n (p := (fun i => decide ((L.getD i RecT.zero).x.toNat ≠ 0))) hy]) (KC 8 rfl (KC 9 rfl KN))))
 ·have hi2 : i = 4 := by simp at hc10; omega
  refine A.exit (End.exit_then (End.exit_then (End.exit_here (EN (GT (RM rfl ?_))))));refine RZ (nI (cnt (fun i => decide ((L.getD i RecT.zero).x.toNat ≠ 0)) 4)) (by rw [hi2]) ?_;refine RVN 1 rfl ?_;refine A.ret ?_;exact ER rfl rfl
theorem usedE_fn (r : EntT) : Fn Tryz.prog 115 [.v (aggV r.v)] (.v (.bool (decide (r.x.toNat ≠ 0)))) := by
 refine FV Tryz.func115 rfl Tryz.ntmps115 rfl fun w₀ => ?_
 refine GS (TN 0 (RN ?_));refine ZB 1000001 rfl fun b1 ⟨hBb1, hb1⟩ => ?_
 refine TL (RVN 1 rfl ?_);refine GT (RS (ok_field field54_0 (by decide) rfl) ?_);refine RLV 1000001 U5 rfl rfl rfl ?_;refine RB rfl rfl rfl ?_;refine RZ (.bool (decide (r.x.toNat ≠ 0))) (used_eq _) ?_;refine RVN 1 rfl ?_;refine A.ret ?_;exact ER rfl rfl
theorem countE_fn (L : List EntT) (hL : L.length = 4) (hf : ∀ r ∈ L, r.Fit) : Fn Tryz.prog 114 [.v (aggV (entsV L)), .v (.func (.func 115) #[] #[])] (.v (nI (cnt (fun i => decide ((L.getD i EntT.zero).x.toNat ≠ 0)) 4))) := by
 refine FV Tryz.func114 rfl Tryz.ntmps114 rfl fun w₀ => ?_
 refine GS (TN 0 (RN ?_));refine ZB 1000002 rfl fun b2 ⟨hBb2, hb2⟩ => ?_
 refine TL (RVN 1 rfl ?_);refine GV rfl (QS (GT (RL 1000002 U55 rfl rfl (size55.of (by rw [flat_length (EntT.lens hf), hL])) ?_)));refine RVN 1 rfl ?_;refine A.block ?_;refine A.loop (ι := Nat) (fun i => i ≤ 4) (fun i => [(1, .v (.func (.func 115) #[] #[])), (5, .v (nI (cnt (fun i => decide ((L.getD i EntT.zero).x.toNat ≠ 0)) i))), (8, .v (aggV (entsV L))), (9, .v (nI (i)))]) (fun i => 4 - i) 0 ?_ ?_ ?_
 ·exact Nat.zero_le _
 ·exact (KC 1 rfl (KE 5 rfl (by rfl) (KC 8 rfl (KE 9 rfl (by rfl) KN))))
 intro i hG
 refine GV rfl (QS ?_);refine A.cond rfl (fun hc10 => ?_) (fun hc10 => ?_)
 ·have hi : i < 4 := by simp at hc10; omega
  refine QK (QSB (GS (TN 1 (RS (ok_indexAgg i U55 U54 rfl size54 rfl rfl rfl hi (flat_getD (EntT.lens hf) (by omega) EntT.zero)) ?_))));refine RN ?_;refine ZN 1000007 zero54 fun b7 ⟨hBb7, hb7⟩ => ?_
  refine TF 2 (RN ?_);refine ⟨_, eff_storeA (n := 19) (s := 1000007) (size54.of ((hf (L.getD i EntT.zero) (getD_mem4 hL hi _)).len)) rfl rfl (by first | exact NodT.one _ | exact RecT.one _ | exact EntT.one _ | exact RecT.all1 _ | exact EntT.all1 _ | exact all_byte _ | exact all_bytes _) hBb7 rfl (by first | rfl | (rw [(hf (L.getD i EntT.zero) (getD_mem4 hL hi _)).len]; rfl)) (LW [1,5,7,8,9] rfl), ?_⟩
  refine TL (RN (GT (RM rfl ?_)));refine RL 1000007 U54 rfl rfl (size54.of ((hf (L.getD i EntT.zero) (getD_mem4 hL hi _)).len)) ?_;refine RS (ok_callV0 (usedE_fn (L.getD i EntT.zero)) rfl (A1 rfl)) ?_;refine RN ?_;refine A.cond rfl (fun hc14 => ?_) (fun hc14 => ?_)
  ·have hy : (fun i => decide ((L.getD i EntT.zero).x.toNat ≠ 0)) i = true := hc14
   refine GTE (RV 2 rfl ?_);refine RZ (nI (cnt (fun i => decide ((L.getD i EntT.zero).x.toNat ≠ 0)) (i + 1))) (wrap_eq (by rw [cnt_y (p := (fun i => decide ((L.getD i EntT.zero).x.toNat ≠ 0))) hy]; omega) (by have := cnt_le (fun i => decide ((L.getD i EntT.zero).x.toNat ≠ 0)) (i + 1); omega)) ?_;refine RVN 1 rfl ?_;refine End.normal_block (EN (GTE (RB rfl rfl rfl ?_)));refine RZ (nI (i + 1)) (wrap_eq (by omega) (by omega)) ?_;refine RVN 1 rfl ?_;refine End.normal_then ?_;refine End.again (i + 1) ?_ ?_ ?_
   ·show _ ≤ _; omega
   ·show _ - _ < _ - _; omega
   ·exact (KC 1 rfl (KE 5 rfl (by first | rfl | rw [cnt_n (p := (fun i => decide ((L.getD i EntT.zero).x.toNat ≠ 0))) hy]) (KC 8 rfl (KC 9 rfl KN))))
  ·have hy : (fun i => decide ((L.getD i EntT.zero).x.toNat ≠ 0)) i = false := hc14
   refine A.skip (End.normal_block (EN (GTE (RB rfl rfl rfl ?_))));refine RZ (nI (i + 1)) (wrap_eq (by omega) (by omega)) ?_;refine RVN 1 rfl ?_;refine End.normal_then ?_;refine End.again (i + 1) ?_ ?_ ?_
   ·show _ ≤ _; omega
   ·show _ - _ < _ - _; omega
   ·exact (KC 1 rfl (KE 5 rfl (by first | rfl | rw [cnt_n (p := (fun i => decide ((L.getD i EntT.zero).x.toNat ≠ 0))) hy]) (KC 8 rfl (KC 9 rfl KN))))
 ·have hi2 : i = 4 := by simp at hc10; omega
  refine A.exit (End.exit_then (End.exit_then (End.exit_here (EN (GT (RM rfl ?_))))));refine RZ (nI (cnt (fun i => decide ((L.getD i EntT.zero).x.toNat ≠ 0)) 4)) (by rw [hi2]) ?_;refine RVN 1 rfl ?_;refine A.ret ?_;exact ER rfl rfl
theorem nUsed_R (x : NodT) (hx : x.Fit) (h : x.l.toNat = 0) : Fn Tryz.prog 85 [.v (aggV x.v)] (.v (nI (usN x))) := by
 refine FV Tryz.func85 rfl Tryz.ntmps85 rfl fun w₀ => ?_
 refine GS (TN 0 (RN ?_));refine ZB 1000001 rfl fun b1 ⟨hBb1, hb1⟩ => ?_
 refine TL (RVN 1 rfl ?_);refine QS (GT (RL 1000001 U57 rfl rfl (size57.of (hx.len)) ?_));refine RS (ok_call (isGroup_y x hx h) (A1 rfl)) ?_;refine RN (A.yes rfl ?_);refine GT (RS (ok_field field57_2 (by decide) rfl) ?_);refine RS (ok_loadP (s := 1000001) (by decide) U52 rfl size52 rfl rfl (by rw [hx.len]; decide) (hx.getR)) ?_;refine RS (ok_call (countR_fn x.R hx.lr hx.fr) (A2 rfl rfl)) ?_;refine RZ (nI (usN x)) (congrArg nI (cnt_ext fun i _ => (if_pos h).symm)) ?_;refine RVN 1 rfl ?_;refine A.ret (End.ret_then ?_);exact ER rfl rfl
theorem nUsed_E (x : NodT) (hx : x.Fit) (h : ¬ x.l.toNat = 0) : Fn Tryz.prog 85 [.v (aggV x.v)] (.v (nI (usN x))) := by
 refine FV Tryz.func85 rfl Tryz.ntmps85 rfl fun w₀ => ?_
 refine GS (TN 0 (RN ?_));refine ZB 1000001 rfl fun b1 ⟨hBb1, hb1⟩ => ?_
 refine TL (RVN 1 rfl ?_);refine QS (GT (RL 1000001 U57 rfl rfl (size57.of (hx.len)) ?_));refine RS (ok_call (isGroup_n x hx h) (A1 rfl)) ?_;refine RN (A.no rfl ?_);refine QK (GT (RS (ok_field field57_3 (by decide) rfl) ?_));refine RS (ok_loadP (s := 1000001) (by decide) U55 rfl size55 rfl rfl (by rw [hx.len]; decide) (hx.getE)) ?_;refine RS (ok_call (countE_fn x.E hx.le hx.fe) (A2 rfl rfl)) ?_;refine RZ (nI (usN x)) (congrArg nI (cnt_ext fun i _ => (if_neg h).symm)) ?_;refine RVN 1 rfl ?_;refine A.ret ?_;exact ER rfl rfl
theorem nUsed_fn (x : NodT) (hx : x.Fit) : Fn Tryz.prog 85 [.v (aggV x.v)] (.v (nI (usN x))) := by
 by_cases h : x.l.toNat = 0
 ·exact nUsed_R x hx h
 ·exact nUsed_E x hx h
end
section
def lev (n i : Nat) : Nat := if i < tot n 1 then 0 else if i < tot n 2 then 1 else if i < tot n 3 then 2 else if i < tot n 4 then 3 else if i < tot n 5 then 4 else 5
def idx (n i : Nat) : Nat := i - tot n (lev n i)
theorem lev_mid {n l i : Nat} (hl : l ≤ 5) (h1 : tot n l ≤ i) (h2 : i < tot n (l + 1)) : lev n i = l := by
 have m1 := tot_mono (n := n) (show 0 ≤ 1 by decide)
 have m2 := tot_mono (n := n) (show 1 ≤ 2 by decide)
 have m3 := tot_mono (n := n) (show 2 ≤ 3 by decide)
 have m4 := tot_mono (n := n) (show 3 ≤ 4 by decide)
 have m5 := tot_mono (n := n) (show 4 ≤ 5 by decide)
 have hc : l = 0 ∨ l = 1 ∨ l = 2 ∨ l = 3 ∨ l = 4 ∨ l = 5 := by omega
 unfold lev
 rcases hc with rfl | rfl | rfl | rfl | rfl | rfl
 ·rw [if_pos h2]
 ·rw [if_neg (by omega), if_pos h2]
 ·rw [if_neg (by omega), if_neg (by omega), if_pos h2]
 ·rw [if_neg (by omega), if_neg (by omega), if_neg (by omega), if_pos h2]
 ·rw [if_neg (by omega), if_neg (by omega), if_neg (by omega), if_neg (by omega), if_pos h2]
 ·rw [if_neg (by omega), if_neg (by omega), if_neg (by omega), if_neg (by omega), if_neg (by omega)]
theorem lev_at {n l j : Nat} (hl : l ≤ 5) (hj : j < un n (l + 1)) : lev n (tot n l + j) = l := lev_mid hl (by omega) (by rw [tot_succ]; omega)
theorem idx_at {n l j : Nat} (hl : l ≤ 5) (hj : j < un n (l + 1)) : idx n (tot n l + j) = j := by unfold idx; rw [lev_at hl hj]; omega
theorem num_ex {n i : Nat} : ∀ {m : Nat}, i < tot n m → ∃ l j, l < m ∧ j < un n (l + 1) ∧ i = tot n l + j
 | 0, h => absurd h (Nat.not_lt_zero _)
 | m + 1, h => by
  by_cases hm : i < tot n m
  ·obtain ⟨l, j, h1, h2⟩ := num_ex hm
   exact ⟨l, j, by omega, h2⟩
  ·rw [tot_succ] at h
   exact ⟨m, i - tot n m, by omega, by omega, by omega⟩
theorem lev_ok {n i : Nat} (h : i < tot n (hg n + 1)) : lev n i ≤ hg n ∧ idx n i < un n (lev n i + 1) ∧ tot n (lev n i) + idx n i = i := by
 obtain ⟨l, j, h1, h2, rfl⟩ := num_ex h
 have := hg_le n
 rw [lev_at (by omega) h2, idx_at (by omega) h2]
 exact ⟨by omega, h2, rfl⟩
theorem numP_lt {n l j : Nat} (hl : l ≤ hg n) (hj : j < un n (l + 1)) : tot n l + j < tot n (hg n + 1) := by
 have := tot_mono (n := n) (show l + 1 ≤ hg n + 1 by omega)
 rw [tot_succ] at this
 omega
theorem tot_pos {n : Nat} (h : 1 ≤ n) : 0 < tot n (hg n + 1) := by have h1 := un_pos h (0 + 1); have := numP_lt (n := n) (l := 0) (j := 0) (Nat.zero_le _) (by omega); omega
theorem un_top {n : Nat} (h1 : 1 ≤ n) (h2 : n ≤ 4096) : tot n (hg n) + 0 + 1 = tot n (hg n + 1) := by rw [tot_succ, un_root h1 h2]
theorem kid_ok {n l j w : Nat} (hw : w < pts n (l + 1) j) : 4 * j + w < un n (l + 1) := by unfold pts at hw; omega
theorem kid_pts {n l j w : Nat} (h4 : w < 4) (h : 4 * j + w < un n (l + 1)) : w < pts n (l + 1) j := by unfold pts; omega
theorem pts_le (n l j : Nat) : pts n l j ≤ 4 := by unfold pts; omega
def nodsV (T : List NodT) : List Value := T.flatMap NodT.v
def ndAt (T : List NodT) (i : Nat) : NodT := T.getD i (NodT.emp 0 0)
def FitT (T : List NodT) : Prop := ∀ x ∈ T, x.Fit
theorem FitT.lens {T : List NodT} (h : FitT T) : ∀ x ∈ T, x.v.length = 274 := fun x hx => (h x hx).len
theorem nods_len {T : List NodT} (h : FitT T) : (nodsV T).length = T.length * 274 := flat_length h.lens
theorem FitT.at {T : List NodT} (h : FitT T) (i : Nat) : (ndAt T i).Fit := by
 unfold ndAt
 rw [List.getD_eq_getElem?_getD]
 cases hi : T[i]? with
 | none => exact NodT.emp_fit 0 (by decide)
 | some x => exact h x (List.mem_of_getElem? hi)
theorem nods_at {T : List NodT} (h : FitT T) {i : Nat} (hi : i < T.length) : ((nodsV T).drop (i * 274)).take 274 = (ndAt T i).v := flat_getD h.lens hi _
theorem nods_app (T U : List NodT) : nodsV (T ++ U) = nodsV T ++ nodsV U := List.flatMap_append
theorem nods_set {T : List NodT} (h : FitT T) {i : Nat} (hi : i < T.length) {x : NodT} (hx : x.Fit) : (nodsV T).take (i * 274) ++ x.v ++ (nodsV T).drop (i * 274 + 274) = nodsV (T.set i x) := flat_set h.lens hi hx.len
theorem FitT.nil : FitT [] := fun _ h => by cases h
theorem ndAt_app {T U : List NodT} {i : Nat} (h : i < T.length) : ndAt (T ++ U) i = ndAt T i := by
 unfold ndAt
 rw [List.getD_eq_getElem?_getD, List.getD_eq_getElem?_getD, List.getElem?_append_left h]
theorem ndAt_app2 {T U : List NodT} {i : Nat} : ndAt (T ++ U) (T.length + i) = ndAt U i := by
 unfold ndAt
 rw [List.getD_eq_getElem?_getD, List.getD_eq_getElem?_getD, List.getElem?_append_right (by omega), Nat.add_sub_cancel_left]
theorem ndAt_ext {T U : List NodT} (hl : T.length = U.length) (h : ∀ i, i < T.length → ndAt T i = ndAt U i) : T = U := by
 apply List.ext_getElem hl
 intro i h1 h2
 have := h i h1
 unfold ndAt at this
 rwa [List.getD_eq_getElem?_getD, List.getD_eq_getElem?_getD, List.getElem?_eq_getElem h1, List.getElem?_eq_getElem h2] at this
def zerosT (m : Nat) : List NodT := List.replicate m (NodT.emp 0 0)
def pgT (f : Nat → NodT) (m i : Nat) : List NodT := (List.range m).map fun k => if k < i then f k else NodT.emp 0 0
theorem pgT_length (f : Nat → NodT) (m i : Nat) : (pgT f m i).length = m := by simp [pgT]
theorem pgT_at {f : Nat → NodT} {m i k : Nat} (h : k < m) (hi : k < i) : ndAt (pgT f m i) k = f k := by
 unfold ndAt pgT
 rw [List.getD_eq_getElem?_getD, List.getElem?_map, List.getElem?_range h]
 simp [hi]
theorem pgT_zero (f : Nat → NodT) (m : Nat) : pgT f m 0 = zerosT m := by
 apply List.ext_getElem?; intro k
 by_cases hk : k < m <;> simp [pgT, zerosT, hk]
theorem pgT_set (f : Nat → NodT) {m i : Nat} (hi : i < m) : (pgT f m i).set i (f i) = pgT f m (i + 1) := by
 apply List.ext_getElem?; intro k
 rw [List.getElem?_set]
 by_cases hk : i = k
 ·subst hk
  simp [pgT, hi]
 ·rw [if_neg hk]
  by_cases hm : k < m
  ·simp only [pgT, List.getElem?_map, List.getElem?_range hm, Option.map_some]
   by_cases h1 : k < i
   ·rw [if_pos h1, if_pos (by omega)]
   ·rw [if_neg h1, if_neg (by omega)]
  ·simp [pgT, hm]
theorem pgT_fit {f : Nat → NodT} {m i : Nat} (h : ∀ k, k < m → k < i → (f k).Fit) : FitT (pgT f m i) := fun x hx => by
 obtain ⟨k, hk, rfl⟩ := List.mem_map.1 hx
 have hk := List.mem_range.1 hk
 by_cases hi : k < i
 ·simp only [if_pos hi]; exact h k hk hi
 ·simp only [if_neg hi]; exact NodT.emp_fit 0 (by decide)
def recAt (R : List RecT) (i : Nat) : RecT := R.getD i RecT.zero
def FitR (R : List RecT) : Prop := ∀ r ∈ R, r.Fit
theorem FitR.at {R : List RecT} (h : FitR R) (i : Nat) : (recAt R i).Fit := by
 unfold recAt
 rw [List.getD_eq_getElem?_getD]
 cases hi : R[i]? with
 | none => exact RecT.zero_fit
 | some x => exact h x (List.mem_of_getElem? hi)
theorem recs_len {R : List RecT} (h : FitR R) : (recsV R).length = R.length * 35 := flat_length (RecT.lens h)
theorem recs_at {R : List RecT} (h : FitR R) {i : Nat} (hi : i < R.length) : ((recsV R).drop (i * 35)).take 35 = (recAt R i).v := flat_getD (RecT.lens h) hi _
theorem recAt_big {R : List RecT} {i : Nat} (h : R.length ≤ i) : recAt R i = RecT.zero := by
 unfold recAt; rw [List.getD_eq_getElem?_getD, List.getElem?_eq_none h]; rfl
def emT (n : Nat) (T : List NodT) : Nat → Nat → Bool
 | 0, j => decide (usN (ndAt T j) = 0)
 | l + 1, j => decide (∀ w, w < pts n (l + 1) j → emT n T l (4 * j + w) = true)
def emF (n : Nat) (f : Nat → RecT) (l j : Nat) : Bool := decide (∀ i, i < n → i / 4 ^ (l + 1) = j → (f i).x.toNat = 0)
theorem emF_iff {n : Nat} {f : Nat → RecT} {l j : Nat} : emF n f l j = true ↔ ∀ i, i < n → i / 4 ^ (l + 1) = j → (f i).x.toNat = 0 := by unfold emF; rw [decide_eq_true_iff]
theorem div_pow (i l : Nat) : i / 4 ^ (l + 2) = i / 4 ^ (l + 1) / 4 := by rw [Nat.pow_succ, Nat.div_div_eq_div_mul]
theorem div_lt_un {n i : Nat} (h : i < n) (l : Nat) : i / 4 ^ l < un n l := (un_lt n l _).2 (Nat.lt_of_le_of_lt (Nat.div_mul_le_self i _) h)
theorem emF_up {n : Nat} {f : Nat → RecT} {l j : Nat} : emF n f (l + 1) j = true ↔ ∀ w, w < pts n (l + 1) j → emF n f l (4 * j + w) = true := by
 rw [emF_iff]
 constructor
 ·intro h w hw
  rw [emF_iff]
  intro i hi hij
  have h4 := pts_le n (l + 1) j
  exact h i hi (by rw [div_pow, hij]; omega)
 ·intro h i hi hij
  rw [div_pow] at hij
  have h1 := div_lt_un hi (l + 1)
  have hw : i / 4 ^ (l + 1) % 4 < pts n (l + 1) j := kid_pts (Nat.mod_lt _ (by decide)) (by omega)
  exact emF_iff.1 (h _ hw) i hi (by omega)
theorem cnt_zero {p : Nat → Bool} : ∀ {n : Nat}, cnt p n = 0 ↔ ∀ i, i < n → p i = false
 | 0 => ⟨fun _ i h => absurd h (Nat.not_lt_zero _), fun _ => rfl⟩
 | n + 1 => by
  rw [cnt]
  have ih := cnt_zero (p := p) (n := n)
  constructor
  ·intro h i hi
   have h1 : cnt p n = 0 := by omega
   have h2 : p n = false := by
    cases hp : p n with
    | false => rfl
    | true => rw [hp] at h; simp at h
   by_cases hin : i < n
   ·exact ih.1 h1 i hin
   ·obtain rfl : i = n := by omega
    exact h2
  ·intro h
   rw [ih.2 fun i hi => h i (by omega), h n (by omega)]; rfl
def recT (T : List NodT) (i : Nat) : RecT := (ndAt T (i / 4)).r (i % 4)
def Grps (n : Nat) (T : List NodT) : Prop := ∀ j, j < un n 1 → (ndAt T j).l.toNat = 0 ∧ ∀ w, pts n 0 j ≤ w → w < 4 → ((ndAt T j).r w).Z
theorem emT_eq {n : Nat} {T : List NodT} (h : Grps n T) : ∀ (l : Nat) {j : Nat}, j < un n (l + 1) → emT n T l j = emF n (recT T) l j
 | 0, j, hj => by
  obtain ⟨h0, hz⟩ := h j hj
  rw [Bool.eq_iff_iff, emF_iff]
  unfold emT
  rw [decide_eq_true_iff]
  unfold usN
  rw [cnt_zero]
  constructor
  ·intro hc i hi hij
   have hij : i / 4 = j := by simpa using hij
   have h1 := hc (i % 4) (Nat.mod_lt _ (by decide))
   rw [if_pos h0] at h1
   unfold recT
   rw [hij]
   simpa using h1
  ·intro hc w hw
   rw [if_pos h0]
   by_cases hp : w < pts n 0 j
   ·have hlt : 4 * j + w < n := by unfold pts un at hp; omega
    have := hc (4 * j + w) hlt (by simp; omega)
    unfold recT at this
    rw [show (4 * j + w) / 4 = j from by omega, show (4 * j + w) % 4 = w from by omega] at this
    simpa using this
   ·have := (hz w (by omega) hw).1
    simpa using this
 | l + 1, j, hj => by
  rw [Bool.eq_iff_iff, emF_up]
  unfold emT
  rw [decide_eq_true_iff]
  constructor
  ·intro hc w hw; rw [← emT_eq h l (kid_ok hw)]; exact hc w hw
  ·intro hc w hw; rw [emT_eq h l (kid_ok hw)]; exact hc w hw
def entR (s : Nat) (x : NodT) : EntT := ⟨UInt8.ofNat (s + 1), sha x.bl⟩
def entT (n : Nat) (T : List NodT) (S : List Nat) (l k : Nat) : EntT := if emT n T l k then EntT.zero else entR (S.getD (tot n l + k) 0) (ndAt T (tot n l + k))
def upT (n : Nat) (T : List NodT) (S : List Nat) (l j : Nat) : NodT := ⟨UInt8.ofNat (l + 1), j, zerosR, pg EntT.zero (fun w => entT n T S l (4 * j + w)) (pts n (l + 1) j)⟩
def grpR (R : List RecT) (j : Nat) : NodT := ⟨0, j, pg RecT.zero (fun w => recAt R (4 * j + w)) (pts R.length 0 j), zerosE⟩
def nodR (R : List RecT) (S : List Nat) : Nat → Nat → NodT
 | 0, j => grpR R j
 | l + 1, j => ⟨UInt8.ofNat (l + 1), j, zerosR, pg EntT.zero (fun w => if emF R.length (recAt R) l (4 * j + w) then EntT.zero else entR (S.getD (tot R.length l + (4 * j + w)) 0) (nodR R S l (4 * j + w))) (pts R.length (l + 1) j)⟩
theorem nodR_succ (R : List RecT) (S : List Nat) (l j : Nat) : nodR R S (l + 1) j = ⟨UInt8.ofNat (l + 1), j, zerosR, pg EntT.zero (fun w => if emF R.length (recAt R) l (4 * j + w) then EntT.zero else entR (S.getD (tot R.length l + (4 * j + w)) 0) (nodR R S l (4 * j + w))) (pts R.length (l + 1) j)⟩ := by rw [nodR]
theorem nodR_zero (R : List RecT) (S : List Nat) (j : Nat) : nodR R S 0 j = grpR R j := by rw [nodR]
theorem pg_fitR {f : Nat → RecT} {k : Nat} (h : ∀ i, (f i).Fit) : ∀ r ∈ pg RecT.zero f k, r.Fit := fun a ha => by
 rcases pg_mem ha with e | ⟨i, _, _, e⟩
 ·rw [e]; exact RecT.zero_fit
 ·rw [e]; exact h i
theorem pg_fitE {f : Nat → EntT} {k : Nat} (h : ∀ i, (f i).Fit) : ∀ r ∈ pg EntT.zero f k, r.Fit := fun a ha => by
 rcases pg_mem ha with e | ⟨i, _, _, e⟩
 ·rw [e]; exact EntT.zero_fit
 ·rw [e]; exact h i
def treR (R : List RecT) (S : List Nat) (m : Nat) : List NodT := (List.range m).map fun i => nodR R S (lev R.length i) (idx R.length i)
theorem treR_length (R : List RecT) (S : List Nat) (m : Nat) : (treR R S m).length = m := by simp [treR]
theorem treR_get {R : List RecT} {S : List Nat} {m i : Nat} (h : i < m) : ndAt (treR R S m) i = nodR R S (lev R.length i) (idx R.length i) := by
 unfold ndAt treR
 rw [List.getD_eq_getElem?_getD, List.getElem?_map, List.getElem?_range h]; rfl
theorem treR_at {R : List RecT} {S : List Nat} {m l j : Nat} (hl : l ≤ 5) (hj : j < un R.length (l + 1)) (h : tot R.length l + j < m) : ndAt (treR R S m) (tot R.length l + j) = nodR R S l j := by
 rw [treR_get h, lev_at hl hj, idx_at hl hj]
theorem entR_fit (s : Nat) (x : NodT) : (entR s x).Fit := ⟨sha_length _⟩
theorem sm8 {k : Nat} (h : k < 256) : (UInt8.ofNat k).toNat = k := by rw [UInt8.toNat_ofNat', Nat.mod_eq_of_lt (by omega)]
theorem grpR_fit {R : List RecT} (hR : FitR R) {j : Nat} (hj : j < 4294967296) : (grpR R j).Fit := ⟨hj, pg_length _ _ _, rfl, pg_fitR fun i => hR.at _, NodT.ze_fit⟩
theorem nodR_fit {R : List RecT} (hR : FitR R) (S : List Nat) {l j : Nat} (hj : j < 4294967296) : (nodR R S l j).Fit := by
 cases l with
 | zero => rw [nodR_zero]; exact grpR_fit hR hj
 | succ l =>
  rw [nodR_succ]
  refine ⟨hj, rfl, pg_length _ _ _, NodT.zr_fit, ?_⟩
  dsimp only
  refine pg_fitE fun i => ?_
  split
  ·exact EntT.zero_fit
  ·exact entR_fit _ _
theorem un_small {n : Nat} (h1 : 1 ≤ n) (h2 : n ≤ 4096) (k : Nat) : un n k < 4294967296 := by have := un_le h1 k; omega
theorem treR_fit {R : List RecT} (hR : FitR R) (S : List Nat) (h1 : 1 ≤ R.length) (h2 : R.length ≤ 4096) {m : Nat} (hm : m ≤ tot R.length (hg R.length + 1)) : FitT (treR R S m) := fun x hx => by
 obtain ⟨i, hi, rfl⟩ := List.mem_map.1 hx
 have hi := List.mem_range.1 hi
 obtain ⟨_, h4, _⟩ := lev_ok (n := R.length) (i := i) (by omega)
 exact nodR_fit hR S (by have := un_small h1 h2 (lev R.length i + 1); omega)
theorem nodR_l {R : List RecT} {S : List Nat} {l j : Nat} (hl : l ≤ 5) : (nodR R S l j).l.toNat = l := by
 cases l with
 | zero => rw [nodR_zero]; rfl
 | succ l => rw [nodR_succ]; exact sm8 (by omega)
theorem nodR_j {R : List RecT} {S : List Nat} {l j : Nat} : (nodR R S l j).j = j := by
 cases l with
 | zero => rw [nodR_zero]; rfl
 | succ l => rw [nodR_succ]
theorem grpR_r {R : List RecT} {j w : Nat} (hw : w < 4) : (grpR R j).r w = recAt R (4 * j + w) := by
 unfold NodT.r grpR
 dsimp only
 rw [pg_getD _ _ _ hw]
 split
 ·rfl
 ·rename_i h
  rw [recAt_big (by unfold pts un at h; omega)]
theorem nodR_e {R : List RecT} {S : List Nat} {l j w : Nat} (hw : w < 4) : (nodR R S (l + 1) j).e w = if w < pts R.length (l + 1) j then (if emF R.length (recAt R) l (4 * j + w) then EntT.zero else entR (S.getD (tot R.length l + (4 * j + w)) 0) (nodR R S l (4 * j + w))) else EntT.zero := by
 rw [nodR_succ]
 unfold NodT.e
 dsimp only
 rw [pg_getD _ _ _ hw]
theorem emF_congr {n : Nat} {f g : Nat → RecT} (h : ∀ i, i < n → f i = g i) (l j : Nat) : emF n f l j = emF n g l j := by
 rw [Bool.eq_iff_iff, emF_iff, emF_iff]
 constructor
 ·intro hc i hi hij; rw [← h i hi]; exact hc i hi hij
 ·intro hc i hi hij; rw [h i hi]; exact hc i hi hij
theorem grpR_Z {R : List RecT} {j w : Nat} (h : pts R.length 0 j ≤ w) (hw : w < 4) : ((grpR R j).r w).Z := by
 rw [grpR_r hw, recAt_big (by unfold pts un at h; omega)]
 exact RecT.z_iff.2 rfl
def GrpsOf (R : List RecT) (T : List NodT) : Prop := ∀ j, j < un R.length 1 → ndAt T j = grpR R j
theorem GrpsOf.grps {R : List RecT} {T : List NodT} (h : GrpsOf R T) : Grps R.length T := fun j hj => by
 rw [h j hj]
 exact ⟨rfl, fun w h1 h2 => grpR_Z h1 h2⟩
theorem GrpsOf.recs {R : List RecT} {T : List NodT} (h : GrpsOf R T) {i : Nat} (hi : i < R.length) : recT T i = recAt R i := by
 unfold recT
 have h1 : i / 4 < un R.length 1 := by have := div_lt_un hi 1; simpa using this
 rw [h _ h1, grpR_r (Nat.mod_lt _ (by decide))]
 congr 1; omega
theorem GrpsOf.em {R : List RecT} {T : List NodT} (h : GrpsOf R T) {l j : Nat} (hj : j < un R.length (l + 1)) : emT R.length T l j = emF R.length (recAt R) l j := by
 rw [emT_eq h.grps l hj]
 exact emF_congr (fun i hi => h.recs hi) l j
theorem tot_one (n : Nat) : tot n 1 = un n 1 := by rw [show (1 : Nat) = 0 + 1 from rfl, tot_succ]; simp [tot]
theorem treR_grps {R : List RecT} {S : List Nat} {m : Nat} (hm : tot R.length 1 ≤ m) : GrpsOf R (treR R S m) := fun j hj => by
 have h := treR_at (R := R) (S := S) (m := m) (l := 0) (j := j) (by decide) hj (by rw [tot_one] at hm; simp only [tot]; omega)
 simp only [tot, Nat.zero_add] at h
 exact h
theorem upT_eq {R : List RecT} {S : List Nat} {m l j : Nat} (hl : l < 5) (hm : m = tot R.length (l + 1)) : upT R.length (treR R S m) S l j = nodR R S (l + 1) j := by
 subst hm
 rw [nodR_succ]
 unfold upT
 have hp : ∀ w, w < pts R.length (l + 1) j → entT R.length (treR R S (tot R.length (l + 1))) S l (4 * j + w) = (if emF R.length (recAt R) l (4 * j + w) then EntT.zero else entR (S.getD (tot R.length l + (4 * j + w)) 0) (nodR R S l (4 * j + w))) := fun w h => by
  have hk := kid_ok h
  unfold entT
  rw [(treR_grps (S := S) (tot_mono (show 1 ≤ l + 1 by omega))).em hk, treR_at (by omega) hk (by rw [tot_succ]; omega)]
 congr 1
 unfold pg
 apply List.map_congr_left
 intro w hw
 split
 ·rename_i h
  exact hp w h
 ·rfl
def fstN (f : Nat → Int) : Nat → Int
 | 0 => 0
 | m + 1 => if fstN f m ≠ 0 then fstN f m else f m
theorem fstN_zero {f : Nat → Int} : ∀ {m : Nat}, fstN f m = 0 ↔ ∀ k, k < m → f k = 0
 | 0 => ⟨fun _ k h => absurd h (Nat.not_lt_zero _), fun _ => rfl⟩
 | m + 1 => by
  rw [fstN]
  have ih := fstN_zero (f := f) (m := m)
  constructor
  ·intro h k hk
   split at h
   ·rename_i h1; exact absurd h h1
   ·rename_i h1
    by_cases hm : k < m
    ·exact ih.1 (Classical.not_not.1 h1) k hm
    ·obtain rfl : k = m := by omega
     exact h
  ·intro h
   rw [if_neg (fun h1 => h1 (ih.2 fun k hk => h k (by omega)))]
   exact h m (by omega)
theorem fstN_at {f : Nat → Int} {i : Nat} (h : ∀ k, k < i → f k = 0) (h0 : f i ≠ 0) : ∀ {m : Nat}, i < m → fstN f m = f i
 | 0, hm => absurd hm (Nat.not_lt_zero _)
 | m + 1, hm => by
  rw [fstN]
  by_cases him : i < m
  ·rw [fstN_at h h0 him, if_pos h0]
  ·obtain rfl : i = m := by omega
   rw [if_neg (fun h1 => h1 (fstN_zero.2 h))]
theorem fstN_ex {f : Nat → Int} : ∀ {m : Nat}, fstN f m ≠ 0 → ∃ i, i < m ∧ (∀ k, k < i → f k = 0) ∧ f i ≠ 0 ∧ fstN f m = f i
 | 0, h => absurd rfl h
 | m + 1, h => by
  by_cases hm : fstN f m = 0
  ·have h2 : fstN f (m + 1) = f m := by rw [fstN, if_neg (by simp [hm])]
   exact ⟨m, by omega, fstN_zero.1 hm, by rw [← h2]; exact h, h2⟩
  ·obtain ⟨i, h1, h3, h4, h5⟩ := fstN_ex hm
   exact ⟨i, by omega, h3, h4, by rw [fstN, if_pos hm, h5]⟩
noncomputable def fitA (n l j : Nat) (x : NodT) : Bool := decide (x.l.toNat = l ∧ x.j = j ∧ ftN n x = 0)
theorem fitA_iff {n l j : Nat} {x : NodT} : fitA n l j x = true ↔ x.l.toNat = l ∧ x.j = j ∧ ftN n x = 0 := by unfold fitA; rw [decide_eq_true_iff]
open Classical in
noncomputable def badK (n : Nat) (T : List NodT) (l k : Nat) (e : EntT) : Bool := decide ((¬ (decide e.Z = emT n T l k)) ∨ (¬ e.Z ∧ e.t ≠ sha (ndAt T (tot n l + k)).bl))
def badE (n : Nat) (T : List NodT) : Nat → Nat → NodT → Prop
 | 0, _, _ => False
 | l + 1, j, x => ∃ w, w < pts n (l + 1) j ∧ badK n T l (4 * j + w) (x.e w) = true
open Classical in
noncomputable def errA (n : Nat) (T : List NodT) (l j : Nat) : Int := if fitA n l j (ndAt T (tot n l + j)) = false then 17 else if badE n T l j (ndAt T (tot n l + j)) then 9 else 0
noncomputable def errI (n : Nat) (T : List NodT) (i : Nat) : Int := errA n T (lev n i) (idx n i)
theorem errI_at {n : Nat} {T : List NodT} {l j : Nat} (hl : l ≤ 5) (hj : j < un n (l + 1)) : errI n T (tot n l + j) = errA n T l j := by unfold errI; rw [lev_at hl hj, idx_at hl hj]
noncomputable def chkT (n : Int) (T : List NodT) : Int := if ¬ (1 ≤ n ∧ n ≤ 4096) then 1 else if T.length ≠ tot n.toNat (hg n.toNat + 1) then 1 else fstN (errI n.toNat T) (tot n.toNat (hg n.toNat + 1))
theorem chk_bad {n : Int} {T : List NodT} (h : ¬ (1 ≤ n ∧ n ≤ 4096)) : chkT n T = 1 := if_pos h
theorem chk_len {n : Nat} {T : List NodT} (h1 : 1 ≤ n) (h2 : n ≤ 4096) (h : T.length ≠ tot n (hg n + 1)) : chkT n T = 1 := by unfold chkT; rw [if_neg (by omega), Int.toNat_natCast, if_pos h]
theorem chk_ok {n : Nat} {T : List NodT} (h1 : 1 ≤ n) (h2 : n ≤ 4096) (h : T.length = tot n (hg n + 1)) : chkT n T = fstN (errI n T) (tot n (hg n + 1)) := by unfold chkT; rw [if_neg (by omega), Int.toNat_natCast, if_neg (by simp [h])]
structure Tree (n : Nat) (T : List NodT) : Prop where
 h1 : 1 ≤ n
 h2 : n ≤ 4096
 len : T.length = tot n (hg n + 1)
 ok : ∀ l j, l ≤ hg n → j < un n (l + 1) → errA n T l j = 0
theorem Tree.chkT {n : Nat} {T : List NodT} (h : Tree n T) : chkT n T = 0 := by
 rw [chk_ok h.h1 h.h2 h.len]
 refine fstN_zero.2 fun i hi => ?_
 obtain ⟨a, b, _⟩ := lev_ok hi
 exact h.ok _ _ a b
theorem errA_fit {n : Nat} {T : List NodT} {l j : Nat} (h : errA n T l j = 0) : (ndAt T (tot n l + j)).l.toNat = l ∧ (ndAt T (tot n l + j)).j = j ∧ ftN n (ndAt T (tot n l + j)) = 0 := by
 unfold errA at h
 split at h
 ·cases h
 ·rename_i h1; exact fitA_iff.1 (by simpa using h1)
theorem errA_no {n : Nat} {T : List NodT} {l j : Nat} (h : errA n T l j = 0) : ¬ badE n T l j (ndAt T (tot n l + j)) := by
 unfold errA at h
 split at h
 ·cases h
 ·split at h
  ·cases h
  ·assumption
theorem ft_zero {n : Nat} {x : NodT} (h1 : 1 ≤ n) (h2 : n ≤ 4096) (h : ftN n x = 0) : x.ck = 0 ∧ IsP n x.l.toNat x.j ∧ ∀ i, pts n x.l.toNat x.j ≤ i → i < 4 → (x.r i).Z ∧ (x.e i).Z := by
 unfold ftN at h
 rw [if_neg (by omega)] at h
 split at h
 ·rename_i hk; exact absurd h hk
 ·rename_i hk
  rw [Int.toNat_natCast] at h
  split at h
  ·cases h
  ·rename_i hp
   split at h
   ·rename_i hz; exact ⟨Classical.not_not.1 hk, Classical.not_not.1 hp, hz⟩
   ·cases h
theorem Tree.fit {n : Nat} {T : List NodT} (h : Tree n T) {l j : Nat} (hl : l ≤ hg n) (hj : j < un n (l + 1)) : (ndAt T (tot n l + j)).l.toNat = l ∧ (ndAt T (tot n l + j)).j = j ∧ (ndAt T (tot n l + j)).ck = 0 ∧ ∀ i, pts n l j ≤ i → i < 4 → ((ndAt T (tot n l + j)).r i).Z ∧ ((ndAt T (tot n l + j)).e i).Z := by
 obtain ⟨h3, h4, h5⟩ := errA_fit (h.ok l j hl hj)
 obtain ⟨h6, _, h7⟩ := ft_zero h.h1 h.h2 h5
 exact ⟨h3, h4, h6, by rw [h3, h4] at h7; exact h7⟩
theorem tot_zero (n : Nat) : tot n 0 = 0 := rfl
theorem Tree.grps {n : Nat} {T : List NodT} (h : Tree n T) : Grps n T := fun j hj => by
 obtain ⟨h3, _, _, h7⟩ := h.fit (l := 0) (j := j) (Nat.zero_le _) hj
 rw [tot_zero, Nat.zero_add] at h3 h7
 exact ⟨h3, fun w h1 h2 => (h7 w h1 h2).1⟩
theorem Tree.ent {n : Nat} {T : List NodT} (h : Tree n T) {l j w : Nat} (hl : l + 1 ≤ hg n) (hj : j < un n (l + 2)) (hw : w < pts n (l + 1) j) : (((ndAt T (tot n (l + 1) + j)).e w).Z ↔ emT n T l (4 * j + w) = true) ∧ (¬ ((ndAt T (tot n (l + 1) + j)).e w).Z → ((ndAt T (tot n (l + 1) + j)).e w).t = sha (ndAt T (tot n l + (4 * j + w))).bl) := by
 have hb := errA_no (h.ok (l + 1) j hl hj)
 have hk : ¬ badK n T l (4 * j + w) ((ndAt T (tot n (l + 1) + j)).e w) = true := fun hk => hb ⟨w, hw, hk⟩
 unfold badK at hk
 rw [decide_eq_true_iff, not_or, Classical.not_not, not_and, Classical.not_not] at hk
 exact ⟨by rw [← hk.1, decide_eq_true_iff], hk.2⟩
end
end Go.Proofs.YtmkpekmhhbcifaaGreatDoor
