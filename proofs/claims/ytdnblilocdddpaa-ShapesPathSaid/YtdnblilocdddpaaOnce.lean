/-
  OWN WORDS: a drawn region of operations that yield known values, and of one store of a whole variable, at the function's own base, that need not be a barrier: gone through once in the order of the text; it then holds in every order that its edges allow. Nothing of one program stands here.
-/
import Derived.Test.YtdnblilocdddpaaRets
namespace Go.Proofs.Ytdnblilocdddpaa
open Go Go.RowKit
/-- What stands at operation i: operation p is the store of ys into block b, of type T; every other one yields vals[i], from what is known and stays known (Eb), and from what operations have yielded that stand before it. -/
inductive Onces (P : Program) (B : Nat) (ops : Array Oper) (vals : List Value) (Eb : Env) (p b : Nat) (T : TypeId) (ys : List Value) : Nat → List Oper → Prop
  | nil {i : Nat} : Onces P B ops vals Eb p b T ys i []
  | cons {i : Nat} {o : Oper} {rest : List Oper} {t : Nat} {v : Value} (E : Env) (hp : i ≠ p) (hv : vals[i]? = some v) (ht : o.dst = some t) (hd : Eb.look t = none ∨ Eb.look t = some (.v v)) (hf : FromN ops vals Eb o E) (hok : OpOk P B o E (.v v)) (hr : Onces P B ops vals Eb p b T ys (i + 1) rest) : Onces P B ops vals Eb p b T ys i (o :: rest)
  | store {o : Oper} {rest : List Oper} {x y : Operand} {ty : TypeId} {pos : String} {after : Array Edge} (E : Env) (ho : o = ⟨none, .store T x y, ty, pos, after, none⟩) (hf : FromN ops vals Eb o E) (hx : E.at x = some (.v (.pointer (some ⟨b, 0, none⟩)))) (hy : E.at y = some (.v (aggV ys))) (hr : Onces P B ops vals Eb p b T ys (p + 1) rest) : Onces P B ops vals Eb p b T ys p (o :: rest)
section
variable {P : Program} {n B : Nat} {ops : Array Oper} {κ : Cx} {Q : Exit → Act → World → Prop} {vals : List Value} {Eb : Env} {p b k : Nat} {T : TypeId} {zs ys : List Value}
theorem Onces.nth {m : Nat} {l : List Oper} (h : Onces P B ops vals Eb p b T ys m l) : ∀ {i : Nat} {o : Oper}, l[i]? = some o →
    (m + i ≠ p ∧ ∃ E v t, vals[m + i]? = some v ∧ o.dst = some t ∧ (Eb.look t = none ∨ Eb.look t = some (.v v)) ∧ FromN ops vals Eb o E ∧ OpOk P B o E (.v v)) ∨
    (m + i = p ∧ ∃ E x y ty pos after, o = ⟨none, .store T x y, ty, pos, after, none⟩ ∧ FromN ops vals Eb o E ∧ E.at x = some (.v (.pointer (some ⟨b, 0, none⟩))) ∧ E.at y = some (.v (aggV ys))) := by
  induction h with
  | nil => intro i o hi; simp at hi
  | @cons m o0 rest t v E hp hv ht hd hf hok _ ih =>
    intro i o hi
    cases i with
    | zero => simp at hi; subst hi; exact .inl ⟨hp, E, v, t, hv, ht, hd, hf, hok⟩
    | succ i =>
      have := ih (i := i) (by simpa using hi)
      rwa [show m + 1 + i = m + (i + 1) from by omega] at this
  | @store o0 rest x y ty pos after E ho hf hx hy _ ih =>
    intro i o hi
    cases i with
    | zero => simp at hi; subst hi; exact .inr ⟨rfl, E, x, y, ty, pos, after, ho, hf, hx, hy⟩
    | succ i =>
      have := ih (i := i) (by simpa using hi)
      rwa [show p + 1 + i = p + (i + 1) from by omega] at this
structure InvO (κ : Cx) (n B : Nat) (ops : Array Oper) (vals : List Value) (Eb : Env) (p b : Nat) (T : TypeId) (zs ys : List Value) (listed : Array Bool) (a : Act) (w : World) : Prop where
  st : St κ n B Eb a w
  lsize : listed.size = ops.size
  blk : b < w.heap.size ∧ w.heap[b]? = some (.cells (if listed.getD p false then ys else zs).toArray T (0, 0))
  got : ∀ (i : Nat) (o : Oper) (t : Nat) (v : Value), ops[i]? = some o → listed.getD i false = true → o.dst = some t → vals[i]? = some v → a.tmps.getD t undef = v
theorem wp_onces {w₀ : World} (hfit : fits n ops = true) (hd : downsN ops = true) (hn : Onces P B ops vals Eb p b T ys 0 ops.toList) (hb : B ≤ b) (hsz : SizeIs P T ys.length) (hlen : zs.length = ys.length) (h1 : ys.all (·.oneCell') = true) (hl : LeftS B T b Eb Eb) :
    ∀ (fuel : Nat) (listed : Array Bool) (a : Act) (w : World), unlisted ops listed ≤ fuel → Below B w₀ w → InvO κ n B ops vals Eb p b T zs ys listed a w → (∀ l a' w', Below B w₀ w' → InvO κ n B ops vals Eb p b T zs ys l a' w' → (∀ i, i < ops.size → l.getD i false = true) → Q .normal a' w') → wpAnyIn (FR κ.rd) 0 P .any ops Q fuel listed a w := by
  have hn0 : n ≤ vbase := fits_base hfit
  have hmin : ∀ (listed : Array Bool), listed.size = ops.size → Region.ready .any ops listed = [] → ∀ i, i < ops.size → listed.getD i false = true := by
    intro listed hl hr i
    induction i using Nat.strongRecOn with
    | _ i ih =>
      intro hi
      rcases hb : listed.getD i false with _ | _
      · exfalso
        have hdi := (downs_get hd (Array.getElem?_eq_getElem hi)).2.1
        have : i ∈ Region.ready .any ops listed := by
          rw [mem_ready]
          refine ⟨?_, ops[i], Array.getElem?_eq_getElem hi, fun e he hbd => ih e.on (hdi e he hbd) (Nat.lt_trans (hdi e he hbd) hi)⟩
          have : i < listed.size := by rw [hl]; exact hi
          simp [this] at hb ⊢
          exact hb
        rw [hr] at this
        cases this
      · rfl
  intro fuel
  induction fuel with
  | zero =>
    intro listed a w hc hbel I hQ'
    have hr : Region.ready .any ops listed = [] := by
      rcases hr : Region.ready .any ops listed with _ | ⟨i, l⟩
      · rfl
      · exfalso
        have hi : i ∈ Region.ready .any ops listed := by rw [hr]; exact List.mem_cons_self
        obtain ⟨hu, o, ho, _⟩ := mem_ready.1 hi
        have hpos : 0 < unlisted ops listed := List.countP_pos_iff.2 ⟨i, List.mem_range.2 (Array.getElem?_eq_some_iff.1 ho).1, by simp only [hu]; rfl⟩
        omega
    exact ⟨hr, hQ' listed a w hbel I (hmin listed I.lsize hr)⟩
  | succ fuel ih =>
    intro listed a w hc hbel I hQ'
    refine ⟨fun hr => hQ' listed a w hbel I (hmin listed I.lsize hr), fun i hi => ?_⟩
    obtain ⟨hu, o, ho, hall⟩ := mem_ready.1 hi
    have hlt : i < ops.size := (Array.getElem?_eq_some_iff.1 ho).1
    obtain ⟨hg, _, hdis⟩ := downs_get hd ho
    have huf : listed.getD i false = false := by
      have : i < listed.size := by rw [I.lsize]; exact hlt
      simp [this] at hu ⊢
      exact hu
    have hst : ∀ {E : Env}, FromN ops vals Eb o E → ∀ t d, E.look t = some d → d.Of w (a.tmps.getD t undef) := fun {E} h => by
      induction h with
      | nil => intro t d hl; cases hl
      | all => exact I.st.of
      | @base s e E h _ ih =>
        intro t d hl
        by_cases hts : s = t
        · subst hts; rw [look_here] at hl; injection hl with hl; subst hl; exact I.st.of _ _ h
        · rw [look_past _ _ hts] at hl; exact ih t d hl
      | @op s v E j he hdj hvj _ ih =>
        intro t d hl
        by_cases hts : s = t
        · subst hts; rw [look_here] at hl; injection hl with hl; subst hl
          obtain ⟨e, he1, he2⟩ := Array.any_eq_true'.1 he
          simp only [Bool.and_eq_true, beq_iff_eq] at he2
          have hl := hall e he1 he2.1
          rw [he2.2] at hl
          cases hq : ops[j]? with
          | none => rw [hq] at hdj; cases hdj
          | some q =>
            rw [hq] at hdj
            exact I.got j q _ _ hq hl hdj hvj
        · rw [look_past _ _ hts] at hl; exact ih t d hl
    have hcl : unlisted ops (listed.setIfInBounds i true) ≤ fuel := by
      have : unlisted ops (listed.setIfInBounds i true) < unlisted ops listed := by
        refine countP_lt (x := i) (fun y hy => ?_) (List.mem_range.2 hlt) (by simp only [hu]; rfl) ?_
        · by_cases hyi : i = y
          · subst hyi
            have : i < listed.size := by rw [I.lsize]; exact hlt
            simp [this] at hy
          · rw [getD_set_ne true hyi] at hy; exact hy
        · have : i < listed.size := by rw [I.lsize]; exact hlt
          simp [this]
      omega
    have hset : ∀ j, (listed.setIfInBounds i true).getD j false = true → j = i ∨ listed.getD j false = true := fun j hj => by
      by_cases hji : i = j
      · exact .inl hji.symm
      · rw [getD_set_ne false hji] at hj; exact .inr hj
    have hfi := fits_mem hfit (o := o) (by simpa using Array.mem_of_getElem? ho)
    rcases hn.nth (i := i) (o := o) (by simpa using ho) with ⟨hip, E, v, t, hv, ht, hdo, hfr, hok⟩ | ⟨hip, E, x, y, ty, pos, after, hoe, hfr, hx, hy⟩
    · rw [Nat.zero_add] at hv hip
      have hE : St κ n B E a w := ⟨I.st.base, I.st.defers, I.st.size, hst hfr⟩
      have htn : t < n := hfi.2 t ht
      refine wpOpR_step ho fun K hK => good_wp (E := E) (d := .v v) hE.base (hE.virt hn0) ht (.inl ⟨by simp [GuardIs, hg], hok⟩) (fun s e _ he => hE.of s e he) (fun s hs => by rw [I.st.size]; exact hfi.1 s hs) fun u w' gr hu' => ?_
      have hu' : u = v := hu'
      subst hu'
      refine hK _ _ (ih _ _ _ hcl (hbel.trans (Below.mono gr I.st.base)) ⟨⟨Nat.le_trans I.st.base gr.size, I.st.defers, by simp [Act.put, I.st.size], fun s d hs => ?_⟩, by simp [I.lsize], ⟨Nat.lt_of_lt_of_le I.blk.1 gr.size, ?_⟩, fun j q s z hj hl' hds hvs => ?_⟩ hQ')
      · by_cases hts : t = s
        · subst hts
          rw [getD_put_here _ _ (by rw [I.st.size]; exact htn)]
          rcases hdo with h | h
          · rw [h] at hs; cases hs
          · rw [h] at hs; injection hs with hs; subst hs; rfl
        · rw [getD_put_past _ _ hts]; exact (I.st.of s d hs).grow gr
      · rw [getD_set_ne false hip, gr.block b I.blk.1]; exact I.blk.2
      · rcases hset j hl' with rfl | hl2
        · rw [ho] at hj; injection hj with hj; subst hj
          rw [ht] at hds; injection hds with hds; subst hds
          rw [hv] at hvs; injection hvs with hvs; subst hvs
          rw [getD_put_here _ _ (by rw [I.st.size]; exact htn)]
        · by_cases hji : j = i
          · subst hji; rw [huf] at hl2; cases hl2
          · have hne : t ≠ s := fun he => hdis j q hj hji (by rw [ht]; simp) (by rw [ht, hds, he])
            rw [getD_put_past _ _ hne]
            exact I.got j q s z hj hl2 hds hvs
    · rw [Nat.zero_add] at hip
      subst hip
      have hE : St κ n B E a w := ⟨I.st.base, I.st.defers, I.st.size, hst hfr⟩
      have hxe : a.eval x = .pointer (some ⟨b, 0, none⟩) := hE.at_ x _ hx
      have hye : a.eval y = aggV ys := hE.at_ y _ hy
      have hh : w.heap[b]? = some (.cells zs.toArray T (0, 0)) := by have := I.blk.2; rw [huf] at this; simpa using this
      have hrun : (execOp a.eval ⟨none, .store T x y, ty, pos, after, none⟩).run P w = .ok .skip (w.setRow b ys.toArray) := by
        have := run_storeVar_row (P := P) w b T T zs.toArray ys.toArray hh (by simpa [SizeIs] using hsz) (by simpa using hlen) (by simpa using h1)
        simp [execOp, hxe, hye, Instr.storeAt, Instr.sureAddr, aggV, this]
      refine wpOpR_step ho fun K hK => ?_
      subst hoe
      rw [if_pos (by simp [Region.wanted])]
      refine opR (by nofun) ?_
      unfold Oper.wp
      rw [hrun, Oper.upon_skip]
      have hwr := Wrote.setRow (B := B) hb hh ys.toArray
      refine hK _ _ (ih _ _ _ hcl (hbel.trans (hwr.below I.st.base)) ⟨hl.st I.st hwr, by simp [I.lsize], ⟨by simpa using I.blk.1, ?_⟩, fun j q s z hj hl' hds hvs => ?_⟩ hQ')
      · have : (listed.setIfInBounds i true).getD i false = true := by simp [show i < listed.size by rw [I.lsize]; exact hlt]
        rw [this]; exact setRow_heap w b _ _ T _ hh
      · rcases hset j hl' with rfl | hl2
        · rw [ho] at hj; injection hj with hj; subst hj; cases hds
        · exact I.got j q s z hj hl2 hds hvs
theorem A.regsO {w₀ : World} {y : Code} {E E1 : Env} {id : Nat} (vals : List Value) (p : Nat) (hm : P.follows .mixedOrders = true) (hfit : fits n ops = true) (hd : downsN ops = true) (hn : Onces P w₀.heap.size ops vals Eb p b T ys 0 ops.toList) (hpl : p < ops.size) (hEb : Sub Eb E) (hk : E.look k = some (blk b T zs)) (hb : w₀.heap.size ≤ b) (hsz : SizeIs P T ys.length) (hlen : zs.length = ys.length) (h1 : ys.all (·.oneCell') = true)
    (hl : LeftS w₀.heap.size T b Eb Eb) (hf : FromE ops vals Eb E1) (h : A κ P w₀ n y ((k, blk b T ys) :: E1) Q) : A κ P w₀ n (.seq (.region id ops true) y) E Q := A.seq fun a w hg hst => by
  have hdr : Below w₀.heap.size w w.drew := (Below.refl _ w).drew
  obtain ⟨hk1, hk2⟩ := hst.of k _ hk
  have hfin : ∀ l a' w', Below w₀.heap.size w w' → InvO κ n w₀.heap.size ops vals Eb p b T zs ys l a' w' → (∀ i, i < ops.size → l.getD i false = true) → Exit.then (y.wpIn (FR κ.rd) 0 P Q) Q .normal a' w' := fun l a' w' hbel I hall => by
    have hI := I.blk
    rw [hall p hpl] at hI
    refine h a' w' (hg.trans hbel) (St.push ⟨I.st.base, I.st.defers, I.st.size, fun t d hl' => ?_⟩ (d := blk b T ys) hI)
    have key : ∀ t d, E1.look t = some d → d.Of w' (a'.tmps.getD t undef) := by
      clear hl' h
      induction hf with
      | nil => intro t d hl; cases hl
      | all => exact I.st.of
      | @base s e E h _ ih =>
        intro t d hl
        by_cases hts : s = t
        · subst hts; rw [look_here] at hl; injection hl with hl; subst hl; exact I.st.of _ _ h
        · rw [look_past _ _ hts] at hl; exact ih t d hl
      | @op s v E j hdj hvj _ ih =>
        intro t d hl
        by_cases hts : s = t
        · subst hts; rw [look_here] at hl; injection hl with hl; subst hl
          cases hq : ops[j]? with
          | none => rw [hq] at hdj; cases hdj
          | some q =>
            rw [hq] at hdj
            exact I.got j q _ _ hq (hall j (Array.getElem?_eq_some_iff.1 hq).1) hdj hvj
        · rw [look_past _ _ hts] at hl; exact ih t d hl
    exact key t d hl'
  refine wpIn_region_any hm (wp_onces (Q := Exit.then (y.wpIn (FR κ.rd) 0 P Q) Q) (w₀ := w) (B := w₀.heap.size) hfit hd hn hb hsz hlen h1 hl _ _ _ _ ?_ hdr ⟨(hst.sub hEb).grow (Grow.refl w).drew, by simp, ⟨hk1, ?_⟩, fun i o t v hi hl => ?_⟩ hfin)
  · refine Nat.le_trans List.countP_le_length ?_
    simp
  · have : (Array.replicate ops.size false).getD p false = false := by simp [hpl]
    rw [this]; exact hk2
  · simp [(Array.getElem?_eq_some_iff.1 hi).1] at hl
/-! ### Step by step -/
theorem FromN.more {o : Oper} {pre r : List Value} {E : Env} (h : FromN ops pre Eb o E) : FromN ops (pre ++ r) Eb o E := by
  induction h with
  | nil => exact .nil
  | all => exact .all
  | base h _ ih => exact .base h ih
  | op j he hd hv _ ih => exact .op j he hd (by rw [List.getElem?_append_left (List.getElem?_eq_some_iff.1 hv).1]; exact hv) ih
def OncesK (P : Program) (B : Nat) (ops : Array Oper) (Eb : Env) (p b : Nat) (T : TypeId) (ys : List Value) (pre : List Value) (l : List Oper) (C : List Value → Prop) : Prop := ∃ r, Onces P B ops (pre ++ r) Eb p b T ys pre.length l ∧ C (pre ++ r)
theorem OncesK.nil {pre : List Value} {C : List Value → Prop} (h : C pre) : OncesK P B ops Eb p b T ys pre [] C := ⟨[], .nil, by simpa using h⟩
theorem OncesK.cons {pre : List Value} {C : List Value → Prop} {o : Oper} {rest : List Oper} {t : Nat} {v : Value} (E : Env) (hp : Nat.beq pre.length p = false) (ht : o.dst = some t) (hd : Eb.look t = none ∨ Eb.look t = some (.v v)) (hf : FromN ops pre Eb o E) (hok : OpOk P B o E (.v v)) (hr : OncesK P B ops Eb p b T ys (pre ++ [v]) rest C) :
    OncesK P B ops Eb p b T ys pre (o :: rest) C := by
  obtain ⟨r, h1, h2⟩ := hr
  rw [List.append_assoc] at h1 h2
  rw [List.length_append] at h1
  refine ⟨[v] ++ r, .cons E (fun h => ?_) (by simp) ht hd hf.more hok h1, h2⟩
  rw [h] at hp; simp at hp
theorem OncesK.store {pre : List Value} {C : List Value → Prop} {rest : List Oper} {x y : Operand} {ty : TypeId} {pos : String} {after : Array Edge} (E : Env) (hp : pre.length = p) (hf : FromN ops pre Eb ⟨none, .store T x y, ty, pos, after, none⟩ E) (hx : E.at x = some (.v (.pointer (some ⟨b, 0, none⟩)))) (hy : E.at y = some (.v (aggV ys)))
    (hr : OncesK P B ops Eb p b T ys (pre ++ [undef]) rest C) : OncesK P B ops Eb p b T ys pre (⟨none, .store T x y, ty, pos, after, none⟩ :: rest) C := by
  obtain ⟨r, h1, h2⟩ := hr
  rw [List.append_assoc] at h1 h2
  rw [List.length_append] at h1
  subst hp
  exact ⟨[undef] ++ r, .store E rfl hf.more hx hy h1, h2⟩
theorem A.regsOK {w₀ : World} {y : Code} {E : Env} {id : Nat} (p : Nat) (hm : P.follows .mixedOrders = true) (hfit : fits n ops = true) (hd : downsN ops = true) (hpl : Nat.blt p ops.size = true) (hEb : Sub Eb E) (hk : E.look k = some (blk b T zs)) (hb : w₀.heap.size ≤ b) (hsz : SizeIs P T ys.length) (hlen : zs.length = ys.length) (h1 : ys.all (·.oneCell') = true)
    (hl : LeftS w₀.heap.size T b Eb Eb) (h : OncesK P w₀.heap.size ops Eb p b T ys [] ops.toList (fun vals => ∃ E1, FromE ops vals Eb E1 ∧ A κ P w₀ n y ((k, blk b T ys) :: E1) Q)) : A κ P w₀ n (.seq (.region id ops true) y) E Q := by
  obtain ⟨r, h2, E1, h3, h4⟩ := h
  exact A.regsO _ p hm hfit hd h2 (Nat.le_of_ble_eq_true hpl) hEb hk hb hsz hlen h1 hl h3 h4
end
end Go.Proofs.Ytdnblilocdddpaa
