/-
  OWN WORDS, PART FIVE: contracts that read package-level tables (facts on memory that hold at the call); structs: fields, part of a block read and written; slices told exactly; copy into part of a variable; append to a slice without room; an own row opened by name. Nothing of one program stands here.
-/
import Derived.Test.YtbmpjeheaemgmaaOps3
import Derived.ArgAppend
import Derived.Deep.MidRow
namespace Go.Proofs.Ytbmpjeheaemgmaa
open Go Go.RowKit
variable {κ : Cx}

/-! ### Contracts that read tables -/
theorem Stays.blk {B b : Nat} {e : TypeId} {xs : List Value} (h : b < B) : Stays B (Go.Proofs.Ytbmpjeheaemgmaa.blk b e xs) := fun _ _ _ g _ ⟨h1, h2⟩ => ⟨Nat.lt_of_lt_of_le h1 g.size, (g.block b h).trans h2⟩
/-- Called in a memory in which M holds, with values of which ds is known. -/
structure FnM (P : Program) (f : FuncId) (M : Env) (ds : List D) (d : D) : Prop where
  body : ∃ fn, P.funcs[f]? = some fn ∧ (fn.name == "runtime.NumGoroutine") = false ∧ fn.body.isNone = false
  calls : ∀ (vs : List Value) (w : World), (∀ p ∈ M, p.2.Of w undef) → vs.length = ds.length → (∀ (j : Nat) (e : D) (u : Value), ds[j]? = some e → vs[j]? = some u → e.Of w u) → Calls P f vs.toArray w (PostOf w d)
theorem Fn.m {P : Program} {f : FuncId} {M : Env} {ds : List D} {d : D} (h : Fn P f ds d) : FnM P f M ds d := ⟨h.body, fun vs w _ h1 h2 => h.calls vs w h1 h2⟩
theorem FnM.le {P : Program} {f : FuncId} {M : Env} {ds : List D} {d d' : D} (h : FnM P f M ds d) (hd : Le d d') : FnM P f M ds d' :=
  ⟨h.body, fun vs w h0 h1 h2 => (h.calls vs w h0 h1 h2).mono fun _ _ ⟨x, he, g, hx⟩ => ⟨x, he, g, hd.of hx⟩⟩
section
variable {P : Program} {B : Nat} {E : Env} {dst : Option Tmp} {ty : TypeId} {pos : String} {after : Array Edge} {guard : Option (Nat × Bool)}
end
/-- Slots, and facts on memory, at a function's beginning. -/
def StartM (B : Nat) (ds : List D) (M : Env) (E : Env) : Prop := ∀ p ∈ E, (p ∈ M ∧ vbase ≤ p.1) ∨ ∃ d, ds[p.1]? = some d ∧ (p.2 = d ∨ p.2 = old B d)
theorem StartM.nil {B : Nat} {ds : List D} {M : Env} : StartM B ds M [] := fun _ h => by cases h
theorem StartM.m {B : Nat} {ds : List D} {M : Env} {t : Nat} {d : D} {E : Env} (h : (t, d) ∈ M) (ht : vbase ≤ t) (hr : StartM B ds M E) : StartM B ds M ((t, d) :: E) := fun p hp => by
  rcases List.mem_cons.1 hp with rfl | hp
  · exact .inl ⟨h, ht⟩
  · exact hr p hp
theorem StartM.v {B : Nat} {ds : List D} {M : Env} {t : Nat} {d : D} {E : Env} (h : ds[t]? = some d) (hr : StartM B ds M E) : StartM B ds M ((t, d) :: E) := fun p hp => by
  rcases List.mem_cons.1 hp with rfl | hp
  · exact .inr ⟨d, h, .inl rfl⟩
  · exact hr p hp
theorem StartM.old {B : Nat} {ds : List D} {M : Env} {t : Nat} {d : D} {E : Env} (h : ds[t]? = some d) (hr : StartM B ds M E) : StartM B ds M ((t, Go.Proofs.Ytbmpjeheaemgmaa.old B d) :: E) := fun p hp => by
  rcases List.mem_cons.1 hp with rfl | hp
  · exact .inr ⟨d, h, .inr rfl⟩
  · exact hr p hp
theorem FnM.of {P : Program} {n : Nat} {f : FuncId} {fn : Func} {c : Code} {M : Env} {ds : List D} {d : D} (hf : P.funcs[f]? = some fn) (hb : fn.body = some c) (hname : (fn.name == "runtime.NumGoroutine") = false) (hn : fn.ntmps = n) (hds : ds.length ≤ n) (hnv : n ≤ vbase) (E : World → Env)
    (hE : ∀ w, StartM w.heap.size ds M (E w)) (h : ∀ w₀, (∀ p ∈ M, p.2.Of w₀ undef) → A Cx.top P w₀ n c (E w₀) (BP P fn (PostOf w₀ d))) : FnM P f M ds d := by
  refine ⟨⟨fn, hf, hname, by rw [hb]; rfl⟩, fun vs w hM hl hv => callsIn_FR.1 (callsIn_of_wp_marks (F := FR none) (n := 0) hf hb trivial (h w hM _ w (Below.refl _ _) ⟨Nat.le_refl _, rfl, ?_, fun t e he => ?_⟩))⟩
  · simp [hl, hn]; omega
  · show e.Of w ((vs.toArray ++ Array.replicate (fn.ntmps - vs.toArray.size) undef).getD t undef)
    rcases hE w _ (look_mem he) with ⟨hm, ht⟩ | ⟨d', hd', hor⟩
    · have h1 := hM _ hm
      rwa [Array.getD_eq_getD_getElem?, Array.getElem?_eq_none (by simp [hl, hn]; simp only at ht; omega)]
    · have hlt : t < vs.length := by have := (List.getElem?_eq_some_iff.1 hd').1; simp at this; omega
      have hget : (vs.toArray ++ Array.replicate (fn.ntmps - vs.toArray.size) undef).getD t undef = vs[t] := by
        rw [Array.getD_eq_getD_getElem?, Array.getElem?_append_left (by simpa using hlt)]
        simp [hlt]
      rw [hget]
      have h1 := hv t d' vs[t] hd' (List.getElem?_eq_getElem hlt)
      rcases hor with h2 | h2
      · simp only at h2; rw [h2]; exact h1
      · simp only at h2; rw [h2]; exact ⟨Nat.le_refl _, h1⟩

/-! ### Structs -/
def FieldIs (P : Program) (T : TypeId) (i off m : Nat) : Prop := (P.underlying T).bind (fun d => match d with | .struct fs => (fs[i]?).bind fun f => (P.info? f.type).map fun t => (f.offset, t.size) | _ => none) = some (off, m)
theorem add_lit0 (b o j : Nat) : (⟨b, o, none⟩ : Addr).add j = ⟨b, o + j, none⟩ := by unfold Addr.add; split <;> simp_all
section
variable {P : Program} {n B : Nat} {ops : Array Oper} {E : Env} {dst : Option Tmp} {ty : TypeId} {pos : String} {after : Array Edge} {guard : Option (Nat × Bool)}
/-- A field's address. -/
theorem ok_field {t : TypeId} {x : Operand} {i off m b o : Nat} (hf : FieldIs P t i off m) (hm : 0 < m) (hx : E.at x = some (.v (.pointer (some ⟨b, o, none⟩)))) :
    OpOk P B ⟨dst, .fieldAddr t x i, ty, pos, after, guard⟩ E (.v (.pointer (some ⟨b, o + off, none⟩))) := fun ρ w _ _ hρ => by
  have h1 : ρ x = _ := hρ x (by simp [Op.operands]) _ hx
  unfold FieldIs at hf
  cases hu : P.underlying t with
  | none => rw [hu] at hf; cases hf
  | some d =>
    rw [hu] at hf
    cases d with
    | struct fs =>
      simp only [Option.bind_some] at hf
      cases hfi : fs[i]? with
      | none => rw [hfi] at hf; cases hf
      | some f =>
        rw [hfi] at hf
        simp only [Option.bind_some] at hf
        cases hi : P.info? f.type with
        | none => rw [hi] at hf; cases hf
        | some inf =>
          rw [hi] at hf
          simp only [Option.map_some, Option.some.injEq, Prod.mk.injEq] at hf
          obtain ⟨h2, h3⟩ := hf
          refine out_val (w' := w) ?_ ⟨Grow.refl w, rfl⟩
          have : ¬ inf.size = 0 := by omega
          simp [execOp, h1, Instr.fieldAt, run_underlying hu, hfi, Instr.sureAddr, fieldPlace, sizeOf, typeInfo, hi, this, add_lit0, h2]
    | _ => simp at hf
/-- Part of a named block, an array's or a struct's, by value. -/
theorem ok_loadP {T : TypeId} {td : TypeDesc} {x : Operand} {b o m s : Nat} {e : TypeId} {xs ys : List Value} (hsl : vbase ≤ s) (ht : P.underlying T = some td) (hp : td.isRow = true) (hsz : SizeIs P T m)
    (hx : E.at x = some (.v (.pointer (some ⟨b, o, none⟩)))) (hblk : E.look s = some (blk b e xs)) (hle : o + m ≤ xs.length) (hys : (xs.drop o).take m = ys) : OpOk P B ⟨dst, .load T x, ty, pos, after, guard⟩ E (.v (aggV ys)) := fun ρ w _ hv hρ => by
  have h1 : ρ x = _ := hρ x (by simp [Op.operands]) _ hx
  obtain ⟨_, hh⟩ := hv s _ hsl hblk
  subst hys
  have hr : w.rangeAt b o ((xs.drop o).take m) := fun j v hj => by
    rw [List.getElem?_take] at hj
    split at hj
    · rw [List.getElem?_drop] at hj
      simp [World.cell?, hh, hj]
    · cases hj
  have := run_loadAt_mid (P := P) w b o T _ td hr ht hp (by simp only [SizeIs] at hsz; rw [hsz]; simp; omega)
  exact out_val (w' := w) (by simp [execOp, h1, this, aggV]) ⟨Grow.refl w, rfl⟩
theorem heap_setCells (b : Nat) (e : TypeId) : ∀ (vs : List Value) (o : Nat) (w : World) (xs : List Value), w.heap[b]? = some (.cells xs.toArray e (0, 0)) → o + vs.length ≤ xs.length → (w.setCells b o vs).heap[b]? = some (.cells (xs.take o ++ vs ++ xs.drop (o + vs.length)).toArray e (0, 0))
  | [], o, w, xs, h, _ => by simpa [World.setCells] using h
  | v :: r, o, w, xs, h, hle => by
    simp only [List.length_cons] at hle
    have h1 : (w.setCell ⟨b, o, none⟩ v).heap[b]? = some (.cells (xs.set o v).toArray e (0, 0)) := by
      simp [World.setCell, Array.getElem?_modify, h]
    have := heap_setCells b e r (o + 1) _ (xs.set o v) h1 (by simp; omega)
    rw [World.setCells, this]
    congr 3
    rw [List.take_set, List.drop_set]
    have hlt : o < xs.length := by omega
    rw [List.set_eq_take_append_cons_drop, if_pos (by simp; omega), List.take_take, Nat.min_eq_left (Nat.le_succ o), List.drop_take]
    simp only [Nat.sub_self, List.take_zero, List.append_assoc, List.cons_append, List.nil_append, List.length_cons]
    rw [if_pos (by omega), show o + 1 + r.length = o + (r.length + 1) from by omega]
theorem setCells_other (b : Nat) : ∀ (vs : List Value) (o : Nat) (w : World), (w.setCells b o vs).os = w.os ∧ (w.setCells b o vs).tape = w.tape ∧ (w.setCells b o vs).output = w.output ∧ (w.setCells b o vs).heap.size = w.heap.size ∧ ∀ k, k ≠ b → (w.setCells b o vs).heap[k]? = w.heap[k]?
  | [], _, _ => ⟨rfl, rfl, rfl, rfl, fun _ _ => rfl⟩
  | v :: r, o, w => by
    obtain ⟨h1, h2, h3, h4, h5⟩ := setCells_other b r (o + 1) (w.setCell ⟨b, o, none⟩ v)
    refine ⟨h1, h2, h3, h4.trans (by simp [World.setCell]), fun k hk => (h5 k hk).trans ?_⟩
    simp [World.setCell, Array.getElem?_modify, Ne.symm hk]
theorem Wrote.setCells {B g : Nat} {w : World} {xs : List Value} {T : TypeId} (hb : B ≤ g) (hh : w.heap[g]? = some (.cells xs.toArray T (0, 0))) (o : Nat) (vs : List Value) : Wrote B T g w (w.setCells g o vs) := by
  obtain ⟨h1, h2, h3, h4, h5⟩ := setCells_other g vs o w
  exact ⟨hb, h1, h2, h3, by omega, fun o h => by rw [hh] at h; injection h with h; exact ⟨_, _, h.symm⟩, fun k _ hk => h5 k hk⟩
/-- Part of a named block is written, by value. -/
theorem eff_storeP {T : TypeId} {p x : Operand} {b o s : Nat} {e : TypeId} {xs ys : List Value} {E' : Env} (hsz : SizeIs P T ys.length) (hp : E.at p = some (.v (.pointer (some ⟨b, o, none⟩)))) (hx : E.at x = some (.v (aggV ys))) (h1 : ys.all (·.oneCell') = true)
    (hb : B ≤ b) (hblk : E.look s = some (blk b e xs)) (ho : o + ys.length ≤ xs.length) (hl : LeftS B e b E' E) :
    Eff P n B ops ⟨none, .store T p x, ty, pos, after, none⟩ E ((s, blk b e (xs.take o ++ ys ++ xs.drop (o + ys.length))) :: E') := by
  intro κ a w K Q h hK
  have hp' : a.eval p = _ := h.at_ p _ hp
  have hx' : a.eval x = _ := h.at_ x _ hx
  obtain ⟨hlt, hh⟩ := h.of s _ hblk
  have hthere : w.there b o ys.toArray.size := fun j hj => by
    simp only [List.size_toArray] at hj
    have : o + j < xs.length := by omega
    simp [World.cell?, World.frozen?, hh, this]
  have hrun : (execOp a.eval ⟨none, .store T p x, ty, pos, after, none⟩).run P w = .ok .skip (w.setCells b o ys) := by
    have := run_storeAt_mid (P := P) w b o T ys.toArray hthere (by simpa [SizeIs] using hsz) (by simpa using h1)
    simp [execOp, hp', hx', aggV, this]
  rw [if_pos (by simp [Region.wanted])]
  refine opR (by nofun) ?_
  unfold Oper.wp
  rw [hrun, Oper.upon_skip]
  have hwr := Wrote.setCells hb hh o ys
  have hst := hl.st h hwr
  refine hK _ _ (hwr.below h.base) ⟨hst.base, hst.defers, hst.size, fun t' d hd => ?_⟩
  by_cases hts : s = t'
  · subst hts
    rw [look_here] at hd; injection hd with hd; subst hd
    exact ⟨Nat.lt_of_lt_of_le hlt hwr.size, heap_setCells b e ys o w xs hh ho⟩
  · rw [look_past _ _ hts] at hd
    exact hst.of t' d hd

/-! ### Slices told exactly -/
/-- A bound of a slice expression: given, or not. -/
def Bnd (E : Env) (x : Option Operand) (v : Nat) (dflt : Nat) : Prop := (∃ o k, x = some o ∧ E.at o = some (.v (.int k (v : Int)))) ∨ (x = none ∧ v = dflt)
theorem Bnd.get {ρ : Operand → Value} {x : Option Operand} {v dflt : Nat} (h : Bnd E x v dflt) (hρ : ∀ o, x = some o → ∀ u, E.at o = some (.v u) → ρ o = u) : (∃ k, x.map ρ = some (.int k (v : Int))) ∨ (x.map ρ = none ∧ v = dflt) := by
  rcases h with ⟨o, k, rfl, ho⟩ | ⟨rfl, hv⟩
  · exact .inl ⟨k, by simp [hρ o rfl _ ho]⟩
  · exact .inr ⟨rfl, hv⟩
theorem sliceBounds_run {sl : Bool} {len cap l h m : Nat} {L H M : Option Value} (w : World) (hL : (∃ k, L = some (.int k (l : Int))) ∨ (L = none ∧ l = 0)) (hH : (∃ k, H = some (.int k (h : Int))) ∨ (H = none ∧ M = none ∧ h = len))
    (hM : (∃ k, M = some (.int k (m : Int))) ∨ (M = none ∧ m = cap)) (hlh : l ≤ h) (hhm : h ≤ m) (hml : m ≤ cap) : (Instr.sliceBounds sl len cap L H M).run P w = .ok (l, h, m) w := by
  rcases hL with ⟨k1, rfl⟩ | ⟨rfl, rfl⟩ <;> rcases hH with ⟨k2, rfl⟩ | ⟨rfl, hx, rfl⟩ <;> rcases hM with ⟨k3, rfl⟩ | ⟨rfl, rfl⟩ <;>
    first
      | (cases hx; done)
      | (simp [Instr.sliceBounds, Instr.sliceBound, asIntOf, hlh, hhm, hml]; done)
      | simp [Instr.sliceBounds, Instr.sliceBound, asIntOf, hhm]
/-- Part of an array behind a pointer into a block. -/
theorem ok_sliceX {t e : TypeId} {len : Nat} {z : Value} {nb : Nat} {x : Operand} {lo hi mx : Option Operand} {b o l h m : Nat} (ht : P.underlying t = some (.array len e)) (hs : InfoIs P e z nb) (hx : E.at x = some (.v (.pointer (some ⟨b, o, none⟩))))
    (hlo : Bnd E lo l 0) (hhi : (∃ ho k, hi = some ho ∧ E.at ho = some (.v (.int k (h : Int)))) ∨ (hi = none ∧ mx = none ∧ h = len)) (hmx : Bnd E mx m len) (hlh : l ≤ h) (hhm : h ≤ m) (hml : m ≤ len) (hne : l < m ∨ l = 0) :
    OpOk P B ⟨dst, .slice t x lo hi mx, ty, pos, after, guard⟩ E (.v (.slice (some ⟨b, o + l, none⟩) (h - l) (m - l))) := fun ρ w _ _ hρ => by
  have h1 : ρ x = _ := hρ x (by simp [Op.operands]) _ hx
  obtain ⟨info, hinfo, _, hsize, _⟩ := hs.get
  have hlo' := hlo.get (ρ := ρ) fun o ho u hu => hρ o (by simp [Op.operands, ho]) _ hu
  have hmx' := hmx.get (ρ := ρ) fun o ho u hu => hρ o (by simp [Op.operands, ho]) _ hu
  have hhi' : (∃ k, hi.map ρ = some (.int k (h : Int))) ∨ (hi.map ρ = none ∧ mx.map ρ = none ∧ h = len) := by
    rcases hhi with ⟨ho, k, rfl, hh⟩ | ⟨rfl, rfl, hh⟩
    · exact .inl ⟨k, by simp [show ρ ho = _ from hρ ho (by simp [Op.operands]) _ hh]⟩
    · exact .inr ⟨rfl, rfl, hh⟩
  have haddr : (if m = l then (⟨b, o, none⟩ : Addr) else (⟨b, o, none⟩ : Addr).add (l * 1)) = ⟨b, o + l, none⟩ := by
    rw [add_lit0, Nat.mul_one]
    split
    · rcases hne with h | h
      · omega
      · rw [h, Nat.add_zero]
    · rfl
  have hr : (Instr.sliceAt t (.pointer (some ⟨b, o, none⟩)) (lo.map ρ) (hi.map ρ) (mx.map ρ)).run P w = .ok (.slice (some ⟨b, o + l, none⟩) (h - l) (m - l)) w := by
    rw [← haddr]
    have hb := sliceBounds_run (P := P) (sl := false) w hlo' hhi' hmx' hlh hhm hml
    simp [Instr.sliceAt, run_underlying ht, Instr.sureAddr, hb, sizeOf, typeInfo, hinfo, hsize]
  exact out_val (w' := w) (by simp only [execOp, h1, Sem.run_bind, hr, Result.andThen_ok, Sem.run_pure]) ⟨Grow.refl w, rfl⟩
end
end Go.Proofs.Ytbmpjeheaemgmaa
