/-
  OWN WORDS, PART FIVE: contracts that read package-level tables (facts on memory that hold at the call); structs: fields, part of a block read and written; slices told exactly; copy into part of a variable; append to a slice without room; an own row opened by name. Nothing of one program stands here.
-/
import Derived.Test.YtdnblilocdddpaaOps3
import Derived.ArgAppend
import Derived.Deep.MidRow
namespace Go.Proofs.Ytdnblilocdddpaa
open Go Go.RowKit
variable {κ : Cx}

/-! ### Contracts that read tables -/
theorem Stays.blk {B b : Nat} {e : TypeId} {xs : List Value} (h : b < B) : Stays B (Go.Proofs.Ytdnblilocdddpaa.blk b e xs) := fun _ _ _ g _ ⟨h1, h2⟩ => ⟨Nat.lt_of_lt_of_le h1 g.size, (g.block b h).trans h2⟩
/-- A package-level table: block b holds just these cells (of which type the block was made is not told). -/
def tab (b : Nat) (xs : List Value) : D :=
  .p (fun B w _ => b < B ∧ ∃ e, w.heap[b]? = some (.cells xs.toArray e (0, 0))) (fun _ _ _ _ g ⟨h1, e, h2⟩ => ⟨h1, e, (g.block b h1).trans h2⟩) (fun _ _ _ _ g ⟨h1, h2⟩ => ⟨Nat.lt_of_lt_of_le h1 g, h2⟩)
theorem Stays.tab {B b : Nat} {xs : List Value} (h : b < B) : Stays B (Go.Proofs.Ytdnblilocdddpaa.tab b xs) := fun _ _ _ g _ ⟨h1, e, h2⟩ => ⟨Nat.lt_of_lt_of_le h1 g.size, e, (g.block b h).trans h2⟩
theorem Surv.tab {B T g b : Nat} {xs : List Value} (h : b ≠ g) : Surv B T g (Go.Proofs.Ytdnblilocdddpaa.tab b xs) := fun _ _ _ k ⟨h1, e, h2⟩ => ⟨Nat.lt_of_lt_of_le h1 k.size, e, (k.other b h1 h).trans h2⟩
/-- Called in a memory in which M holds, with values of which ds is known. -/
structure FnM (P : Program) (f : FuncId) (M : Env) (ds : List D) (d : D) : Prop where
  body : ∃ fn, P.funcs[f]? = some fn ∧ (fn.name == "runtime.NumGoroutine") = false ∧ fn.body.isNone = false
  calls : ∀ (vs : List Value) (w : World), (∀ p ∈ M, p.2.Of w undef) → vs.length = ds.length → (∀ (j : Nat) (e : D) (u : Value), ds[j]? = some e → vs[j]? = some u → e.Of w u) → Calls P f vs.toArray w (PostOf w d)
theorem Fn.m {P : Program} {f : FuncId} {M : Env} {ds : List D} {d : D} (h : Fn P f ds d) : FnM P f M ds d := ⟨h.body, fun vs w _ h1 h2 => h.calls vs w h1 h2⟩
theorem FnM.le {P : Program} {f : FuncId} {M : Env} {ds : List D} {d d' : D} (h : FnM P f M ds d) (hd : Le d d') : FnM P f M ds d' :=
  ⟨h.body, fun vs w h0 h1 h2 => (h.calls vs w h0 h1 h2).mono fun _ _ ⟨x, he, g, hx⟩ => ⟨x, he, g, hd.of hx⟩⟩
section
variable {P : Program} {B : Nat} {E : Env} {dst : Option Tmp} {ty : TypeId} {pos : String} {after : Array Edge} {guard : Option (Nat × Bool)}
theorem ok_callM {f : FuncId} {M : Env} {args : Array Operand} {argTypes : Array TypeId} {ds : List D} {d : D} (hf : FnM P f M ds d) (hM : Sub M E) (hMb : ∀ p ∈ M, vbase ≤ p.1) (ha : Args E ds args.toList) :
    OpOk P B ⟨dst, .call { callee := .value (.func f), args := args, argTypes := argTypes }, ty, pos, after, guard⟩ E d := fun ρ w _ hv hρ => by
  obtain ⟨fn, h1, h2, h3⟩ := hf.body
  have hfun : ρ (.func f) = .func (.func f) #[] #[] := hρ (.func f) (by simp [Op.operands, Call.operands]) _ rfl
  have hrun : (execOp ρ ⟨dst, .call { callee := .value (.func f), args := args, argTypes := argTypes }, ty, pos, after, guard⟩).run P w = .ok (.enter f (args.map ρ)) w := by
    have h2' : ¬ fn.name = "runtime.NumGoroutine" := by simpa using h2
    have h3' : ¬ fn.body = none := by intro h; rw [h] at h3; cases h3
    simp [execOp, resolve, Deferred.ofValue, hfun, invoke, callFunc, h1, h2', h3']
  unfold Out
  rw [hrun]
  have := hf.calls (args.toList.map ρ) w (fun p hp => hv p.1 p.2 (hMb p hp) (hM p hp)) (by rw [List.length_map, ha.length]) fun j e u he hu => by
    rw [List.getElem?_map] at hu
    cases hx : args.toList[j]? with
    | none => rw [hx] at hu; cases hu
    | some x =>
      rw [hx] at hu; injection hu with hu; subst hu
      obtain ⟨e', h4, h5⟩ := ha.nth he hx
      exact h5.of (hρ x (by simp [Op.operands, Call.operands]; exact .inr (by simpa using List.mem_of_getElem? hx)) _ h4)
  have harr : (args.toList.map ρ).toArray = args.map ρ := by apply Array.ext'; simp
  rw [harr] at this
  exact this.mono fun e w' ⟨x, he, g, hx⟩ => ⟨x, he, g, hx⟩
end
/-- Slots, and facts on memory, at a function's beginning. -/
def StartM (B : Nat) (ds : List D) (M : Env) (E : Env) : Prop := ∀ p ∈ E, (p ∈ M ∧ vbase ≤ p.1) ∨ ∃ d, ds[p.1]? = some d ∧ (p.2 = d ∨ p.2 = old B d)
theorem StartM.nil {B : Nat} {ds : List D} {M : Env} : StartM B ds M [] := fun _ h => by cases h
theorem StartM.m {B : Nat} {ds : List D} {M : Env} {t : Nat} {d : D} {E : Env} (h : (t, d) ∈ M) (ht : vbase ≤ t) (hr : StartM B ds M E) : StartM B ds M ((t, d) :: E) := fun p hp => by
  rcases List.mem_cons.1 hp with rfl | hp
  · exact .inl ⟨h, ht⟩
  · exact hr p hp
theorem StartM.v {B : Nat} {ds : List D} {M : Env} {t : Nat} {d : D} {E : Env} (h : ds[t]? = some d) (hr : StartM B ds M E) : StartM B ds M ((t, d) :: E) := fun p hp => by
  rcases List.mem_cons.1 hp with rfl | hp
  · exact .inr ⟨d, h, .inl rfl⟩
  · exact hr p hp
theorem StartM.old {B : Nat} {ds : List D} {M : Env} {t : Nat} {d : D} {E : Env} (h : ds[t]? = some d) (hr : StartM B ds M E) : StartM B ds M ((t, Go.Proofs.Ytdnblilocdddpaa.old B d) :: E) := fun p hp => by
  rcases List.mem_cons.1 hp with rfl | hp
  · exact .inr ⟨d, h, .inr rfl⟩
  · exact hr p hp
theorem FnM.of {P : Program} {n : Nat} {f : FuncId} {fn : Func} {c : Code} {M : Env} {ds : List D} {d : D} (hf : P.funcs[f]? = some fn) (hb : fn.body = some c) (hname : (fn.name == "runtime.NumGoroutine") = false) (hn : fn.ntmps = n) (hds : ds.length ≤ n) (hnv : n ≤ vbase) (E : World → Env)
    (hE : ∀ w, StartM w.heap.size ds M (E w)) (h : ∀ w₀, (∀ p ∈ M, p.2.Of w₀ undef) → A Cx.top P w₀ n c (E w₀) (BP P fn (PostOf w₀ d))) : FnM P f M ds d := by
  refine ⟨⟨fn, hf, hname, by rw [hb]; rfl⟩, fun vs w hM hl hv => callsIn_FR.1 (callsIn_of_wp_marks (F := FR none) (n := 0) hf hb trivial (h w hM _ w (Below.refl _ _) ⟨Nat.le_refl _, rfl, ?_, fun t e he => ?_⟩))⟩
  · simp [hl, hn]; omega
  · show e.Of w ((vs.toArray ++ Array.replicate (fn.ntmps - vs.toArray.size) undef).getD t undef)
    rcases hE w _ (look_mem he) with ⟨hm, ht⟩ | ⟨d', hd', hor⟩
    · have h1 := hM _ hm
      rwa [Array.getD_eq_getD_getElem?, Array.getElem?_eq_none (by simp [hl, hn]; simp only at ht; omega)]
    · have hlt : t < vs.length := by have := (List.getElem?_eq_some_iff.1 hd').1; simp at this; omega
      have hget : (vs.toArray ++ Array.replicate (fn.ntmps - vs.toArray.size) undef).getD t undef = vs[t] := by
        rw [Array.getD_eq_getD_getElem?, Array.getElem?_append_left (by simpa using hlt)]
        simp [hlt]
      rw [hget]
      have h1 := hv t d' vs[t] hd' (List.getElem?_eq_getElem hlt)
      rcases hor with h2 | h2
      · simp only at h2; rw [h2]; exact h1
      · simp only at h2; rw [h2]; exact ⟨Nat.le_refl _, h1⟩

theorem fresh_zeros {B z : Nat} {e : TypeId} (hz : z ≤ maxLen) : Le (fresh B e (List.replicate z (.int .u8 0)) z) (byt (List.replicate z 0)) := by
  have := fresh_bytes (B := B) (e := e) (l := List.replicate z 0) (n := z) (by simp) hz
  rw [List.map_replicate] at this
  exact this.trans (le_byt _ _)
theorem freshS_one {B n : Nat} {e : TypeId} {xs : List Value} {w : World} {x : Value} (h : (fresh B e xs n).Of w x) : x.oneCell' = true := by
  obtain ⟨b, rfl, _⟩ := h; rfl

theorem own_one {B n : Nat} {e : TypeId} {xs : List Value} {w : World} {x : Value} (h : (own B e n xs).Of w x) : x.oneCell' = true := by
  rcases h.1.2 with ⟨rfl, _⟩ | ⟨_, _, _, rfl, _⟩ <;> rfl
theorem own_cat {B m : Nat} {e : TypeId} {xs : List Value} {l : List UInt8} (hx : xs = l.map byteV) (hm : m = l.length) : Le (own B e m xs) (byt l) := by
  subst hx; exact own_byt hm
theorem own_mono {B B' n : Nat} {e : TypeId} {xs : List Value} (h : B ≤ B') : Le (own B' e n xs) (own B e n xs) := fun _ _ _ ⟨⟨h1, h2⟩, h3⟩ => ⟨⟨h1, h2.imp id fun ⟨g, cap, cur, h4, h5, h6⟩ => ⟨g, cap, cur, h4, by omega, h6⟩⟩, h3⟩

/-! ### Structs -/
def FieldIs (P : Program) (T : TypeId) (i off m : Nat) : Prop := (P.underlying T).bind (fun d => match d with | .struct fs => (fs[i]?).bind fun f => (P.info? f.type).map fun t => (f.offset, t.size) | _ => none) = some (off, m)
theorem add_lit0 (b o j : Nat) : (⟨b, o, none⟩ : Addr).add j = ⟨b, o + j, none⟩ := by unfold Addr.add; split <;> simp_all
section
variable {P : Program} {n B : Nat} {ops : Array Oper} {E : Env} {dst : Option Tmp} {ty : TypeId} {pos : String} {after : Array Edge} {guard : Option (Nat × Bool)}
/-- A field's address. -/
theorem ok_field {t : TypeId} {x : Operand} {i off m b o : Nat} (hf : FieldIs P t i off m) (hm : 0 < m) (hx : E.at x = some (.v (.pointer (some ⟨b, o, none⟩)))) :
    OpOk P B ⟨dst, .fieldAddr t x i, ty, pos, after, guard⟩ E (.v (.pointer (some ⟨b, o + off, none⟩))) := fun ρ w _ _ hρ => by
  have h1 : ρ x = _ := hρ x (by simp [Op.operands]) _ hx
  unfold FieldIs at hf
  cases hu : P.underlying t with
  | none => rw [hu] at hf; cases hf
  | some d =>
    rw [hu] at hf
    cases d with
    | struct fs =>
      simp only [Option.bind_some] at hf
      cases hfi : fs[i]? with
      | none => rw [hfi] at hf; cases hf
      | some f =>
        rw [hfi] at hf
        simp only [Option.bind_some] at hf
        cases hi : P.info? f.type with
        | none => rw [hi] at hf; cases hf
        | some inf =>
          rw [hi] at hf
          simp only [Option.map_some, Option.some.injEq, Prod.mk.injEq] at hf
          obtain ⟨h2, h3⟩ := hf
          refine out_val (w' := w) ?_ ⟨Grow.refl w, rfl⟩
          have : ¬ inf.size = 0 := by omega
          simp [execOp, h1, Instr.fieldAt, run_underlying hu, hfi, Instr.sureAddr, fieldPlace, sizeOf, typeInfo, hi, this, add_lit0, h2]
    | _ => simp at hf
/-- A whole package-level table, by value. -/
theorem ok_loadT {T : TypeId} {td : TypeDesc} {x : Operand} {b s : Nat} {xs : List Value} (hsl : vbase ≤ s) (ht : P.underlying T = some td) (hp : (match td with | .struct _ | .array _ _ => true | _ => false) = true) (hsz : SizeIs P T xs.length)
    (hx : E.at x = some (.v (.pointer (some ⟨b, 0, none⟩)))) (htab : E.look s = some (tab b xs)) : OpOk P B ⟨dst, .load T x, ty, pos, after, guard⟩ E (.v (aggV xs)) := fun ρ w _ hv hρ => by
  have h1 : ρ x = _ := hρ x (by simp [Op.operands]) _ hx
  obtain ⟨_, e, hh⟩ := hv s _ hsl htab
  have := run_loadVar_row (P := P) w b e T xs.toArray (0, 0) td hh ht hp (by simpa [SizeIs] using hsz)
  exact out_val (w' := w) (by simp [execOp, h1, Instr.loadAt, Instr.sureAddr, this, aggV]) ⟨Grow.refl w, rfl⟩
/-- Part of a named block, an array's or a struct's, by value. -/
theorem ok_loadP {T : TypeId} {td : TypeDesc} {x : Operand} {b o m s : Nat} {e : TypeId} {xs ys : List Value} (hsl : vbase ≤ s) (ht : P.underlying T = some td) (hp : td.isRow = true) (hsz : SizeIs P T m)
    (hx : E.at x = some (.v (.pointer (some ⟨b, o, none⟩)))) (hblk : E.look s = some (blk b e xs)) (hle : o + m ≤ xs.length) (hys : (xs.drop o).take m = ys) : OpOk P B ⟨dst, .load T x, ty, pos, after, guard⟩ E (.v (aggV ys)) := fun ρ w _ hv hρ => by
  have h1 : ρ x = _ := hρ x (by simp [Op.operands]) _ hx
  obtain ⟨_, hh⟩ := hv s _ hsl hblk
  subst hys
  have hr : w.rangeAt b o ((xs.drop o).take m) := fun j v hj => by
    rw [List.getElem?_take] at hj
    split at hj
    · rw [List.getElem?_drop] at hj
      simp [World.cell?, hh, hj]
    · cases hj
  have := run_loadAt_mid (P := P) w b o T _ td hr ht hp (by simp only [SizeIs] at hsz; rw [hsz]; simp; omega)
  exact out_val (w' := w) (by simp [execOp, h1, this, aggV]) ⟨Grow.refl w, rfl⟩
theorem heap_setCells (b : Nat) (e : TypeId) : ∀ (vs : List Value) (o : Nat) (w : World) (xs : List Value), w.heap[b]? = some (.cells xs.toArray e (0, 0)) → o + vs.length ≤ xs.length → (w.setCells b o vs).heap[b]? = some (.cells (xs.take o ++ vs ++ xs.drop (o + vs.length)).toArray e (0, 0))
  | [], o, w, xs, h, _ => by simpa [World.setCells] using h
  | v :: r, o, w, xs, h, hle => by
    simp only [List.length_cons] at hle
    have h1 : (w.setCell ⟨b, o, none⟩ v).heap[b]? = some (.cells (xs.set o v).toArray e (0, 0)) := by
      simp [World.setCell, Array.getElem?_modify, h]
    have := heap_setCells b e r (o + 1) _ (xs.set o v) h1 (by simp; omega)
    rw [World.setCells, this]
    congr 3
    rw [List.take_set, List.drop_set]
    have hlt : o < xs.length := by omega
    rw [List.set_eq_take_append_cons_drop, if_pos (by simp; omega), List.take_take, Nat.min_eq_left (Nat.le_succ o), List.drop_take]
    simp only [Nat.sub_self, List.take_zero, List.append_assoc, List.cons_append, List.nil_append, List.length_cons]
    rw [if_pos (by omega), show o + 1 + r.length = o + (r.length + 1) from by omega]
theorem setCells_other (b : Nat) : ∀ (vs : List Value) (o : Nat) (w : World), (w.setCells b o vs).os = w.os ∧ (w.setCells b o vs).tape = w.tape ∧ (w.setCells b o vs).output = w.output ∧ (w.setCells b o vs).heap.size = w.heap.size ∧ ∀ k, k ≠ b → (w.setCells b o vs).heap[k]? = w.heap[k]?
  | [], _, _ => ⟨rfl, rfl, rfl, rfl, fun _ _ => rfl⟩
  | v :: r, o, w => by
    obtain ⟨h1, h2, h3, h4, h5⟩ := setCells_other b r (o + 1) (w.setCell ⟨b, o, none⟩ v)
    refine ⟨h1, h2, h3, h4.trans (by simp [World.setCell]), fun k hk => (h5 k hk).trans ?_⟩
    simp [World.setCell, Array.getElem?_modify, Ne.symm hk]
theorem Wrote.setCells {B g : Nat} {w : World} {xs : List Value} {T : TypeId} (hb : B ≤ g) (hh : w.heap[g]? = some (.cells xs.toArray T (0, 0))) (o : Nat) (vs : List Value) : Wrote B T g w (w.setCells g o vs) := by
  obtain ⟨h1, h2, h3, h4, h5⟩ := setCells_other g vs o w
  exact ⟨hb, h1, h2, h3, by omega, fun o h => by rw [hh] at h; injection h with h; exact ⟨_, _, h.symm⟩, fun k _ hk => h5 k hk⟩
/-- Part of a named block is written, by value. -/
theorem eff_storeP {T : TypeId} {p x : Operand} {b o s : Nat} {e : TypeId} {xs ys : List Value} {E' : Env} (hsz : SizeIs P T ys.length) (hp : E.at p = some (.v (.pointer (some ⟨b, o, none⟩)))) (hx : E.at x = some (.v (aggV ys))) (h1 : ys.all (·.oneCell') = true)
    (hb : B ≤ b) (hblk : E.look s = some (blk b e xs)) (ho : o + ys.length ≤ xs.length) (hl : LeftS B e b E' E) :
    Eff P n B ops ⟨none, .store T p x, ty, pos, after, none⟩ E ((s, blk b e (xs.take o ++ ys ++ xs.drop (o + ys.length))) :: E') := by
  intro κ a w K Q h hK
  have hp' : a.eval p = _ := h.at_ p _ hp
  have hx' : a.eval x = _ := h.at_ x _ hx
  obtain ⟨hlt, hh⟩ := h.of s _ hblk
  have hthere : w.there b o ys.toArray.size := fun j hj => by
    simp only [List.size_toArray] at hj
    have : o + j < xs.length := by omega
    simp [World.cell?, World.frozen?, hh, this]
  have hrun : (execOp a.eval ⟨none, .store T p x, ty, pos, after, none⟩).run P w = .ok .skip (w.setCells b o ys) := by
    have := run_storeAt_mid (P := P) w b o T ys.toArray hthere (by simpa [SizeIs] using hsz) (by simpa using h1)
    simp [execOp, hp', hx', aggV, this]
  rw [if_pos (by simp [Region.wanted])]
  refine opR (by nofun) ?_
  unfold Oper.wp
  rw [hrun, Oper.upon_skip]
  have hwr := Wrote.setCells hb hh o ys
  have hst := hl.st h hwr
  refine hK _ _ (hwr.below h.base) ⟨hst.base, hst.defers, hst.size, fun t' d hd => ?_⟩
  by_cases hts : s = t'
  · subst hts
    rw [look_here] at hd; injection hd with hd; subst hd
    exact ⟨Nat.lt_of_lt_of_le hlt hwr.size, heap_setCells b e ys o w xs hh ho⟩
  · rw [look_past _ _ hts] at hd
    exact hst.of t' d hd

/-! ### Slices told exactly -/
/-- A bound of a slice expression: given, or not. -/
def Bnd (E : Env) (x : Option Operand) (v : Nat) (dflt : Nat) : Prop := (∃ o k, x = some o ∧ E.at o = some (.v (.int k (v : Int)))) ∨ (x = none ∧ v = dflt)
theorem Bnd.get {ρ : Operand → Value} {x : Option Operand} {v dflt : Nat} (h : Bnd E x v dflt) (hρ : ∀ o, x = some o → ∀ u, E.at o = some (.v u) → ρ o = u) : (∃ k, x.map ρ = some (.int k (v : Int))) ∨ (x.map ρ = none ∧ v = dflt) := by
  rcases h with ⟨o, k, rfl, ho⟩ | ⟨rfl, hv⟩
  · exact .inl ⟨k, by simp [hρ o rfl _ ho]⟩
  · exact .inr ⟨rfl, hv⟩
theorem sliceBounds_run {sl : Bool} {len cap l h m : Nat} {L H M : Option Value} (w : World) (hL : (∃ k, L = some (.int k (l : Int))) ∨ (L = none ∧ l = 0)) (hH : (∃ k, H = some (.int k (h : Int))) ∨ (H = none ∧ M = none ∧ h = len))
    (hM : (∃ k, M = some (.int k (m : Int))) ∨ (M = none ∧ m = cap)) (hlh : l ≤ h) (hhm : h ≤ m) (hml : m ≤ cap) : (Instr.sliceBounds sl len cap L H M).run P w = .ok (l, h, m) w := by
  rcases hL with ⟨k1, rfl⟩ | ⟨rfl, rfl⟩ <;> rcases hH with ⟨k2, rfl⟩ | ⟨rfl, hx, rfl⟩ <;> rcases hM with ⟨k3, rfl⟩ | ⟨rfl, rfl⟩ <;>
    first
      | (cases hx; done)
      | (simp [Instr.sliceBounds, Instr.sliceBound, asIntOf, hlh, hhm, hml]; done)
      | simp [Instr.sliceBounds, Instr.sliceBound, asIntOf, hhm]
/-- Part of an array behind a pointer into a block. -/
theorem ok_sliceX {t e : TypeId} {len : Nat} {z : Value} {nb : Nat} {x : Operand} {lo hi mx : Option Operand} {b o l h m : Nat} (ht : P.underlying t = some (.array len e)) (hs : InfoIs P e z nb) (hx : E.at x = some (.v (.pointer (some ⟨b, o, none⟩))))
    (hlo : Bnd E lo l 0) (hhi : (∃ ho k, hi = some ho ∧ E.at ho = some (.v (.int k (h : Int)))) ∨ (hi = none ∧ mx = none ∧ h = len)) (hmx : Bnd E mx m len) (hlh : l ≤ h) (hhm : h ≤ m) (hml : m ≤ len) (hne : l < m ∨ l = 0) :
    OpOk P B ⟨dst, .slice t x lo hi mx, ty, pos, after, guard⟩ E (.v (.slice (some ⟨b, o + l, none⟩) (h - l) (m - l))) := fun ρ w _ _ hρ => by
  have h1 : ρ x = _ := hρ x (by simp [Op.operands]) _ hx
  obtain ⟨info, hinfo, _, hsize, _⟩ := hs.get
  have hlo' := hlo.get (ρ := ρ) fun o ho u hu => hρ o (by simp [Op.operands, ho]) _ hu
  have hmx' := hmx.get (ρ := ρ) fun o ho u hu => hρ o (by simp [Op.operands, ho]) _ hu
  have hhi' : (∃ k, hi.map ρ = some (.int k (h : Int))) ∨ (hi.map ρ = none ∧ mx.map ρ = none ∧ h = len) := by
    rcases hhi with ⟨ho, k, rfl, hh⟩ | ⟨rfl, rfl, hh⟩
    · exact .inl ⟨k, by simp [show ρ ho = _ from hρ ho (by simp [Op.operands]) _ hh]⟩
    · exact .inr ⟨rfl, rfl, hh⟩
  have haddr : (if m = l then (⟨b, o, none⟩ : Addr) else (⟨b, o, none⟩ : Addr).add (l * 1)) = ⟨b, o + l, none⟩ := by
    rw [add_lit0, Nat.mul_one]
    split
    · rcases hne with h | h
      · omega
      · rw [h, Nat.add_zero]
    · rfl
  have hr : (Instr.sliceAt t (.pointer (some ⟨b, o, none⟩)) (lo.map ρ) (hi.map ρ) (mx.map ρ)).run P w = .ok (.slice (some ⟨b, o + l, none⟩) (h - l) (m - l)) w := by
    rw [← haddr]
    have hb := sliceBounds_run (P := P) (sl := false) w hlo' hhi' hmx' hlh hhm hml
    simp [Instr.sliceAt, run_underlying ht, Instr.sureAddr, hb, sizeOf, typeInfo, hinfo, hsize]
  exact out_val (w' := w) (by simp only [execOp, h1, Sem.run_bind, hr, Result.andThen_ok, Sem.run_pure]) ⟨Grow.refl w, rfl⟩
/-- Part of a slice that is told exactly. -/
theorem ok_sliceS {t e : TypeId} {z : Value} {nb : Nat} {x : Operand} {lo hi mx : Option Operand} {b o len cap l h m : Nat} (ht : P.underlying t = some (.slice e)) (hs : InfoIs P e z nb) (hx : E.at x = some (.v (.slice (some ⟨b, o, none⟩) len cap)))
    (hlo : Bnd E lo l 0) (hhi : (∃ ho k, hi = some ho ∧ E.at ho = some (.v (.int k (h : Int)))) ∨ (hi = none ∧ mx = none ∧ h = len)) (hmx : Bnd E mx m cap) (hlh : l ≤ h) (hhm : h ≤ m) (hml : m ≤ cap) (hne : l < m ∨ l = 0) :
    OpOk P B ⟨dst, .slice t x lo hi mx, ty, pos, after, guard⟩ E (.v (.slice (some ⟨b, o + l, none⟩) (h - l) (m - l))) := fun ρ w _ _ hρ => by
  have h1 : ρ x = _ := hρ x (by simp [Op.operands]) _ hx
  obtain ⟨info, hinfo, _, hsize, _⟩ := hs.get
  have hlo' := hlo.get (ρ := ρ) fun o ho u hu => hρ o (by simp [Op.operands, ho]) _ hu
  have hmx' := hmx.get (ρ := ρ) fun o ho u hu => hρ o (by simp [Op.operands, ho]) _ hu
  have hhi' : (∃ k, hi.map ρ = some (.int k (h : Int))) ∨ (hi.map ρ = none ∧ mx.map ρ = none ∧ h = len) := by
    rcases hhi with ⟨ho, k, rfl, hh⟩ | ⟨rfl, rfl, hh⟩
    · exact .inl ⟨k, by simp [show ρ ho = _ from hρ ho (by simp [Op.operands]) _ hh]⟩
    · exact .inr ⟨rfl, rfl, hh⟩
  have haddr : (if m = l then (⟨b, o, none⟩ : Addr) else (⟨b, o, none⟩ : Addr).add (l * 1)) = ⟨b, o + l, none⟩ := by
    rw [add_lit0, Nat.mul_one]
    split
    · rcases hne with h | h
      · omega
      · rw [h, Nat.add_zero]
    · rfl
  have hr : (Instr.sliceAt t (.slice (some ⟨b, o, none⟩) len cap) (lo.map ρ) (hi.map ρ) (mx.map ρ)).run P w = .ok (.slice (some ⟨b, o + l, none⟩) (h - l) (m - l)) w := by
    rw [← haddr]
    have hb := sliceBounds_run (P := P) (sl := true) w hlo' hhi' hmx' hlh hhm hml
    simp only [Instr.sliceAt, Instr.slice, Sem.run_bind, run_underlying ht, Result.andThen_ok, hb, sizeOf, typeInfo]
    simp [hinfo, hsize]
    split <;> rfl
  exact out_val (w' := w) (by simp only [execOp, h1, Sem.run_bind, hr, Result.andThen_ok, Sem.run_pure]) ⟨Grow.refl w, rfl⟩
/-- A slice that is told exactly, over a named block, as an array's address. -/
theorem ok_arrayAt {t e : TypeId} {len : Nat} {x : Operand} {a : Addr} {m c : Nat} (ht : P.underlying t = some (.array len e)) (hx : E.at x = some (.v (.slice (some a) m c))) (hm : len ≤ m) :
    OpOk P B ⟨dst, .sliceToArrayPointer t x, ty, pos, after, guard⟩ E (.v (.pointer (some a))) := fun ρ w _ _ hρ => by
  have h1 : ρ x = _ := hρ x (by simp [Op.operands]) _ hx
  have : ¬ m < len := by omega
  exact out_val (w' := w) (by simp [execOp, h1, Instr.arrayAt, run_underlying ht, this]) ⟨Grow.refl w, rfl⟩
/-- A slice of bytes over a named block is a list of bytes. -/
theorem ok_moveB {x : Operand} {b o m c s : Nat} {e : TypeId} {xs : List Value} (l : List UInt8) (hsl : vbase ≤ s) (hx : E.at x = some (.v (.slice (some ⟨b, o, none⟩) m c))) (hblk : E.look s = some (blk b e xs)) (hm : m = l.length) (hmc : m ≤ c) (hc : c ≤ maxLen) (hl : (xs.drop o).take m = l.map byteV) :
    OpOk P B ⟨dst, .move x, ty, pos, after, guard⟩ E (byt l) := fun ρ w _ hv hρ => by
  have h1 : ρ x = _ := hρ x (by simp [Op.operands]) _ hx
  obtain ⟨hlt, hh⟩ := hv s _ hsl hblk
  subst hm
  refine out_val (x := .slice (some ⟨b, o, none⟩) l.length c) (w' := w) (by simp [execOp, h1]) ⟨Grow.refl w, c, bytes_mk hmc hc fun j u hu => ?_⟩
  rw [← hl, List.getElem?_take] at hu
  split at hu
  · rw [List.getElem?_drop] at hu
    refine ⟨_, rfl, hlt, ?_⟩
    rw [add_lit0]
    simp [World.cell?, hh, hu]
  · cases hu
/-- x[lo:hi] of a slice that came in: it is of the old memory still. -/
theorem ok_sliceO {t e : TypeId} {z : Value} {nb B' : Nat} {x : Operand} {lo hi : Option Operand} {f : D} {ds : List D} (l h : Nat) (ht : P.underlying t = some (.slice e)) (hs : InfoIs P e z nb) (hx : E.at x = some (old B' f)) (hf : Le f (lst ds))
    (hlo : Bnd E lo l 0) (hhi : Bnd E hi h ds.length) (hlh : l ≤ h) (hhn : h ≤ ds.length) : OpOk P B ⟨dst, .slice t x lo hi none, ty, pos, after, guard⟩ E (old B' (lst ((ds.take h).drop l))) := fun ρ w _ _ hρ => by
  have hx0 : (old B' f).Of w (ρ x) := hρ x (by simp [Op.operands]) _ hx
  obtain ⟨hB, hx1⟩ := hx0
  obtain ⟨c, A, vs, h1, h2, h3, h4, h5, h6⟩ := hf B' w _ hx1
  have hlo' := hlo.get (ρ := ρ) fun o ho u hu => hρ o (by simp [Op.operands, ho]) _ hu
  have hhi' := hhi.get (ρ := ρ) fun o ho u hu => hρ o (by simp [Op.operands, ho]) _ hu
  have hlo2 : ∃ k, lo.map ρ = some (.int k (l : Int)) ∨ (lo.map ρ = none ∧ l = 0) := hlo'.elim (fun ⟨k, h⟩ => ⟨k, .inl h⟩) fun h => ⟨.i64, .inr h⟩
  have hhi2 : ∃ k, hi.map ρ = some (.int k (h : Int)) ∨ (hi.map ρ = none ∧ h = ds.length) := hhi'.elim (fun ⟨k, h⟩ => ⟨k, .inl h⟩) fun h => ⟨.i64, .inr h⟩
  obtain ⟨k, hlo2⟩ := hlo2
  obtain ⟨k', hhi2⟩ := hhi2
  have hr := run_slice_list (P := P) ht hs w A ds.length c l h (lo.map ρ) (hi.map ρ) k k' hlo2 hhi2 hlh (by omega)
  have hlen : ((ds.take h).drop l).length = h - l := by simp; omega
  refine out_val (x := .slice (if c = l then A else A.map (·.add l)) (h - l) (c - l)) (w' := w) (by simp [execOp, h1, hr]) ⟨Grow.refl w, hB, c - l, _, (vs.take h).drop l, by rw [hlen], by rw [hlen]; omega, by omega, by simp; omega, ?_, ?_⟩
  · intro j u hu
    rw [List.getElem?_drop, List.getElem?_take] at hu
    split at hu
    · obtain ⟨ad, rfl, hb, hc⟩ := h5 _ _ hu
      rw [if_neg (by omega)]
      exact ⟨ad.add l, rfl, by rw [block_of_add]; exact hb, by rw [add_of_add]; exact hc⟩
    · cases hu
  · intro j d u hd hu
    rw [List.getElem?_drop, List.getElem?_take] at hd hu
    split at hd
    · rename_i hlt; rw [if_pos hlt] at hu; exact h6 _ _ _ hd hu
    · cases hd
/-- An element of an array's value, the elements of one cell each. -/
theorem ok_indexV1 {t e : TypeId} {len : Nat} {td : TypeDesc} {z : Value} {nb : Nat} {x i : Operand} {xs : List Value} {k : IntKind} {j : Int} {u : Value} (m : Nat) (ht : P.underlying t = some (.array len e)) (he : P.underlying e = some td) (hp : plainTD td = true) (hs : InfoIs P e z nb)
    (hx : E.at x = some (.v (aggV xs))) (hi : E.at i = some (.v (.int k j))) (hj : j = (m : Int)) (hm : m < len) (hu : xs[m]? = some u) : OpOk P B ⟨dst, .index t x i, ty, pos, after, guard⟩ E (.v u) := fun ρ w _ _ hρ => by
  have h1 : ρ x = _ := hρ x (by simp [Op.operands]) _ hx
  have h2 : ρ i = _ := hρ i (by simp [Op.operands]) _ hi
  obtain ⟨info, hinfo, _, hsize, _⟩ := hs.get
  subst hj
  have hagg : (isAgg e).run P w = .ok false w := by
    unfold isAgg
    rw [Sem.run_bind, run_underlying he w]
    cases td <;> simp_all [plainTD]
  refine out_val (w' := w) ?_ ⟨Grow.refl w, rfl⟩
  simp [execOp, h1, h2, aggV, Instr.index, asIntOf, run_underlying ht, hm, sizeOf, typeInfo, hinfo, hsize, part, hagg, hu]
/-- copy into part of a named block: as many bytes as there is room for, and as there are. -/
theorem eff_copyS {t e : TypeId} {z : Value} {nb : Nat} {r x : Operand} {b o dn dc s dst : Nat} {f : D} {l : List UInt8} {e' : TypeId} {xs : List Value} {E' : Env} (ht : P.underlying t = some (.slice e)) (hinfo : InfoIs P e z nb)
    (hr : E.at r = some (.v (.slice (some ⟨b, o, none⟩) dn dc))) (hx : E.at x = some f) (hf : Le f (byt l)) (hb : B ≤ b) (hblk : E.look s = some (blk b e' xs)) (hfit : o + dn ≤ xs.length) (hdst : dst < n) (hl : LeftS B e' b E' E) :
    Eff P n B ops ⟨some dst, .call { callee := .builtin .copy, args := #[r, x], argTypes := #[t, t] }, ty, pos, after, none⟩ E ((dst, .v (.int .i64 ((min l.length dn : Nat) : Int))) :: (s, blk b e' (xs.take o ++ (l.take dn).map byteV ++ xs.drop (o + min l.length dn))) :: E') := by
  obtain ⟨i, hi, _, hs, _⟩ := hinfo.get
  intro κ a w K Q h hK
  have hre : a.eval r = _ := h.at_ r _ hr
  obtain ⟨c, hby⟩ := hf.of (h.at_ x _ hx)
  obtain ⟨A, hxe, hle, hcm, hrow⟩ := bytes_open (l := l) hby
  obtain ⟨hlt, hh⟩ := h.of s _ hblk
  have hsz : (P.info? e).map (·.size) = some 1 := by rw [hi]; simp [hs]
  have hrun : ∃ w', (Builtin.copy_ #[t, t] ty #[a.eval r, .slice A l.length c]).run P w = .ok (.int .i64 ((min l.length dn : Nat) : Int)) w' ∧ Wrote B e' b w w' ∧ w'.heap[b]? = some (.cells (xs.take o ++ (l.take dn).map byteV ++ xs.drop (o + min l.length dn)).toArray e' (0, 0)) ∧ b < w'.heap.size := by
    rw [hre]
    cases A with
    | none =>
      have hz : l = [] := by
        cases l with
        | nil => rfl
        | cons b l => obtain ⟨ad, h, _⟩ := hrow 0 (byteV b) rfl; cases h
      subst hz
      refine ⟨w, by simpa [goInt] using run_copy_none (P := P) w t t ty e (some ⟨b, o, none⟩) none dn dc 0 c ht hsz (by simp), ⟨hb, rfl, rfl, rfl, Nat.le_refl _, fun o h => by rw [hh] at h; injection h with h; exact ⟨_, _, h.symm⟩, fun _ _ _ => rfl⟩, ?_, hlt⟩
      simp only [List.take_nil, List.map_nil, List.append_nil, List.length_nil, Nat.zero_min, Nat.add_zero, List.take_append_drop]; exact hh
    | some ad =>
      have hmin : ((l.take dn).map byteV).length = Nat.min l.length dn := by rw [List.length_map, List.length_take]; exact Nat.min_comm _ _
      have hr := run_copy_row (P := P) w t t ty e b o dn dc ad l.length c xs.toArray e' ((l.take dn).map byteV) ht hsz hh hmin (fun j u hu => hrow.cell j u (by
        rw [List.map_take, List.getElem?_take] at hu
        split at hu
        · exact hu
        · cases hu)) (by simp only [List.size_toArray, List.length_map, List.length_take]; have : min dn l.length ≤ dn := Nat.min_le_left _ _; omega) (fun v hv => by
        simp only [List.mem_map] at hv; obtain ⟨u, _, rfl⟩ := hv; rfl)
      rw [hmin] at hr
      have hr : (Builtin.copy_ #[t, t] ty #[.slice (some ⟨b, o, none⟩) dn dc, .slice (some ad) l.length c]).run P w = .ok (.int .i64 ((min l.length dn : Nat) : Int)) (w.setRow b (xs.take o ++ (l.take dn).map byteV ++ xs.drop (o + min l.length dn)).toArray) := hr
      refine ⟨_, hr, ?_, ?_, ?_⟩
      · exact Wrote.setRow hb hh _
      · simp [World.setRow, Array.getElem?_modify, hh]
      · simpa [World.setRow] using hlt
  obtain ⟨w', hrun, hwr, hh', hlt'⟩ := hrun
  have hexec : (execOp a.eval ⟨some dst, .call { callee := .builtin .copy, args := #[r, x], argTypes := #[t, t] }, ty, pos, after, none⟩).run P w = .ok (.value (.int .i64 ((min l.length dn : Nat) : Int))) w' := by
    simp [execOp, resolve, invoke, builtin, hxe, hrun]
  rw [if_pos (by simp [Region.wanted])]
  refine opR (by nofun) ?_
  unfold Oper.wp
  rw [hexec, Oper.upon_value]
  have hst0 := hl.st h hwr
  have hst : St κ n B ((s, blk b e' (xs.take o ++ (l.take dn).map byteV ++ xs.drop (o + min l.length dn))) :: E') a w' := ⟨hst0.base, hst0.defers, hst0.size, fun t' d hd => by
    by_cases hts : s = t'
    · subst hts
      rw [look_here] at hd; injection hd with hd; subst hd
      exact ⟨hlt', hh'⟩
    · rw [look_past _ _ hts] at hd
      exact hst0.of t' d hd⟩
  exact hK _ _ (hwr.below h.base) (hst.put hdst rfl)
/-- append to a slice over a named block that has no room: a new row of the call's own. -/
theorem ok_appendCap {t e : TypeId} {z : Value} {nb : Nat} {r x : Operand} {b o m s : Nat} {e' : TypeId} {xs us : List Value} {f : D} {vs : List Value} (hsl : vbase ≤ s) (ht : P.underlying t = some (.slice e)) (hinfo : InfoIs P e z nb) (hnb : nb ≤ 64) (hz1 : z.cells.size = 1)
    (hr : E.at r = some (.v (.slice (some ⟨b, o, none⟩) m m))) (hblk : E.look s = some (blk b e' xs)) (hus : (xs.drop o).take m = us) (hm : o + m ≤ xs.length) (hx : E.at x = some f) (hf : Le f (lst (vs.map .v))) (hpos : 0 < vs.length) (hk : m + vs.length ≤ 1099511627776) :
    OpOk P B ⟨dst, .call { callee := .builtin .append, args := #[r, x], argTypes := #[t, t] }, ty, pos, after, guard⟩ E (own B e (m + vs.length) (us ++ vs)) := fun ρ w hB hv hρ => by
  obtain ⟨i, hi, hz, hs, hby⟩ := hinfo.get
  have h1 : ρ r = _ := hρ r (by simp [Op.operands, Call.operands]) _ hr
  obtain ⟨hlt, hh⟩ := hv s _ hsl hblk
  obtain ⟨c, A, ws, hxe, hle, hcm, hul, hrow, hws⟩ := hf.of (hρ x (by simp [Op.operands, Call.operands]) _ hx)
  have huv : ws = vs := by
    apply List.ext_getElem?
    intro j
    simp only [List.length_map] at hul
    rcases Nat.lt_or_ge j vs.length with hj | hj
    · have hu : ws[j]? = some ws[j] := List.getElem?_eq_getElem (by omega)
      have h2 : ws[j] = vs[j] := hws j (.v vs[j]) ws[j] (by simp [hj]) hu
      rw [hu, h2, List.getElem?_eq_getElem hj]
    · rw [List.getElem?_eq_none (by omega), List.getElem?_eq_none hj]
  subst huv
  simp only [List.length_map] at hxe hle hul
  cases A with
  | none =>
    exfalso
    cases ws with
    | nil => simp at hpos
    | cons b l => obtain ⟨ad, h, _⟩ := hrow 0 b rfl; cases h
  | some ad =>
    have hbb : (m + ws.length) * i.bytes ≤ (m + ws.length) * 64 := Nat.mul_le_mul_left _ (by omega)
    obtain ⟨v', w', h2, h3, h4⟩ := run_append_arg_grows (P := P) w t ty e i z 1 i.bytes ht hi hz hs rfl hz1 (by omega) ⟨b, o, none⟩ m m us (by subst hus; simp; omega) (fun j u hj => by
      subst hus
      rw [List.getElem?_take] at hj
      split at hj
      · rw [List.getElem?_drop] at hj
        rw [add_lit0]; simp [World.cell?, hh, hj]
      · cases hj) ad ws.length c ws (by simp) hrow.cell (by omega) (by simp only [maxLen]; omega) (by omega)
    refine out_val (x := v') (w' := w') (by simp [execOp, resolve, invoke, builtin, h1, hxe, h2]) ⟨(Below.refl w.heap.size w).grown h4 (Nat.le_refl _) (fun g hg => by cases hg), ?_⟩
    refine ⟨⟨h3.1, h3.2.imp id ?_⟩, fun g hg => ?_⟩
    · rintro ⟨g, cap, cur, h5, h6, h7⟩; exact ⟨g, cap, cur, h5, by omega, h7⟩
    · rcases h3.2 with ⟨hv', _⟩ | ⟨g', cap, cur, hv', _, hh', _⟩
      · rw [hv'] at hg; simp [Value.ownBlock] at hg
      · rw [hv'] at hg; simp [Value.ownBlock] at hg; subst hg
        rcases Nat.lt_or_ge g' w'.heap.size with h | h
        · exact h
        · rw [Array.getElem?_eq_none h] at hh'; cases hh'
end
/-- An own row that is not empty gets a name for its block; what is behind it in its array is not known. -/
theorem A.openOwn {P : Program} {w₀ : World} {n : Nat} {c : Code} {E : Env} {Q : Exit → Act → World → Prop} {t k : Nat} {e : TypeId} {m : Nat} {xs : List Value} (ht : E.look t = some (own w₀.heap.size e m xs)) (hm : 0 < m)
    (h : ∀ g cap ys, w₀.heap.size ≤ g → m ≤ cap → cap ≤ maxLen → (xs ++ ys).length = cap → xs.length = m → A κ P w₀ n c ((t, .v (.slice (some ⟨g, 0, none⟩) m cap)) :: (k, blk g e (xs ++ ys)) :: E) Q) : A κ P w₀ n c E Q := fun a w g hs => by
  obtain ⟨⟨hlen, h1⟩, h2⟩ := hs.of t _ ht
  rcases h1 with ⟨_, h0⟩ | ⟨b, cap, cur, hv, hb, hh, hnc, hcm, hsz, htk⟩
  · omega
  · have hlt : b < w.heap.size := h2 b (by rw [hv]; simp [Value.ownBlock])
    have hcur : cur = (xs ++ cur.toList.drop m).toArray := by
      apply Array.ext'
      simp only [Nat.mul_one] at htk
      rw [← htk]; simp
    have hl : (xs ++ cur.toList.drop m).length = cap := by
      have := congrArg Array.size hcur
      simp only [List.size_toArray] at this
      omega
    refine h b cap (cur.toList.drop m) hb hnc hcm hl (by omega) a w g ⟨hs.base, hs.defers, hs.size, fun s d hd => ?_⟩
    by_cases hts : t = s
    · subst hts
      rw [look_here] at hd; injection hd with hd; subst hd; exact hv
    · rw [look_past _ _ hts] at hd
      by_cases hks : k = s
      · subst hks
        rw [look_here] at hd; injection hd with hd; subst hd
        exact ⟨hlt, by rw [← hcur]; exact hh⟩
      · rw [look_past _ _ hks] at hd
        exact hs.of s d hd
end Go.Proofs.Ytdnblilocdddpaa
