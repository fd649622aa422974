/-
  OWN WORDS: arrays of arrays (elements of several cells), checks for nil, bound methods as function values, slices of function values, functions that call such values. Nothing of one program stands here.
-/
import Derived.Test.YtdnblilocdddpaaScope
import Derived.Test.YtdnblilocdddpaaEq
namespace Go.Proofs.Ytdnblilocdddpaa
open Go Go.RowKit
variable {κ : Cx}

theorem SizeIs.get {P : Program} {T : TypeId} {m : Nat} (h : SizeIs P T m) : ∃ i, P.info? T = some i ∧ i.size = m := by
  unfold SizeIs at h
  cases hi : P.info? T with
  | none => rw [hi] at h; cases h
  | some i => rw [hi] at h; exact ⟨i, rfl, by simpa using h⟩
section
variable {P : Program} {n B : Nat} {ops : Array Oper} {E : Env} {dst : Option Tmp} {ty : TypeId} {pos : String} {after : Array Edge} {guard : Option (Nat × Bool)}
theorem ok_nilCheck {x : Operand} {ad : Addr} (hx : E.at x = some (.v (.pointer (some ad)))) : OpOk P B ⟨dst, .nilCheck x, ty, pos, after, guard⟩ E (.v (.pointer (some ad))) := fun ρ w _ _ hρ => by
  have h1 : ρ x = .pointer (some ad) := hρ x (by simp [Op.operands]) _ hx
  exact out_val (w' := w) (by simp [execOp, h1]) ⟨Grow.refl w, rfl⟩
/-- The address of an element of several cells, in an array behind a pointer. -/
theorem ok_indexN {t e : TypeId} {len sz : Nat} {x i : Operand} {b o : Nat} {k : IntKind} {j : Int} (m : Nat) (ht : P.underlying t = some (.array len e)) (hs : SizeIs P e sz) (hx : E.at x = some (.v (.pointer (some ⟨b, o, none⟩)))) (hi : E.at i = some (.v (.int k j)))
    (h0 : j = (m : Int)) (hn : m < len) : OpOk P B ⟨dst, .indexAddr t x i, ty, pos, after, guard⟩ E (.v (.pointer (some ⟨b, o + m * sz, none⟩))) := fun ρ w _ _ hρ => by
  have h1 : ρ x = _ := hρ x (by simp [Op.operands]) _ hx
  have hi' : ρ i = .int k j := hρ i (by simp [Op.operands]) _ hi
  obtain ⟨info, hinfo, hsize⟩ := hs.get
  refine out_val (w' := w) ?_ ⟨Grow.refl w, rfl⟩
  subst h0
  have hadd : (⟨b, o, none⟩ : Addr).add (m * sz) = ⟨b, o + m * sz, none⟩ := add_lit0 _ _ _
  simp [execOp, h1, hi', Instr.indexAt, Instr.sureAddr, asIntOf, run_underlying ht, sizeOf, typeInfo, hinfo, hsize, hadd]
  intro hle
  omega
/-- A method bound to its receiver. -/
theorem ok_makeFuncM {f : FuncId} {x : Operand} {u : Value} (hx : E.at x = some (.v u)) : OpOk P B ⟨dst, .makeFunc (.func f) #[x] #[], ty, pos, after, guard⟩ E (.v (.func (.func f) #[u] #[])) := fun ρ w _ _ hρ => by
  have h1 : ρ x = u := hρ x (by simp [Op.operands]) _ hx
  exact out_val (w' := w) (by simp [execOp, h1, Instr.makeFunc]) ⟨Grow.refl w, rfl⟩
/-- A slice literal of values that are known: a block of the call's own. -/
theorem ok_buildF {t e : TypeId} {m : Nat} {ps : Array (Nat × Operand)} {z : Value} {nb : Nat} (us : List Value) (ht : P.underlying t = some (.slice e)) (hinfo : InfoIs P e z nb) (hz1 : z.cells = #[z])
    (hn : 0 < m) (hn' : m ≤ 65536) (hl : us.length = m) (hp : LitD E us ps.toList 0) (h1 : us.all (·.oneCell') = true) :
    OpOk P B ⟨dst, .buildSlice t m ps, ty, pos, after, guard⟩ E (fresh B e us m) := fun ρ w hB _ hρ => by
  obtain ⟨i, hi, hz, hs, _⟩ := hinfo.get
  have h3 := hp.map (ρ := ρ) fun x hx v hv => hρ x (by simp [Op.operands]; simpa using hx) _ hv
  have h2 : (ps.map fun (i, x) => (i, ρ x)).toList = (us.zipIdx 0).map fun x => (x.2, x.1) := by rw [← h3]; simp
  have hz' : (Array.range (m * i.size)).map (z.cells[· % z.cells.size]!) = ([] ++ List.replicate m z).toArray := by
    rw [hs, hz1, Nat.mul_one]
    apply Array.ext
    · simp
    · intro j h1 h2; simp [Nat.mod_one]
  have hfill : Instr.fill (fun j => some (j * i.size, i.size)) ((Array.range (m * i.size)).map (z.cells[· % z.cells.size]!)) (ps.map fun (i, x) => (i, ρ x)).toList = some us.toArray := by
    rw [hz', h2, hs, fill_dense us [] (List.replicate m z) 0 (fun u hu => by simpa using (List.all_eq_true.1 h1) u hu) rfl (by simp [hl])]
    simp [hl]
  have hr := run_buildSlice (P := P) w t e m (ps.map fun (i, x) => (i, ρ x)) us.toArray i z ht hi hz (by rw [hs]; omega) (by rw [hs]; omega) hfill
  refine out_val (x := .slice (some ⟨w.heap.size, 0, none⟩) m m) (w' := w.alloc (.cells us.toArray e)) (by simp [execOp, hr]) ⟨Grow.alloc w _, w.heap.size, by rw [hl], hB, by simp, heap_alloc_new w _⟩
/-- A literal whose parts are told exactly, as the model fills them in. -/
theorem ok_litU {t : TypeId} {ps : Array (Nat × Operand)} (us ys : List Value) (hl : LitD E us ps.toList 0) (hb : P.built t ((us.zipIdx 0).map fun x => (x.2, x.1)) = some ys.toArray) : OpOk P B ⟨dst, .build t ps, ty, pos, after, guard⟩ E (.v (aggV ys)) :=
  ok_lit _ ys (fun _ hρ => hl.map hρ) hb
/-- Called without arguments, the function value u takes block g's cells from xs to ys. -/
def Does (P : Program) (T g : Nat) (u : Value) (xs ys : List Value) : Prop := ∃ (f : FuncId) (vs : List Value), u = .func (.func f) vs.toArray #[] ∧ FnW P f [] T g xs ys (vs.map D.v)
theorem FnW.does {f : FuncId} {T g : Nat} {xs ys vs : List Value} (h : FnW P f [] T g xs ys (vs.map D.v)) : Does P T g (.func (.func f) vs.toArray #[]) xs ys := ⟨f, vs, rfl, h⟩
theorem eff_callF {T g s dst : Nat} {x : Operand} {u : Value} {xs ys : List Value} {argTypes : Array TypeId} {E' : Env} (hf : Does P T g u xs ys) (hx : E.at x = some (.v u))
    (hg : B ≤ g) (hblk : E.look s = some (blk g T xs)) (hdst : dst < n) (hl : LeftS B T g E' E) :
    Eff P n B ops ⟨some dst, .call { callee := .value x, args := #[], argTypes := argTypes }, ty, pos, after, none⟩ E ((dst, .v (.tuple #[])) :: (s, blk g T ys) :: E') := by
  obtain ⟨f, vs, rfl, hf⟩ := hf
  intro κ a w K Q h hK
  obtain ⟨fn, h1, h2, h3⟩ := hf.body
  have hfun : a.eval x = .func (.func f) vs.toArray #[] := h.at_ x _ hx
  have hrun : (execOp a.eval ⟨some dst, .call { callee := .value x, args := #[], argTypes := argTypes }, ty, pos, after, none⟩).run P w = .ok (.enter f vs.toArray) w := by
    have h2' : ¬ fn.name = "runtime.NumGoroutine" := by simpa using h2
    have h3' : ¬ fn.body = none := by intro h; rw [h] at h3; cases h3
    simp [execOp, resolve, Deferred.ofValue, hfun, invoke, callFunc, h1, h2', h3']
  obtain ⟨hlt, hh⟩ := h.of s _ hblk
  have hcall := hf.calls vs w (by rw [List.length_map]) (fun j e u he hu => by
    rw [List.getElem?_map, hu] at he
    injection he with he; subst he; rfl) (fun p hp => by cases hp) hlt hh
  rw [if_pos (by simp [Region.wanted])]
  refine opR (by nofun) ?_
  unfold Oper.wp
  rw [hrun, Oper.upon_enter]
  refine Calls.mono hcall ?_
  rintro e w' ⟨rfl, hw, hh'⟩
  have hwr : Wrote B T g w w' := ⟨hg, hw.os, hw.tape, hw.output, hw.size, hw.cel, hw.other⟩
  have hst := hl.st h hwr
  have hlt' : g < w'.heap.size := (Array.getElem?_eq_some_iff.1 hh').1
  exact hK _ _ (hwr.below h.base) (St.put (hst.push (d := blk g T ys) ⟨hlt', hh'⟩) hdst rfl)
/-- The contract of a function that writes one block, with facts of its parameters that speak of other memory. -/
theorem FnW.ofD {f : FuncId} {fn : Func} {c : Code} {M : Env} {T g kb kw : Nat} {xs ys : List Value} {ds : List D} (hf : P.funcs[f]? = some fn) (hb : fn.body = some c) (hname : (fn.name == "runtime.NumGoroutine") = false) (hn : fn.ntmps = n) (hds : ds.length ≤ n) (hnv : n ≤ vbase)
    (hMb : ∀ p ∈ M, vbase ≤ p.1) (hkb : vbase ≤ kb) (hkw : vbase ≤ kw) (args : Env) (hargs : ∀ p ∈ args, ds[p.1]? = some p.2)
    (h : ∀ w₀ w₁ : World, w₀.heap.size = g → (∀ p ∈ M, p.2.OfB w₀.heap.size w₁ undef) → A Cx.top P w₀ n c (args ++ ((kb, blk g T xs) :: (kw, wroteD T g w₁) :: M)) (BP P fn fun e w' => e = .returned (.tuple #[]) ∧ Wrote g T g w₁ w' ∧ w'.heap[g]? = some (.cells ys.toArray T (0, 0)))) :
    FnW P f M T g xs ys ds := by
  refine ⟨⟨fn, hf, hname, by rw [hb]; rfl⟩, fun vs w hl hv hM hlt hh => ?_⟩
  have hsz := cutW_size (w := w) (g := g) (Nat.le_of_lt hlt)
  refine callsIn_FR.1 (callsIn_of_wp_marks (F := FR none) (n := 0) hf hb trivial (h (cutW w g) w hsz (by rw [hsz]; exact hM) _ w (cutW_below (Nat.le_of_lt hlt)) ⟨by rw [hsz]; omega, rfl, ?_, fun t e he => ?_⟩))
  · simp [hn]; omega
  · show e.Of w ((vs.toArray ++ Array.replicate (fn.ntmps - vs.toArray.size) undef).getD t undef)
    have hund : vbase ≤ t → (vs.toArray ++ Array.replicate (fn.ntmps - vs.toArray.size) undef).getD t undef = undef := fun ht => by
      rw [Array.getD_eq_getD_getElem?, Array.getElem?_eq_none (by simp [hn]; omega)]; rfl
    rcases List.mem_append.1 (look_mem he) with hm | hm
    · have h2 := hargs _ hm
      simp only at h2
      have hj : t < vs.length := by have := (List.getElem?_eq_some_iff.1 h2).1; omega
      rw [Array.getD_eq_getD_getElem?, Array.getElem?_append_left (by simpa using hj)]
      have h3 := hv t e vs[t] h2 (List.getElem?_eq_getElem hj)
      simpa [hj] using h3
    · rcases List.mem_cons.1 hm with h1 | hm
      · injection h1 with h1 h2; subst h1; subst h2
        exact ⟨hlt, hh⟩
      · rcases List.mem_cons.1 hm with h1 | hm
        · injection h1 with h1 h2; subst h1; subst h2
          exact ⟨Nat.le_refl _, Nat.le_refl _, rfl, rfl, rfl, Nat.le_refl _, fun o ho => by rw [hh] at ho; injection ho with ho; exact ⟨_, _, ho.symm⟩, fun _ _ _ => rfl⟩
        · have h1 := hMb _ hm
          rw [hund h1]
          exact D.OfB.up (hM _ hm) (Nat.le_of_lt hlt)
/-- A call of a function value that holds what us lists, and reads memory. -/
theorem ok_callVM {f : FuncId} {M : Env} {x : Operand} {us : List Value} {args : Array Operand} {argTypes : Array TypeId} {ds : List D} {d : D} (hf : FnM P f M (ds ++ us.map D.v) d) (hM : Sub M E) (hMb : ∀ p ∈ M, vbase ≤ p.1)
    (hx : E.at x = some (.v (.func (.func f) #[] us.toArray))) (ha : Args E ds args.toList) :
    OpOk P B ⟨dst, .call { callee := .value x, args := args, argTypes := argTypes }, ty, pos, after, guard⟩ E d := fun ρ w _ hv hρ => by
  obtain ⟨fn, h1, h2, h3⟩ := hf.body
  have hfun : ρ x = .func (.func f) #[] us.toArray := hρ x (by simp [Op.operands, Call.operands]) _ hx
  have hrun : (execOp ρ ⟨dst, .call { callee := .value x, args := args, argTypes := argTypes }, ty, pos, after, guard⟩).run P w = .ok (.enter f (args.map ρ ++ us.toArray)) w := by
    have h2' : ¬ fn.name = "runtime.NumGoroutine" := by simpa using h2
    have h3' : ¬ fn.body = none := by intro h; rw [h] at h3; cases h3
    simp [execOp, resolve, Deferred.ofValue, hfun, invoke, callFunc, h1, h2', h3']
  unfold Out
  rw [hrun]
  have := hf.calls (args.toList.map ρ ++ us) w (fun p hp => hv p.1 p.2 (hMb p hp) (hM p hp)) (by rw [List.length_append, List.length_append, List.length_map, List.length_map, ha.length]) fun j e u he hu => by
    rcases Nat.lt_or_ge j ds.length with hj | hj
    · rw [List.getElem?_append_left hj] at he
      rw [List.getElem?_append_left (by rw [List.length_map, ← ha.length]; exact hj), List.getElem?_map] at hu
      cases hx : args.toList[j]? with
      | none => rw [hx] at hu; cases hu
      | some x =>
        rw [hx] at hu; injection hu with hu; subst hu
        obtain ⟨e', h4, h5⟩ := ha.nth he hx
        exact h5.of (hρ x (by simp [Op.operands, Call.operands]; exact .inr (by simpa using List.mem_of_getElem? hx)) _ h4)
    · rw [List.getElem?_append_right hj, List.getElem?_map] at he
      rw [List.getElem?_append_right (by rw [List.length_map, ← ha.length]; exact hj), List.length_map, ← ha.length] at hu
      rw [hu] at he
      injection he with he; subst he; rfl
  have harr : (args.toList.map ρ ++ us).toArray = args.map ρ ++ us.toArray := by apply Array.ext'; simp
  rw [harr] at this
  exact this.mono fun e w' ⟨x, he, g, hx⟩ => ⟨x, he, g, hx⟩
end
section
variable {P : Program} {w₀ : World} {n : Nat} {c : Code} {E : Env} {Q : Exit → Act → World → Prop}
/-- A slice at the head of a block that no one else has gets the block's name, whatever its base. -/
theorem A.openAt {t k B' : Nat} {e : TypeId} {xs : List Value} {m : Nat} (ht : E.look t = some (fresh B' e xs m)) (h : ∀ b, A κ P w₀ n c ((t, .v (.slice (some ⟨b, 0, none⟩) m xs.length)) :: (k, blk b e xs) :: E) Q) : A κ P w₀ n c E Q := fun a w g hs => by
  obtain ⟨b, h1, _, h3, h4⟩ := hs.of t _ ht
  exact h b a w g ((hs.push (t := k) (d := blk b e xs) ⟨h3, h4⟩).push (d := .v _) h1)
end

/-! ### Variables of a function that writes one block -/
theorem Surv.wroteN {B T T' g b : Nat} {w₁ : World} (h : w₁.heap.size ≤ b) : Surv B T b (wroteD T' g w₁) := fun _ _ _ k ⟨h1, h2⟩ =>
  ⟨Nat.le_trans h1 k.size, ⟨h2.base, k.os.trans h2.os, k.tape.trans h2.tape, k.output.trans h2.output, Nat.le_trans h2.size k.size, h2.cel, fun j hj hne => (k.other j (Nat.lt_of_lt_of_le hj h1) (by omega)).trans (h2.other j hj hne)⟩⟩
/-- The number of a new block: above all that are known by name, and above what there was when the function was called. -/
def NewW (B : Nat) (E : Env) (b : Nat) : Prop := B ≤ b ∧ (∀ s b' e xs, E.look s = some (blk b' e xs) → b' < b) ∧ ∀ s T g w₁, E.look s = some (wroteD T g w₁) → w₁.heap.size ≤ b
theorem eff_allocW {P : Program} {n B : Nat} {ops : Array Oper} {E : Env} {ty : TypeId} {pos : String} {after : Array Edge} {T : TypeId} {zs : List Value} {d k : Nat} (hz : ZeroIs P T zs) (hdn : d < n) :
    EffG P n B ops ⟨some d, .alloc T, ty, pos, after, none⟩ E (NewW B E) (fun b => (d, .v (.pointer (some ⟨b, 0, none⟩))) :: (k, blk b T zs) :: E) := by
  obtain ⟨i, z, hi, hz, hc⟩ := hz.get
  intro κ a w K Q h hK
  have hrun : (execOp a.eval ⟨some d, .alloc T, ty, pos, after, none⟩).run P w = .ok (.value (.pointer (some ⟨w.heap.size, 0, none⟩))) (w.alloc (.cells zs.toArray T)) := by
    simp [execOp, Instr.alloc, zeroValue, typeInfo, hi, hz, newVar, newRow, hc]
  rw [if_pos (by simp [Region.wanted])]
  refine opR (by nofun) ?_
  unfold Oper.wp
  rw [hrun, Oper.upon_value]
  have hst := h.grow (Grow.alloc w (.cells zs.toArray T))
  refine hK w.heap.size _ _ ⟨h.base, fun s b' e ys hs => (h.of s _ hs).1, fun s T g w₁ hs => (h.of s _ hs).1⟩ ((Below.refl B w).alloc h.base _) (St.put (hst.push ?_) hdn rfl)
  exact ⟨by simp, heap_alloc_new w _⟩

/-! ### Equality of arrays of arrays -/
section
variable {P : Program} {B : Nat} {E : Env} {dst : Option Tmp} {ty : TypeId} {pos : String} {after : Array Edge} {guard : Option (Nat × Bool)}
theorem equal_same_at (d : Nat) {t e : TypeId} {k : IntKind} {len : Nat} {z : Value} {nb : Nat} {xs : List Value} (w : World) (ht : P.underlying t = some (.array len e)) (he : P.underlying e = some (.int k)) (hs : InfoIs P e z nb) (hl : xs.length = len) (hx : ∀ u ∈ xs, ∃ n, u = .int k n) :
    (Op.equalIn (d + 2) t (.agg xs.toArray) (.agg xs.toArray)).run P w = .ok true w := by
  obtain ⟨info, hinfo, _, hsize, _⟩ := hs.get
  have hc : P.cellsOf e = 1 := by simp [Program.cellsOf, hinfo, hsize]
  rw [run_equalIn_array (w := w) (d + 1) xs.toArray xs.toArray ht hinfo, hc]
  exact eqItems_same d w he xs hx _ fun i hi => by rw [hl]; exact List.mem_range.1 hi
theorem eqItems_sameN {t e : TypeId} {k : IntKind} {len : Nat} {z : Value} {nb : Nat} (d : Nat) (w : World) (ht : P.underlying t = some (.array len e)) (hst : SizeIs P t len) (he : P.underlying e = some (.int k)) (hs : InfoIs P e z nb) (xs : List Value) (hx : ∀ u ∈ xs, ∃ n, u = .int k n) :
    ∀ is : List Nat, (∀ i ∈ is, i * len + len ≤ xs.length) → (Op.eqItems (d + 2) t len xs.toArray xs.toArray is).run P w = .ok true w := by
  obtain ⟨it, hit, hsz⟩ := hst.get
  have hagg : (isAgg t).run P w = .ok true w := by
    unfold isAgg
    rw [Sem.run_bind, run_underlying ht w]
    simp
  intro is
  induction is with
  | nil => intro _; simp [Op.eqItems]
  | cons i is ih =>
    intro h
    have hi := h i List.mem_cons_self
    have hp : (part t xs.toArray (i * len)).run P w = .ok (.agg ((xs.drop (i * len)).take len).toArray) w := by
      simp only [part, Sem.run_bind, hagg, Result.andThen_ok, if_true, sizeOf, typeInfo]
      simp [hit, hsz]
    have heq := equal_same_at (P := P) d (xs := (xs.drop (i * len)).take len) w ht he hs (by simp; omega) (fun u hu => hx u (List.mem_of_mem_drop (List.mem_of_mem_take hu)))
    simp only [Op.eqItems, Sem.run_bind, hp, Result.andThen_ok, heq]
    simpa using ih fun j hj => h j (List.mem_cons_of_mem _ hj)
/-- Two arrays of arrays of numbers that are the same. -/
theorem ok_eqlAA {t t' e : TypeId} {k : IntKind} {m len : Nat} {z : Value} {nb : Nat} {tt : TypeId} {x y : Operand} {xs ys : List Value} (ht : P.underlying t = some (.array m t')) (ht' : P.underlying t' = some (.array len e)) (hst : SizeIs P t' len) (he : P.underlying e = some (.int k)) (hs : InfoIs P e z nb) (hm : P.eqGuardType P.depth t = false)
    (hx : E.at x = some (.v (aggV xs))) (hy : E.at y = some (.v (aggV ys))) (hxy : ys = xs) (hl : xs.length = m * len) (hxs : ∀ u ∈ xs, ∃ n, u = .int k n) : OpOk P B ⟨dst, .binOp .eql t x y tt, ty, pos, after, guard⟩ E (.v (.bool true)) := fun ρ w _ _ hρ => by
  subst hxy
  have h1 : ρ x = .agg ys.toArray := hρ x (by simp [Op.operands]) _ hx
  have h2 : ρ y = .agg ys.toArray := hρ y (by simp [Op.operands]) _ hy
  obtain ⟨it, hit, hsz⟩ := hst.get
  have hc : P.cellsOf t' = len := by simp [Program.cellsOf, hit, hsz]
  have : (Op.equalIn 10000 t (.agg ys.toArray) (.agg ys.toArray)).run P w = .ok true w := by
    rw [show (10000 : Nat) = 9999 + 1 from rfl, run_equalIn_array (w := w) 9999 ys.toArray ys.toArray ht hit, hc]
    refine eqItems_sameN (P := P) 9997 w ht' hst he hs ys hxs _ fun i hi => ?_
    have hi := List.mem_range.1 hi
    rw [hl, ← Nat.succ_mul]
    exact Nat.mul_le_mul_right _ hi
  exact out_val (w' := w) (by simp [execOp, h1, h2, Sem.run_bind, run_eqGuard_agg, hm, run_eql_struct, this]) ⟨Grow.refl w, rfl⟩
end
end Go.Proofs.Ytdnblilocdddpaa
