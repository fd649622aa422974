/-
  OWN WORDS: conversions of constant strings to bytes. The model marks the new block (one place behind its cells); so memory does not only grow. A region in which such marks are made, in every order; the facts made in it are of a kind that marks leave alone. Nothing of one program stands here.
-/
import Derived.Test.YtdnblilocdddpaaRange
namespace Go.Proofs.Ytdnblilocdddpaa
open Go Go.RowKit

/-- Memory grows, and blocks from m on may be marked. -/
structure Marks (m : Nat) (w w' : World) : Prop where
  os : w'.os = w.os
  tape : w'.tape = w.tape
  output : w'.output = w.output
  size : w.heap.size ≤ w'.heap.size
  block : ∀ k o, w.heap[k]? = some o → w'.heap[k]? = some o ∨ (m ≤ k ∧ ∃ cs e fr fr', o = .cells cs e fr ∧ w'.heap[k]? = some (.cells cs e fr'))
theorem Marks.of {m : Nat} {w w' : World} (h : Grow w w') : Marks m w w' := ⟨h.os, h.tape, h.output, h.size, fun k _ hk => .inl ((h.block k (Array.getElem?_eq_some_iff.1 hk).1).trans hk)⟩
theorem Marks.below {m : Nat} {w w' : World} (h : Marks m w w') (hm : m ≤ w.heap.size) : Below m w w' := ⟨h.os, h.tape, h.output, h.size, fun k hk => by
  have hlt : k < w.heap.size := by omega
  rcases h.block k _ (Array.getElem?_eq_getElem hlt) with h1 | ⟨h1, _⟩
  · rw [h1, Array.getElem?_eq_getElem hlt]
  · omega⟩
theorem Marks.cell {m : Nat} {w w' : World} (h : Marks m w w') {a : Addr} {v : Value} (hc : w.cell? a = some v) : w'.cell? a = some v := by
  unfold World.cell? at hc ⊢
  cases hb : w.heap[a.block]? with
  | none => rw [hb] at hc; cases hc
  | some o =>
    rw [hb] at hc
    rcases h.block _ _ hb with h1 | ⟨_, cs, e, fr, fr', rfl, h1⟩
    · rw [h1]; exact hc
    · rw [h1]; exact hc

/-- The fact is left alone by marks. -/
class StbM (d : D) : Prop where
  st : ∀ m w w' B x, Marks m w w' → d.OfB B w x → d.OfB B w' x
instance (x : Value) : StbM (.v x) := ⟨fun _ _ _ _ _ _ h => h⟩
class StbL (ds : List D) : Prop where
  st : ∀ (j : Nat) (d : D), ds[j]? = some d → StbM d
instance : StbL [] := ⟨fun _ _ h => by simp at h⟩
instance (d : D) (ds : List D) [hd : StbM d] [hl : StbL ds] : StbL (d :: ds) := ⟨fun j e h => by
  cases j with
  | zero => simp at h; subst h; exact hd
  | succ j => exact hl.st j e (by simpa using h)⟩
instance (l : List UInt8) : StbL (l.map byteD) := ⟨fun j d h => by
  simp only [List.getElem?_map, Option.map_eq_some_iff] at h
  obtain ⟨b, _, rfl⟩ := h
  exact inferInstanceAs (StbM (.v _))⟩
instance (b : UInt8) : StbM (byteD b) := inferInstanceAs (StbM (.v _))
theorem ListF.mark {ds : List D} [hl : StbL ds] {c B m : Nat} {w w' : World} {x : Value} (k : Marks m w w') : ListF ds c B w x → ListF ds c B w' x :=
  fun ⟨A, vs, h1, h2, h3, h4, h5, h6⟩ => ⟨A, vs, h1, h2, h3, h4, fun j u hu => by
    obtain ⟨ad, g1, g2, g3⟩ := h5 j u hu
    exact ⟨ad, g1, g2, k.cell g3⟩, fun j d u hd hu => (hl.st j d hd).st m w w' B u k (h6 j d u hd hu)⟩
instance (ds : List D) (c : Nat) [StbL ds] : StbM (list ds c) := ⟨fun _ _ _ _ _ k h => ListF.mark k h⟩
instance (ds : List D) [StbL ds] : StbM (lst ds) := ⟨fun _ _ _ _ _ k ⟨c, h⟩ => ⟨c, ListF.mark k h⟩⟩
instance (l : List UInt8) (c : Nat) : StbM (bytes l c) := inferInstanceAs (StbM (list _ c))
instance (l : List UInt8) : StbM (byt l) := inferInstanceAs (StbM (lst _))
/-- A slice over a block from m on. -/
def newL (m : Nat) (ds : List D) (c : Nat) : D := .p (fun B w x => (∃ (a : Addr) (len : Nat), x = .slice (some a) len c ∧ m ≤ a.block ∧ a.block < B) ∧ ListF ds c B w x) (fun _ _ _ _ g ⟨h1, h2⟩ => ⟨h1, h2.keep g⟩) (fun _ _ _ _ g ⟨⟨a, l, h0, h1, h2⟩, h3⟩ => ⟨⟨a, l, h0, h1, by omega⟩, h3.up g⟩)
instance (m : Nat) (ds : List D) (c : Nat) [StbL ds] : StbM (newL m ds c) := ⟨fun _ _ _ _ _ k ⟨h1, h2⟩ => ⟨h1, ListF.mark k h2⟩⟩
theorem newL_le {m : Nat} {ds : List D} {c : Nat} : Le (newL m ds c) (list ds c) := fun _ _ _ h => h.2
theorem newL_byt {m : Nat} {ds : List D} {c : Nat} {l : List UInt8} (h : ds = l.map byteD) : Le (newL m ds c) (byt l) := h ▸ newL_le.trans (le_lst _ c)

/-! ### Operations -/
def OpOkM (P : Program) (m B : Nat) (o : Oper) (E : Env) (d : D) : Prop :=
  ∀ (ρ : Operand → Value) (w : World), B ≤ w.heap.size → m ≤ w.heap.size → (∀ t e, vbase ≤ t → E.look t = some e → e.Of w undef) → (∀ x, x ∈ o.op.operands → ∀ e, E.at x = some e → e.Of w (ρ x)) → Out P o ρ w fun x w' => Marks m w w' ∧ d.Of w' x
theorem OpOk.m {P : Program} {m B : Nat} {o : Oper} {E : Env} {d : D} (h : OpOk P B o E d) : OpOkM P m B o E d := fun ρ w hB _ hv hρ => (h ρ w hB hv hρ).mono fun _ _ hx => ⟨Marks.of hx.1, hx.2⟩
section
variable {P : Program} {m B : Nat} {E : Env} {dst : Option Tmp} {ty : TypeId} {pos : String} {after : Array Edge} {guard : Option (Nat × Bool)}
theorem build_run {t e : TypeId} {n : Nat} {ps : Array (Nat × Operand)} {z : Value} {nb : Nat} (ds : List D) (ht : P.underlying t = some (.slice e)) (hinfo : InfoIs P e z nb) (hz1 : z.cells = #[z])
    (hn : 0 < n) (hn' : n ≤ 65536) (hl : ds.length = n) (hp : Parts E ds ps.toList 0) (h1 : ∀ d ∈ ds, ∀ w x, d.Of w x → x.oneCell' = true) (ρ : Operand → Value) (w : World)
    (hρ : ∀ x, x ∈ (Op.buildSlice t n ps).operands → ∀ e, E.at x = some e → e.Of w (ρ x)) :
    ∃ us : Array Value, (execOp ρ ⟨dst, .buildSlice t n ps, ty, pos, after, guard⟩).run P w = .ok (.value (.slice (some ⟨w.heap.size, 0, none⟩) n n)) (w.alloc (.cells us e)) := by
  obtain ⟨i, hi, hz, hs, _⟩ := hinfo.get
  let us : List Value := ps.toList.map fun p => ρ p.2
  have hul : us.length = n := by simp only [us, List.length_map]; rw [← hp.length, hl]
  have hof : ∀ (j : Nat) (d : D), ds[j]? = some d → ∃ u, us[j]? = some u ∧ d.Of w u := fun j d hd => by
    obtain ⟨x, hx, he⟩ := hp.nth hd
    refine ⟨ρ x, by simp only [us, List.getElem?_map, hx]; rfl, hρ x ?_ d he⟩
    simp only [Op.operands, List.mem_toArray, List.mem_map]
    exact ⟨_, List.mem_of_getElem? hx, rfl⟩
  have hus : ∀ u ∈ us, u.oneCell' = true := fun u hu => by
    obtain ⟨j, hj⟩ := List.mem_iff_getElem?.1 hu
    have hlt : j < ds.length := by have := (List.getElem?_eq_some_iff.1 hj).1; omega
    obtain ⟨u', hu', hd⟩ := hof j ds[j] (List.getElem?_eq_getElem hlt)
    rw [hj] at hu'; injection hu' with hu'; subst hu'
    exact h1 _ (List.getElem_mem hlt) w u hd
  have hparts : (ps.map fun (i, x) => (i, ρ x)).toList = (us.zipIdx 0).map fun x => (x.2, x.1) := by
    apply List.ext_getElem?
    intro j
    rcases Nat.lt_or_ge j ds.length with hj | hj
    · obtain ⟨x, hx, _⟩ := hp.nth (List.getElem?_eq_getElem hj)
      have hx' : ps[j]? = some (0 + j, x) := by simpa using hx
      simp [us, List.getElem?_zipIdx, hx']
    · rw [List.getElem?_eq_none (by simp; have := hp.length; simp at this; omega), List.getElem?_eq_none (by simp; omega)]
  have hz' : (Array.range (n * i.size)).map (z.cells[· % z.cells.size]!) = ([] ++ List.replicate n z).toArray := by
    rw [hs, hz1, Nat.mul_one]
    apply Array.ext
    · simp
    · intro j h1 h2; simp [Nat.mod_one]
  have hfill : Instr.fill (fun j => some (j * i.size, i.size)) ((Array.range (n * i.size)).map (z.cells[· % z.cells.size]!)) (ps.map fun (i, x) => (i, ρ x)).toList = some us.toArray := by
    rw [hz', hparts, hs, fill_dense us [] (List.replicate n z) 0 hus rfl (by simp [hul])]
    simp [hul]
  have hr := run_buildSlice (P := P) w t e n (ps.map fun (i, x) => (i, ρ x)) us.toArray i z ht hi hz (by rw [hs]; omega) (by rw [hs]; omega) hfill
  exact ⟨us.toArray, by simp [execOp, hr]⟩
/-- A slice literal, with where it lies. -/
theorem ok_buildN {t e : TypeId} {n : Nat} {ps : Array (Nat × Operand)} {z : Value} {nb : Nat} (ds : List D) (ht : P.underlying t = some (.slice e)) (hinfo : InfoIs P e z nb) (hz1 : z.cells = #[z])
    (hn : 0 < n) (hn' : n ≤ 65536) (hl : ds.length = n) (hp : Parts E ds ps.toList 0) (h1 : ∀ d ∈ ds, ∀ w x, d.Of w x → x.oneCell' = true) :
    OpOkM P m B ⟨dst, .buildSlice t n ps, ty, pos, after, guard⟩ E (newL m ds n) := fun ρ w hB hm hv hρ => by
  have := ok_build (P := P) (B := B) (dst := dst) (ty := ty) (pos := pos) (after := after) (guard := guard) ds ht hinfo hz1 hn hn' hl hp h1 ρ w hB hv hρ
  unfold Out at this ⊢
  obtain ⟨us, hrun⟩ := build_run (dst := dst) (ty := ty) (pos := pos) (after := after) (guard := guard) ds ht hinfo hz1 hn hn' hl hp h1 ρ w hρ
  rw [hrun] at this ⊢
  exact ⟨Marks.of this.1, ⟨⟨_, n, rfl, hm, by simp⟩, this.2⟩⟩
theorem freeze_key {w : World} {a : Addr} {k n : Nat} : (w.freeze ⟨a.block, k, none⟩ n).os = w.os ∧ (w.freeze ⟨a.block, k, none⟩ n).tape = w.tape ∧ (w.freeze ⟨a.block, k, none⟩ n).output = w.output ∧ (w.freeze ⟨a.block, k, none⟩ n).heap.size = w.heap.size ∧
      ∀ j o, w.heap[j]? = some o → (w.freeze ⟨a.block, k, none⟩ n).heap[j]? = some o ∨ (j = a.block ∧ ∃ cs e fr fr', o = .cells cs e fr ∧ (w.freeze ⟨a.block, k, none⟩ n).heap[j]? = some (.cells cs e fr')) := by
  unfold World.freeze
  split
  · exact ⟨rfl, rfl, rfl, rfl, fun j o h => .inl h⟩
  · refine ⟨rfl, rfl, rfl, by simp, fun j o h => ?_⟩
    by_cases hj : a.block = j
    · subst hj
      simp only [Array.getElem?_modify, if_true, h, Option.map_some]
      cases o with
      | cells cs e fr =>
        obtain ⟨s, t⟩ := fr
        simp only
        right
        refine ⟨by first | trivial | rfl, cs, e, (s, t), ?_⟩
        first
          | exact ⟨_, rfl, rfl⟩
          | (split <;> exact ⟨_, rfl, rfl⟩)
      | _ => exact .inl rfl
    · simp [Array.getElem?_modify, hj, h]
theorem freeze_marks {m : Nat} {w : World} {a : Addr} {k n : Nat} (hm : m ≤ a.block) : Marks m w (w.freeze ⟨a.block, k, none⟩ n) := by
  obtain ⟨h1, h2, h3, h4, h5⟩ := freeze_key (w := w) (a := a) (k := k) (n := n)
  refine ⟨h1, h2, h3, by omega, fun j o h => (h5 j o h).imp id ?_⟩
  rintro ⟨rfl, h6⟩
  exact ⟨hm, h6⟩
/-- The conversion of a constant string, which the translator lays as a slice literal. -/
theorem ok_convN {t e : TypeId} {x : Operand} {ds : List D} {c : Nat} [StbL ds] (ht : P.underlying t = some (.slice e)) (he : P.underlying e = some (.int .u8)) (hx : E.at x = some (newL m ds c)) :
    OpOkM P m B ⟨dst, .convert t t x, ty, pos, after, guard⟩ E (newL m ds c) := fun ρ w _ _ _ hρ => by
  have h1 : (newL m ds c).Of w (ρ x) := hρ x (by simp [Op.operands]) _ hx
  obtain ⟨⟨a, len, hv, hm, hlt⟩, hl⟩ := h1
  have hrun : ∃ w', (execOp ρ ⟨dst, .convert t t x, ty, pos, after, guard⟩).run P w = .ok (.value (ρ x)) w' ∧ Marks m w w' := by
    cases hb : w.heap[a.block]? with
    | none => rw [Array.getElem?_eq_getElem hlt] at hb; cases hb
    | some o =>
      cases o with
      | cells cs e' fr =>
        have hsh : (shape a.block).run P w = .ok (some (e', cs.size)) w := by simp [shape, Sem.run, World.shape?, hb]
        refine ⟨w.freeze ⟨a.block, cs.size, none⟩ 1, ?_, freeze_marks hm⟩
        simp [execOp, hv, convert, run_underlying ht, run_underlying he, markStringish, hsh]
      | _ =>
        refine ⟨w, ?_, Marks.of (Grow.refl w)⟩
        have hsh : (shape a.block).run P w = .ok none w := by simp [shape, Sem.run, World.shape?, hb]
        simp [execOp, hv, convert, run_underlying ht, run_underlying he, markStringish, hsh]
  obtain ⟨w', hrun, hmk⟩ := hrun
  exact out_val hrun ⟨hmk, ⟨a, len, hv, hm, Nat.lt_of_lt_of_le hlt hmk.size⟩, (ListF.mark hmk hl).up hmk.size⟩
end

/-! ### Regions -/
def GoodM (P : Program) (m B : Nat) (ops : Array Oper) (o : Oper) (E : Env) (d : D) : Prop :=
  (GuardIs ops E o true ∧ OpOkM P m B o E d) ∨ (GuardIs ops E o false ∧ d = .v undef)
inductive TraceM (P : Program) (m B : Nat) (ops : Array Oper) : List Oper → Env → List D → Env → Prop
  | nil {E : Env} : TraceM P m B ops [] E [] E
  | cons {o : Oper} {rest : List Oper} {E E' : Env} {t : Nat} {d : D} {ds : List D} (ht : o.dst = some t) (hg : GoodM P m B ops o E d) (hs : StbM d) (hr : TraceM P m B ops rest ((t, d) :: E) ds E') : TraceM P m B ops (o :: rest) E (d :: ds) E'
/-- The region's text from here on, and what is to be shown in the environment at its end. -/
def RunM (P : Program) (m B : Nat) (ops : Array Oper) (rest : List Oper) (E : Env) (C : Env → Prop) : Prop := ∃ ds E', TraceM P m B ops rest E ds E' ∧ C E'
section
variable {P : Program} {m B : Nat} {ops : Array Oper} {o : Oper} {rest : List Oper} {E : Env} {C : Env → Prop} {t : Nat} {d : D}
theorem RunM.nil (h : C E) : RunM P m B ops [] E C := ⟨[], E, .nil, h⟩
theorem RunM.mk [hs : StbM d] (ht : o.dst = some t) (hg : GoodM P m B ops o E d) (hr : RunM P m B ops rest ((t, d) :: E) C) : RunM P m B ops (o :: rest) E C := by
  obtain ⟨ds, E', h1, h2⟩ := hr; exact ⟨_, _, .cons ht hg hs h1, h2⟩
theorem RunM.stepM [StbM d] (ht : o.dst = some t) (hg : o.guard = none) (h : OpOkM P m B o E d) (hr : RunM P m B ops rest ((t, d) :: E) C) : RunM P m B ops (o :: rest) E C :=
  .mk ht (.inl ⟨by simp [GuardIs, hg], h⟩) hr
theorem RunM.step [StbM d] (ht : o.dst = some t) (hg : o.guard = none) (h : OpOk P B o E d) (hr : RunM P m B ops rest ((t, d) :: E) C) : RunM P m B ops (o :: rest) E C := .stepM ht hg h.m hr
theorem RunM.guardedM [StbM d] {j : Nat} {want : Bool} {s : Nat} (ht : o.dst = some t) (hg : o.guard = some (j, want)) (hj : ((ops[j]?).bind (·.dst)) = some s) (hE : E.look s = some (.v (.bool want))) (h : OpOkM P m B o E d) (hr : RunM P m B ops rest ((t, d) :: E) C) : RunM P m B ops (o :: rest) E C :=
  .mk ht (.inl ⟨by simp only [GuardIs, hg]; exact ⟨s, hj, .inl ⟨want, hE, by cases want <;> rfl⟩⟩, h⟩) hr
theorem RunM.guarded [StbM d] {j : Nat} {want : Bool} {s : Nat} (ht : o.dst = some t) (hg : o.guard = some (j, want)) (hj : ((ops[j]?).bind (·.dst)) = some s) (hE : E.look s = some (.v (.bool want))) (h : OpOk P B o E d) (hr : RunM P m B ops rest ((t, d) :: E) C) : RunM P m B ops (o :: rest) E C := .guardedM ht hg hj hE h.m hr
theorem RunM.skipped {j : Nat} {want c : Bool} {s : Nat} (ht : o.dst = some t) (hg : o.guard = some (j, want)) (hj : ((ops[j]?).bind (·.dst)) = some s) (hE : E.look s = some (.v (.bool c))) (hc : (c == want) = false) (hr : RunM P m B ops rest ((t, .v undef) :: E) C) : RunM P m B ops (o :: rest) E C :=
  .mk ht (.inr ⟨by simp only [GuardIs, hg]; exact ⟨s, hj, .inl ⟨c, hE, hc.symm⟩⟩, rfl⟩) hr
theorem RunM.as (x : Value) {y : Value} (h : y = x) (hr : RunM P m B ops rest ((t, .v x) :: E) C) : RunM P m B ops rest ((t, .v y) :: E) C := h ▸ hr
end
theorem TraceM.nth {P : Program} {m B : Nat} {ops : Array Oper} {rest : List Oper} {E E' : Env} {ds : List D} (h : TraceM P m B ops rest E ds E') : ∀ {i : Nat} {o : Oper}, rest[i]? = some o →
    ∃ t d Ei, o.dst = some t ∧ ds[i]? = some d ∧ GoodM P m B ops o Ei d ∧ ∀ s e, Ei.look s = some e →
      (∃ j o', j < i ∧ rest[j]? = some o' ∧ o'.dst = some s ∧ ds[j]? = some e) ∨ ((∀ j o', j < i → rest[j]? = some o' → o'.dst ≠ some s) ∧ E.look s = some e) := by
  induction h with
  | nil => intro i o hi; simp at hi
  | @cons o0 rest E E' t0 d0 ds ht hg hs hr ih =>
    intro i o hi
    cases i with
    | zero =>
      simp at hi; subst hi
      exact ⟨t0, d0, E, ht, rfl, hg, fun s e he => .inr ⟨fun j _ hj => by omega, he⟩⟩
    | succ i =>
      obtain ⟨t, d, Ei, h1, h2, h3, h4⟩ := ih (i := i) (by simpa using hi)
      refine ⟨t, d, Ei, h1, by simpa using h2, h3, fun s e he => ?_⟩
      rcases h4 s e he with ⟨j, o', hj, ho', hd, hds⟩ | ⟨hno, hl⟩
      · exact .inl ⟨j + 1, o', by omega, by simpa using ho', hd, by simpa using hds⟩
      · by_cases hs : t0 = s
        · subst hs
          rw [look_here] at hl
          exact .inl ⟨0, o0, by omega, rfl, ht, by simpa using hl⟩
        · rw [look_past _ _ hs] at hl
          refine .inr ⟨fun j o' hj ho' => ?_, hl⟩
          cases j with
          | zero => simp at ho'; subst ho'; rw [ht]; intro h; injection h with h; exact hs h
          | succ j => exact hno j o' (by omega) (by simpa using ho')
theorem TraceM.last {P : Program} {m B : Nat} {ops : Array Oper} {rest : List Oper} {E E' : Env} {ds : List D} (h : TraceM P m B ops rest E ds E') : ∀ s e, E'.look s = some e →
      (∃ (j : Nat) (o' : Oper), rest[j]? = some o' ∧ o'.dst = some s ∧ ds[j]? = some e) ∨ ((∀ (j : Nat) (o' : Oper), rest[j]? = some o' → o'.dst ≠ some s) ∧ E.look s = some e) := by
  induction h with
  | nil => intro s e he; exact .inr ⟨fun j _ hj => by simp at hj, he⟩
  | @cons o0 rest E E' t0 d0 ds ht hg hs hr ih =>
    intro s e he
    rcases ih s e he with ⟨j, o', ho', hd, hds⟩ | ⟨hno, hl⟩
    · exact .inl ⟨j + 1, o', by simpa using ho', hd, by simpa using hds⟩
    · by_cases hs : t0 = s
      · subst hs
        rw [look_here] at hl
        exact .inl ⟨0, o0, rfl, ht, by simpa using hl⟩
      · rw [look_past _ _ hs] at hl
        refine .inr ⟨fun j o' ho' => ?_, hl⟩
        cases j with
        | zero => simp at ho'; subst ho'; rw [ht]; intro h; injection h with h; exact hs h
        | succ j => exact hno j o' (by simpa using ho')
theorem TraceM.stb {P : Program} {m B : Nat} {ops : Array Oper} {rest : List Oper} {E E' : Env} {ds : List D} (h : TraceM P m B ops rest E ds E') : ∀ (j : Nat) (d : D), ds[j]? = some d → StbM d := by
  induction h with
  | nil => intro j d h; simp at h
  | cons _ _ hs _ ih =>
    intro j d h
    cases j with
    | zero => simp at h; subst h; exact hs
    | succ j => exact ih j d (by simpa using h)
section
variable {P : Program} {B : Nat} {ops : Array Oper} {Q : Exit → Act → World → Prop} {κ : Cx}
theorem goodM_wp {m : Nat} {E : Env} {o : Oper} {a : Act} {w : World} {K : Act → World → Prop} {t : Nat} {d : D} (hB : B ≤ w.heap.size) (hm : m ≤ w.heap.size) (hvirt : ∀ t e, vbase ≤ t → E.look t = some e → e.Of w undef) (ht : o.dst = some t) (hg : GoodM P m B ops o E d)
    (hl : ∀ s e, s ∈ o.looksAt ops → E.look s = some e → e.Of w (a.tmps.getD s undef)) (hsz : ∀ s, s ∈ o.looksAt ops → s < a.tmps.size)
    (hK : ∀ x w', Marks m w w' → d.Of w' x → K (a.put (some t) x) w') :
    if Region.wanted o (yielded ops a.tmps) = true then o.wpIn (FR κ.rd) 0 P a w K Q else K (a.put o.dst undef) w := by
  have hl' : ∀ s e, s ∈ o.looksAt ops → E.look s = some e → ∀ w, e.Of w (a.tmps.getD s undef) ∨ ∃ F k u, e = .p F k u := fun s e hs he w' => by
    cases e with
    | v y => exact .inl (hl s _ hs he)
    | p F k u => exact .inr ⟨F, k, u, rfl⟩
  rcases hg with ⟨hg, hok⟩ | ⟨hg, rfl⟩
  · rw [wanted_of hg hl' hsz, if_pos rfl]
    refine wp_of_out ht ((hok a.eval w hB hm hvirt fun x hx e he => ?_).mono fun x w' h => hK x w' h.1 h.2)
    cases x with
    | tmp s => exact hl s e (List.mem_append_left _ (List.mem_filterMap.2 ⟨.tmp s, by simpa using hx, rfl⟩)) he
    | const c => simp only [Env.at, Option.some.injEq] at he; subst he; rfl
    | global g => simp only [Env.at, Option.some.injEq] at he; subst he; rfl
    | func f => simp only [Env.at, Option.some.injEq] at he; subst he; rfl
  · rw [wanted_of hg hl' hsz, if_neg (by simp), ht]
    exact hK undef w (Marks.of (Grow.refl w)) rfl

theorem wp_segM {n : Nat} {E E' : Env} {ds : List D} {a₀ : Act} {w₀ : World} (htied : tied ops = true) (hfits : fits n ops = true) (ht : TraceM P w₀.heap.size B ops ops.toList E ds E') (h₀ : St κ n B E a₀ w₀)
    (hend : ∀ a' w', Grow w₀ w' → St κ n B E' a' w' → Q .normal a' w') :
    ∀ (fuel : Nat) (listed : Array Bool) (a : Act) (w : World), unlisted ops listed ≤ fuel → Inv κ n B ops 0 ops.size E ds a₀ w₀ listed a w → wpAnyIn (FR κ.rd) 0 P .any ops Q fuel listed a w := by
  have hst : ∀ (listed : Array Bool) (a : Act) (w : World), Inv κ n B ops 0 ops.size E ds a₀ w₀ listed a w → (∀ i, i < ops.size → listed.getD i false = true) → St κ n B E' a w := by
    intro listed a w I hall
    refine ⟨I.base, I.defers, I.size, fun t e he => ?_⟩
    rcases ht.last t e he with ⟨j, o, hj, hd, hds⟩ | ⟨hno, hl⟩
    · have hj' : ops[j]? = some o := by simpa using hj
      exact I.facts j o t e (Nat.zero_le _) hj' (hall _ (Array.getElem?_eq_some_iff.1 hj').1) hd (by simpa using hds)
    · rw [I.frame t fun i o _ hi hl' => hno i o (by simpa using hi)]
      exact (h₀.of t e hl).grow I.grow
  have hmin : ∀ (listed : Array Bool) (a : Act) (w : World), Inv κ n B ops 0 ops.size E ds a₀ w₀ listed a w → Region.ready .any ops listed = [] → ∀ i, i < ops.size → listed.getD i false = true := by
    intro listed a w I hr i
    induction i using Nat.strongRecOn with
    | _ i ih =>
      intro hi
      rcases hb : listed.getD i false with _ | _
      · exfalso
        have : i ∈ Region.ready .any ops listed := by
          rw [mem_ready]
          refine ⟨?_, ops[i], Array.getElem?_eq_getElem hi, fun e he hbd => ih e.on (tied_edge htied (Array.getElem?_eq_getElem hi) he hbd) (Nat.lt_trans (tied_edge htied (Array.getElem?_eq_getElem hi) he hbd) hi)⟩
          have : i < listed.size := by rw [I.lsize]; exact hi
          simp [this] at hb ⊢
          exact hb
        rw [hr] at this
        cases this
      · rfl
  intro fuel
  induction fuel with
  | zero =>
    intro listed a w hc I
    have hr : Region.ready .any ops listed = [] := by
      rcases hr : Region.ready .any ops listed with _ | ⟨i, l⟩
      · rfl
      · exfalso
        have hi : i ∈ Region.ready .any ops listed := by rw [hr]; exact List.mem_cons_self
        obtain ⟨hu, o, ho, _⟩ := mem_ready.1 hi
        have hpos : 0 < unlisted ops listed := List.countP_pos_iff.2 ⟨i, List.mem_range.2 (Array.getElem?_eq_some_iff.1 ho).1, by simp only [hu]; rfl⟩
        omega
    exact ⟨hr, hend a w I.grow (hst listed a w I (hmin listed a w I hr))⟩
  | succ fuel ih =>
    intro listed a w hc I
    refine ⟨fun hr => hend a w I.grow (hst listed a w I (hmin listed a w I hr)), fun i hi => ?_⟩
    obtain ⟨hu, o, ho, hall⟩ := mem_ready.1 hi
    have hlt : i < ops.size := (Array.getElem?_eq_some_iff.1 ho).1
    have huf : listed.getD i false = false := by
      have : i < listed.size := by rw [I.lsize]; exact hlt
      simp [this] at hu ⊢
      exact hu
    obtain ⟨t, d, Ei, hdst, hds, hgood, henv⟩ := ht.nth (i := i) (o := o) (by simpa using ho)
    have hf := fits_mem hfits (o := o) (by simpa using Array.mem_of_getElem? ho)
    refine wpOpR_step ho fun K hK => goodM_wp I.base I.grow.size (fun t e hvt he => ?_) hdst hgood (fun r e hs he => ?_) (fun r hs => by rw [I.size]; exact hf.1 r hs) fun x w' g hx => hK _ _ (ih _ _ _ ?_ ?_)
    · have hnb := fits_base hfits
      rcases henv t e he with ⟨j, q, hji, hj, hpd, hpds⟩ | ⟨hno, hl⟩
      · have hj' : ops[j]? = some q := by simpa using hj
        have h9 : t < n := (fits_mem hfits (o := q) (by simpa using Array.mem_of_getElem? hj')).2 t hpd
        exact absurd (Nat.lt_of_lt_of_le h9 hnb) (Nat.not_lt.2 hvt)
      · have h1 := (h₀.virt hnb) t e hvt hl
        exact h1.grow I.grow
    · rcases henv r e he with ⟨j, q, hji, hj, hpd, hpds⟩ | ⟨hno, hl⟩
      · have hj' : ops[j]? = some q := by simpa using hj
        obtain ⟨ed, he1, hb, hon⟩ := ((tied_pair htied ho hj' hpd (by omega)).2 hs).1 (by omega)
        refine I.facts j q r e (Nat.zero_le _) hj' ?_ hpd (by simpa using hpds)
        rw [← hon]
        exact hall ed he1 hb
      · rw [I.frame r]
        · exact (h₀.of r e hl).grow I.grow
        · intro j q _ hj hlist hpd
          by_cases hji : j = i
          · subst hji; rw [huf] at hlist; cases hlist
          · rcases Nat.lt_or_ge j i with h | h
            · exact hno j q (by omega) (by simpa using hj) hpd
            · obtain ⟨ed, he1, hb, hon⟩ := ((tied_pair htied ho hj hpd hji).2 hs).2 (by omega)
              have := I.closed j q hj hlist ed he1 hb
              rw [hon, huf] at this
              cases this
    · have : unlisted ops (listed.setIfInBounds i true) < unlisted ops listed := by
        refine countP_lt (x := i) (fun y hy => ?_) (List.mem_range.2 hlt) (by simp only [hu]; rfl) ?_
        · by_cases hyi : i = y
          · subst hyi
            have : i < listed.size := by rw [I.lsize]; exact hlt
            simp [this] at hy
          · rw [getD_set_ne true hyi] at hy; exact hy
        · have : i < listed.size := by rw [I.lsize]; exact hlt
          simp [this]
      omega
    · have hset : ∀ j, (listed.setIfInBounds i true).getD j false = true → j = i ∨ listed.getD j false = true := fun j hj => by
        by_cases hji : i = j
        · exact .inl hji.symm
        · rw [getD_set_ne false hji] at hj; exact .inr hj
      have hgr : Grow w₀ w' := Below.trans I.grow (g.below I.grow.size)
      refine ⟨hgr, Nat.le_trans I.base g.size, by simp [I.lsize], fun j hj hj' => by omega, fun j hj => ?_, I.defers, by simp [Act.put, I.size], ?_, ?_, ?_⟩
      · rw [getD_set_ne false (by omega)]; exact I.high j hj
      · intro j q hj hl e he hb
        rcases hset j hl with rfl | hl
        · rw [ho] at hj; injection hj with hj; subst hj
          exact getD_set_true (hall e he hb)
        · exact getD_set_true (I.closed j q hj hl e he hb)
      · intro j q r e _ hj hl hpd hpds
        by_cases hji : j = i
        · subst hji
          rw [ho] at hj; injection hj with hj; subst hj
          rw [hdst] at hpd; injection hpd with hpd; subst hpd
          rw [Nat.sub_zero, hds] at hpds; injection hpds with hpds; subst hpds
          rw [getD_put_here _ _ (by rw [I.size]; exact hf.2 _ hdst)]
          exact hx
        · have hl' := (hset j hl).resolve_left hji
          have hne : t ≠ r := fun h => (tied_pair htied ho hj hpd hji).1 (by rw [hdst, h])
          rw [getD_put_past _ _ hne]
          have h1 := I.facts j q r e (Nat.zero_le _) hj hl' hpd hpds
          exact ((ht.stb j e (by simpa using hpds)).st _ _ _ _ _ g h1).up g.size
      · intro r hs
        have hne : t ≠ r := fun h => hs i o (Nat.zero_le _) ho (by have : i < listed.size := by rw [I.lsize]; exact hlt
                                                                   simp [this]) (by rw [hdst, h])
        rw [getD_put_past _ _ hne]
        refine I.frame r fun j q hsj hj hl => hs j q hsj hj (getD_set_true hl)

/-- A drawn region in which constants become bytes. -/
theorem A.regsM {w₀ : World} {n : Nat} {y : Code} {E : Env} {id : Nat} (hm : P.follows .mixedOrders = true) (hf : fits n ops = true) (ht : tied ops = true)
    (hr : ∀ m, w₀.heap.size ≤ m → RunM P m w₀.heap.size ops ops.toList E (fun E₁ => A κ P w₀ n y E₁ Q)) : A κ P w₀ n (.seq (.region id ops true) y) E Q := A.seq fun a w hg hst => by
  obtain ⟨ds, E', htr, hC⟩ := hr w.drew.heap.size (show w₀.heap.size ≤ w.heap.size from hst.base)
  have hst' : St κ n w₀.heap.size E a w.drew := hst.grow (Grow.refl w).drew
  refine wpIn_region_any hm (wp_segM ht hf htr hst' (fun a' w' g' h' => hC a' w' (hg.trans (((Below.refl _ w).drew).trans (g'.mono hst.base))) h') _ _ _ _ ?_ (start_inv (Nat.zero_le _) ht (by simp) (fun i hi => by simp [hi]) hst'))
  refine Nat.le_trans List.countP_le_length ?_
  simp
end
/-! ### Constants in a region whose order is the text's: the conversion is an effect -/
/-- A slice of constant bytes over a block of the call's own. -/
def newT (B : Nat) (e : TypeId) (l : List UInt8) (c : Nat) : D := .p (fun B' w x => (∃ (a : Addr) (len : Nat) (cs : Array Value) (fr : Nat × Nat), x = .slice (some a) len c ∧ B ≤ a.block ∧ a.block < B' ∧ w.heap[a.block]? = some (.cells cs e fr)) ∧ ListF (l.map byteD) c B' w x)
  (fun _ _ _ _ g ⟨⟨a, len, cs, fr, h0, h1, h2, h3⟩, h4⟩ => ⟨⟨a, len, cs, fr, h0, h1, h2, (g.block _ h2).trans h3⟩, h4.keep g⟩)
  (fun _ _ _ _ g ⟨⟨a, len, cs, fr, h0, h1, h2, h3⟩, h4⟩ => ⟨⟨a, len, cs, fr, h0, h1, by omega, h3⟩, h4.up g⟩)
instance (B : Nat) (e : TypeId) (l : List UInt8) (c : Nat) : StbM (newT B e l c) := ⟨fun m w w' B' x k ⟨⟨a, len, cs, fr, h0, h1, h2, h3⟩, h4⟩ => ⟨by
  rcases k.block _ _ h3 with h | ⟨_, cs', e', fr', fr'', h5, h⟩
  · exact ⟨a, len, cs, fr, h0, h1, h2, h⟩
  · injection h5 with h6 h7 h8
    subst h6; subst h7
    exact ⟨a, len, _, _, h0, h1, h2, h⟩, ListF.mark k h4⟩⟩
theorem newT_byt {B : Nat} {e : TypeId} {l : List UInt8} {c : Nat} : Le (newT B e l c) (byt l) := fun _ _ _ h => ⟨c, h.2⟩
theorem newT_list {B : Nat} {e : TypeId} {l : List UInt8} {c : Nat} : Le (newT B e l c) (list (l.map byteD) c) := fun _ _ _ h => h.2
theorem newT_one {B : Nat} {e : TypeId} {l : List UInt8} {c : Nat} {w : World} {x : Value} (h : (newT B e l c).Of w x) : x.oneCell' = true := list_one (newT_list.of h)
theorem Surv.newT {B T g base : Nat} {e : TypeId} {l : List UInt8} {c : Nat} (h : e ≠ T) : Surv B T g (Go.Proofs.Ytdnblilocdddpaa.newT base e l c) := fun w w' x k ⟨⟨a, len, cs, fr, h0, h1, h2, h3⟩, A, vs, g1, g2, g3, g4, g5, g6⟩ => by
  have hne : a.block ≠ g := fun hb => h (by subst hb; exact k.row _ _ _ h3)
  have hsame : w'.heap[a.block]? = w.heap[a.block]? := k.other _ h2 hne
  refine ⟨⟨a, len, cs, fr, h0, h1, Nat.lt_of_lt_of_le h2 k.size, hsame.trans h3⟩, A, vs, g1, g2, g3, g4, fun j u hu => ?_, fun j d u hd hu => ?_⟩
  · obtain ⟨ad, e1, e2, e3⟩ := g5 j u hu
    refine ⟨ad, e1, Nat.lt_of_lt_of_le e2 k.size, ?_⟩
    have hab : ad = a := by
      subst e1; rw [h0] at g1; injection g1 with g1; injection g1 with g1; exact g1.symm
    subst hab
    unfold World.cell? at e3 ⊢
    have hbl : (ad.add j).block = ad.block := by unfold Addr.add; try split <;> rfl
    rw [hbl] at e3 ⊢
    rw [hsame]; exact e3
  · have h9 := g6 j d u hd hu
    simp only [List.getElem?_map, Option.map_eq_some_iff] at hd
    obtain ⟨b, _, rfl⟩ := hd
    exact h9
theorem ok_buildT {P : Program} {B : Nat} {E : Env} {dst : Option Tmp} {ty : TypeId} {pos : String} {after : Array Edge} {guard : Option (Nat × Bool)} {t e : TypeId} {n : Nat} {ps : Array (Nat × Operand)} {z : Value} {nb : Nat} (l : List UInt8) (ht : P.underlying t = some (.slice e)) (hinfo : InfoIs P e z nb) (hz1 : z.cells = #[z])
    (hn : 0 < n) (hn' : n ≤ 65536) (hl : l.length = n) (hp : Parts E (l.map byteD) ps.toList 0) :
    OpOk P B ⟨dst, .buildSlice t n ps, ty, pos, after, guard⟩ E (newT B e l n) := fun ρ w hB hv hρ => by
  have h1 : ∀ d ∈ l.map byteD, ∀ w x, d.Of w x → x.oneCell' = true := fun d hd w x h => by
    simp only [List.mem_map] at hd; obtain ⟨b, _, rfl⟩ := hd; exact v_one rfl h
  have hlm : (l.map byteD).length = n := by rw [List.length_map, hl]
  have := ok_build (P := P) (B := B) (dst := dst) (ty := ty) (pos := pos) (after := after) (guard := guard) (l.map byteD) ht hinfo hz1 hn hn' hlm hp h1 ρ w hB hv hρ
  obtain ⟨us, hrun⟩ := build_run (P := P) (dst := dst) (ty := ty) (pos := pos) (after := after) (guard := guard) (l.map byteD) ht hinfo hz1 hn hn' hlm hp h1 ρ w hρ
  unfold Out at this ⊢
  rw [hrun] at this ⊢
  exact ⟨this.1, ⟨⟨_, n, us, (0, 0), rfl, hB, by simp, heap_alloc_new w _⟩, this.2⟩⟩
def SurvM (B T g : Nat) (d : D) : Prop := ∀ w w' x, Wrote B T g w w' → Marks B w w' → d.Of w x → d.Of w' x
theorem SurvM.of {B T g : Nat} {d : D} (h : Surv B T g d) : SurvM B T g d := fun w w' x k _ hx => h w w' x k hx
theorem SurvM.stb {B T g : Nat} {d : D} [hs : StbM d] : SurvM B T g d := fun _ _ _ _ m hx => (hs.st _ _ _ _ _ m hx).up m.size
def LeftM (B T g : Nat) (E' E : Env) : Prop := ∀ p ∈ E', E.look p.1 = some p.2 ∧ SurvM B T g p.2
theorem LeftM.nil {B T g : Nat} {E : Env} : LeftM B T g [] E := fun _ h => by cases h
theorem LeftM.cons {B T g : Nat} {E E' : Env} {t : Nat} {d : D} (h : E.look t = some d) (hs : SurvM B T g d) (hr : LeftM B T g E' E) : LeftM B T g ((t, d) :: E') E := fun p hp => by
  rcases List.mem_cons.1 hp with rfl | hp
  · exact ⟨h, hs⟩
  · exact hr p hp
theorem eff_convN {P : Program} {n B : Nat} {ops : Array Oper} {E E' : Env} {ty : TypeId} {pos : String} {after : Array Edge} {t e : TypeId} {x : Operand} {l : List UInt8} {c dst : Nat} (ht : P.underlying t = some (.slice e)) (he : P.underlying e = some (.int .u8)) (hx : E.at x = some (newT B e l c)) (hdst : dst < n) (hl : ∀ g, B ≤ g → LeftM B e g E' E) :
    Eff P n B ops ⟨some dst, .convert t t x, ty, pos, after, none⟩ E ((dst, newT B e l c) :: E') := by
  intro κ a w K Q h hK
  have h0 : (newT B e l c).Of w (a.eval x) := h.at_ x _ hx
  obtain ⟨⟨ad, len, cs, fr, hv, hb, hlt, hh⟩, hlf⟩ := h0
  have hsh : (shape ad.block).run P w = .ok (some (e, cs.size)) w := by simp [shape, Sem.run, World.shape?, hh]
  have hexec : (execOp a.eval ⟨some dst, .convert t t x, ty, pos, after, none⟩).run P w = .ok (.value (a.eval x)) (w.freeze ⟨ad.block, cs.size, none⟩ 1) := by
    simp [execOp, hv, convert, run_underlying ht, run_underlying he, markStringish, hsh]
  rw [if_pos (by simp [Region.wanted])]
  refine opR (by nofun) ?_
  unfold Oper.wp
  rw [hexec, Oper.upon_value]
  have hmk := freeze_marks (w := w) (k := cs.size) (n := 1) hb
  have hwr : Wrote B e ad.block w (w.freeze ⟨ad.block, cs.size, none⟩ 1) := by
    obtain ⟨_, _, _, _, h5⟩ := freeze_key (w := w) (a := ad) (k := cs.size) (n := 1)
    refine ⟨hb, hmk.os, hmk.tape, hmk.output, hmk.size, fun o ho => ?_, fun j hj hne => ?_⟩
    · rw [hh] at ho; injection ho with ho; exact ⟨_, _, ho.symm⟩
    · rcases h5 j _ (Array.getElem?_eq_getElem hj) with h6 | ⟨h6, _⟩
      · rw [h6, Array.getElem?_eq_getElem hj]
      · exact absurd h6 hne
  have hst : St κ n B E' a (w.freeze ⟨ad.block, cs.size, none⟩ 1) := ⟨Nat.le_trans h.base hmk.size, h.defers, h.size, fun s d hd => by
    obtain ⟨h6, h7⟩ := hl ad.block hb _ (look_mem hd)
    exact h7 _ _ _ hwr hmk (h.of s d h6)⟩
  refine hK _ _ (hmk.below h.base) (hst.put hdst ?_)
  exact (StbM.st _ _ _ _ _ hmk (h.at_ x _ hx)).up hmk.size
end Go.Proofs.Ytdnblilocdddpaa
