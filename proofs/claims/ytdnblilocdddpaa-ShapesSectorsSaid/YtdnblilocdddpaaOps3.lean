/-
  OWN WORDS, PART FOUR: blocks by name. A variable of an array's or a struct's type is a block of its own with a name (its number); a write into it leaves what is known of every other block. Nothing of one program stands here.
-/
import Derived.Test.YtdnblilocdddpaaOps2
import Derived.Laws.Tables
import Derived.Laws.Rows
namespace Go.Proofs.Ytdnblilocdddpaa
open Go Go.RowKit
variable {κ : Cx}

/-! ### One block is written -/
/-- At most block g, whose cells are of type T, has changed of what was there; g is B or above. -/
structure Wrote (B : Nat) (T : TypeId) (g : Nat) (w w' : World) : Prop where
  base : B ≤ g
  os : w'.os = w.os
  tape : w'.tape = w.tape
  output : w'.output = w.output
  size : w.heap.size ≤ w'.heap.size
  cel : ∀ o, w.heap[g]? = some o → ∃ cs fr, o = .cells cs T fr
  other : ∀ k, k < w.heap.size → k ≠ g → w'.heap[k]? = w.heap[k]?
theorem Wrote.row {B T g : Nat} {w w' : World} (h : Wrote B T g w w') (cs : Array Value) (e : TypeId) (fr : Nat × Nat) (hh : w.heap[g]? = some (.cells cs e fr)) : e = T := by
  obtain ⟨_, _, hx⟩ := h.cel _ hh
  injection hx
theorem Wrote.under {B T g : Nat} {w w' : World} (h : Wrote B T g w w') {k : Nat} (hg : k ≤ g) (hk : k ≤ w.heap.size) : Below k w w' :=
  ⟨h.os, h.tape, h.output, h.size, fun j hj => h.other j (by omega) (by omega)⟩
/-- The fact survives it. -/
def Surv (B T g : Nat) (d : D) : Prop := ∀ w w' x, Wrote B T g w w' → d.Of w x → d.Of w' x
theorem Surv.v {B T g : Nat} (y : Value) : Surv B T g (.v y) := fun _ _ _ _ h => h
theorem Surv.old {B T g B' : Nat} {d : D} (h : B' ≤ g) : Surv B T g (Go.Proofs.Ytdnblilocdddpaa.old B' d) := fun _ _ _ k ⟨h1, h2⟩ => ⟨Nat.le_trans h1 k.size, D.OfB.keep h2 (k.under h h1)⟩
theorem Surv.blk {B T g b : Nat} {e : TypeId} {xs : List Value} (h : b ≠ g) : Surv B T g (Go.Proofs.Ytdnblilocdddpaa.blk b e xs) := fun _ _ _ k ⟨h1, h2⟩ => ⟨Nat.lt_of_lt_of_le h1 k.size, (k.other b h1 h).trans h2⟩
theorem Surv.blkT {B T g b : Nat} {e : TypeId} {xs : List Value} (h : e ≠ T) : Surv B T g (Go.Proofs.Ytdnblilocdddpaa.blk b e xs) := fun w w' x k hx => by
  refine Surv.blk (B := B) (T := T) (fun hb => h ?_) w w' x k hx
  subst hb; exact k.row _ _ _ hx.2
theorem Surv.own {B T g base n : Nat} {e : TypeId} {xs : List Value} (h : e ≠ T) : Surv B T g (Go.Proofs.Ytdnblilocdddpaa.own base e n xs) := fun w w' x k ⟨h1, h2⟩ => by
  obtain ⟨h3, h4⟩ := h1
  refine ⟨⟨h3, h4.imp id ?_⟩, fun j hj => Nat.lt_of_lt_of_le (h2 j hj) k.size⟩
  rintro ⟨j, cap, cur, rfl, hj, hh, hr⟩
  have hne : j ≠ g := fun hb => h (by subst hb; exact k.row _ _ _ hh)
  exact ⟨j, cap, cur, rfl, hj, (k.other j (h2 j (by simp [Value.ownBlock])) hne).trans hh, hr⟩
theorem Surv.fresh {B T g base n : Nat} {e : TypeId} {xs : List Value} (h : e ≠ T) : Surv B T g (Go.Proofs.Ytdnblilocdddpaa.fresh base e xs n) := fun w w' x k ⟨b, h1, h2, h3, h4⟩ => by
  have hne : b ≠ g := fun hb => h (by subst hb; exact k.row _ _ _ h4)
  exact ⟨b, h1, h2, Nat.lt_of_lt_of_le h3 k.size, (k.other b h3 hne).trans h4⟩
def LeftS (B T g : Nat) (E' E : Env) : Prop := ∀ p ∈ E', E.look p.1 = some p.2 ∧ Surv B T g p.2
theorem LeftS.nil {B T g : Nat} {E : Env} : LeftS B T g [] E := fun _ h => by cases h
theorem LeftS.cons {B T g : Nat} {E E' : Env} {t : Nat} {d : D} (h : E.look t = some d) (hs : Surv B T g d) (hr : LeftS B T g E' E) : LeftS B T g ((t, d) :: E') E := fun p hp => by
  rcases List.mem_cons.1 hp with rfl | hp
  · exact ⟨h, hs⟩
  · exact hr p hp
theorem LeftS.st {n B T g : Nat} {E E' : Env} {a : Act} {w w' : World} (hl : LeftS B T g E' E) (h : St κ n B E a w) (k : Wrote B T g w w') : St κ n B E' a w' :=
  ⟨Nat.le_trans h.base k.size, h.defers, h.size, fun t d hd => by
    obtain ⟨h1, h2⟩ := hl _ (look_mem hd)
    exact h2 _ _ _ k (h.of t d h1)⟩
theorem Wrote.setRow {B g : Nat} {w : World} {old : Array Value} {T : TypeId} (hb : B ≤ g) (hh : w.heap[g]? = some (.cells old T (0, 0))) (cs : Array Value) : Wrote B T g w (w.setRow g cs) :=
  ⟨hb, rfl, rfl, rfl, by simp, fun o h => by rw [hh] at h; injection h with h; exact ⟨_, _, h.symm⟩, fun k _ hk => setRow_other w g k cs hk⟩
theorem Wrote.below {B T g : Nat} {w w' : World} (h : Wrote B T g w w') (hB : B ≤ w.heap.size) : Below B w w' := h.under h.base hB

/-! ### The row of a type whose values have several cells -/
def SizeIs (P : Program) (T : TypeId) (m : Nat) : Prop := (P.info? T).map (·.size) = some m
def ZeroIs (P : Program) (T : TypeId) (zs : List Value) : Prop := (P.info? T).bind (fun i => i.zero.map (fun z => z.cells.toList)) = some zs
theorem ZeroIs.get {P : Program} {T : TypeId} {zs : List Value} (h : ZeroIs P T zs) : ∃ i z, P.info? T = some i ∧ i.zero = some z ∧ z.cells = zs.toArray := by
  unfold ZeroIs at h
  cases hi : P.info? T with
  | none => rw [hi] at h; cases h
  | some i =>
    rw [hi] at h
    cases hz : i.zero with
    | none => simp [hz] at h
    | some z => simp [hz] at h; exact ⟨i, z, rfl, hz, by rw [← h]⟩
theorem SizeIs.of {P : Program} {T : TypeId} {m m' : Nat} (h : SizeIs P T m) (e : m' = m) : SizeIs P T m' := e ▸ h
def aggV (xs : List Value) : Value := .agg xs.toArray

section
variable {P : Program} {n B : Nat} {ops : Array Oper} {E : Env} {dst : Option Tmp} {ty : TypeId} {pos : String} {after : Array Edge} {guard : Option (Nat × Bool)}

/-- The number of a new block: at or above the base, above every block that the environment knows whole. -/
def NewB (B : Nat) (E : Env) (b : Nat) : Prop := B ≤ b ∧ ∀ s b' e xs, E.look s = some (blk b' e xs) → b' < b
theorem eff_new {o : Oper} {d k : Nat} {T : TypeId} {xs : List Value} (hd : o.dst = some d) (hg : o.guard = none)
    (hrun : ∀ (κ : Cx) a w, St κ n B E a w → (execOp a.eval o).run P w = .ok (.value (.pointer (some ⟨w.heap.size, 0, none⟩))) (w.alloc (.cells xs.toArray T))) (hdn : d < n) :
    EffG P n B ops o E (NewB B E) (fun b => (d, .v (.pointer (some ⟨b, 0, none⟩))) :: (k, blk b T xs) :: E) := by
  intro κ a w K Q h hK
  rw [if_pos (by simp [Region.wanted, hg])]
  refine opR (not_defer (hrun κ a w h)) ?_
  unfold Oper.wp
  rw [hrun κ a w h, Oper.upon_value, hd]
  have hbel : Below B w (w.alloc (.cells xs.toArray T)) := (Below.refl B w).alloc h.base _
  refine hK w.heap.size _ _ ⟨h.base, fun s b' e ys hs => (h.of s _ hs).1⟩ hbel (St.put ?_ hdn rfl)
  have hst := h.grow (Grow.alloc w (.cells xs.toArray T))
  refine ⟨hst.base, hst.defers, hst.size, fun s e he => ?_⟩
  by_cases hks : k = s
  · subst hks
    rw [look_here] at he; injection he with he; subst he
    exact ⟨by simp, heap_alloc_new w _⟩
  · rw [look_past _ _ hks] at he
    exact hst.of s e he
/-- A variable of its zero value. -/
theorem eff_alloc {T : TypeId} {zs : List Value} {d k : Nat} (hz : ZeroIs P T zs) (hdn : d < n) :
    EffG P n B ops ⟨some d, .alloc T, ty, pos, after, none⟩ E (NewB B E) (fun b => (d, .v (.pointer (some ⟨b, 0, none⟩))) :: (k, blk b T zs) :: E) :=
  eff_new rfl rfl (fun _ a w _ => by
    obtain ⟨i, z, hi, hz, hc⟩ := hz.get
    simp [execOp, Instr.alloc, zeroValue, typeInfo, hi, hz, newVar, newRow, hc]) hdn
/-- A variable that is given a value of several cells. -/
theorem eff_box {T : TypeId} {x : Operand} {xs : List Value} {d k : Nat} (hx : E.at x = some (.v (aggV xs))) (hdn : d < n) :
    EffG P n B ops ⟨some d, .box T x, ty, pos, after, none⟩ E (NewB B E) (fun b => (d, .v (.pointer (some ⟨b, 0, none⟩))) :: (k, blk b T xs) :: E) :=
  eff_new rfl rfl (fun _ a w h => by
    have h1 : a.eval x = aggV xs := h.at_ x _ hx
    simp [execOp, Instr.box, newVar, newRow, h1, aggV, Value.cells]) hdn
/-- The same of one cell. -/
theorem eff_box1 {T : TypeId} {x : Operand} {u : Value} {d k : Nat} (hx : E.at x = some (.v u)) (hu : u.oneCell' = true) (hdn : d < n) :
    EffG P n B ops ⟨some d, .box T x, ty, pos, after, none⟩ E (NewB B E) (fun b => (d, .v (.pointer (some ⟨b, 0, none⟩))) :: (k, blk b T [u]) :: E) :=
  eff_new rfl rfl (fun _ a w h => by
    have h1 : a.eval x = u := h.at_ x _ hx
    have hc : u.cells = #[u] := by cases u <;> simp_all [Value.oneCell', Value.cells]
    simp [execOp, Instr.box, newVar, newRow, h1, hc]) hdn
/-- A store of one cell into a block that is known whole. -/
theorem eff_storeS {t : TypeId} {z : Value} {nb : Nat} {p x : Operand} {b o s : Nat} {e : TypeId} {xs : List Value} {u : Value} {E' : Env} (hinfo : InfoIs P t z nb) (hp : E.at p = some (.v (.pointer (some ⟨b, o, none⟩)))) (hx : E.at x = some (.v u)) (hu : u.oneCell' = true)
    (hb : B ≤ b) (hblk : E.look s = some (blk b e xs)) (ho : o < xs.length) (hl : LeftS B e b E' E) :
    Eff P n B ops ⟨none, .store t p x, ty, pos, after, none⟩ E ((s, blk b e (xs.set o u)) :: E') := by
  obtain ⟨i, hi, _, hs, _⟩ := hinfo.get
  intro κ a w K Q h hK
  have hp' : a.eval p = _ := h.at_ p _ hp
  have hx' : a.eval x = _ := h.at_ x _ hx
  obtain ⟨hlt, hh⟩ := h.of s _ hblk
  have hcell : w.cell? ⟨b, o, none⟩ = some xs[o] := by simp [World.cell?, hh, ho]
  have hfr : w.frozen? ⟨b, o, none⟩ = false := by simp [World.frozen?, hh]
  have hcu : u.cells = #[u] := by cases u <;> simp_all [Value.oneCell', Value.cells]
  have hadd : (⟨b, o, none⟩ : Addr).add 0 = ⟨b, o, none⟩ := rfl
  have hset := setCell_eq_setRow w b o xs.toArray e (0, 0) u hh
  have hrun : (execOp a.eval ⟨none, .store t p x, ty, pos, after, none⟩).run P w = .ok .skip (w.setRow b (xs.toArray.setIfInBounds o u)) := by
    rw [← hset]
    simp [execOp, hp', hx', Instr.storeAt, Instr.sureAddr, storeVar, hcu, sizeOf, typeInfo, hi, hs, storeCells, hadd, run_store P w ⟨b, o, none⟩ u .plain hu, hcell, hfr]
  rw [if_pos (by simp [Region.wanted])]
  refine opR (by nofun) ?_
  unfold Oper.wp
  rw [hrun, Oper.upon_skip]
  have hwr := Wrote.setRow hb hh (xs.toArray.setIfInBounds o u)
  have hst := hl.st h hwr
  refine hK _ _ (hwr.below h.base) ⟨hst.base, hst.defers, hst.size, fun t' d hd => ?_⟩
  by_cases hts : s = t'
  · subst hts
    rw [look_here] at hd; injection hd with hd; subst hd
    exact ⟨by simpa using hlt, by rw [setRow_heap w b _ _ e _ hh]; simp⟩
  · rw [look_past _ _ hts] at hd
    exact hst.of t' d hd
/-- A store of a whole array or struct. -/
theorem eff_storeA {T : TypeId} {p x : Operand} {b s : Nat} {e : TypeId} {xs ys : List Value} {E' : Env} (hsz : SizeIs P T ys.length) (hp : E.at p = some (.v (.pointer (some ⟨b, 0, none⟩)))) (hx : E.at x = some (.v (aggV ys))) (h1 : ys.all (·.oneCell') = true)
    (hb : B ≤ b) (hblk : E.look s = some (blk b e xs)) (ho : xs.length = ys.length) (hl : LeftS B e b E' E) :
    Eff P n B ops ⟨none, .store T p x, ty, pos, after, none⟩ E ((s, blk b e ys) :: E') := by
  intro κ a w K Q h hK
  have hp' : a.eval p = _ := h.at_ p _ hp
  have hx' : a.eval x = _ := h.at_ x _ hx
  obtain ⟨hlt, hh⟩ := h.of s _ hblk
  have hrun : (execOp a.eval ⟨none, .store T p x, ty, pos, after, none⟩).run P w = .ok .skip (w.setRow b ys.toArray) := by
    have := run_storeVar_row (P := P) w b e T xs.toArray ys.toArray hh (by simpa [SizeIs] using hsz) (by simpa using ho) (by simpa using h1)
    simp [execOp, hp', hx', Instr.storeAt, Instr.sureAddr, aggV, this]
  rw [if_pos (by simp [Region.wanted])]
  refine opR (by nofun) ?_
  unfold Oper.wp
  rw [hrun, Oper.upon_skip]
  have hwr := Wrote.setRow hb hh ys.toArray
  have hst := hl.st h hwr
  refine hK _ _ (hwr.below h.base) ⟨hst.base, hst.defers, hst.size, fun t' d hd => ?_⟩
  by_cases hts : s = t'
  · subst hts
    rw [look_here] at hd; injection hd with hd; subst hd
    exact ⟨by simpa using hlt, setRow_heap w b _ _ e _ hh⟩
  · rw [look_past _ _ hts] at hd
    exact hst.of t' d hd
/-- append to a row of the call's own. -/
theorem eff_appendS {t e : TypeId} {z : Value} {nb : Nat} {r x : Operand} {k dst : Nat} {xs : List Value} {f : D} {vs : List Value} {E' : Env} (ht : P.underlying t = some (.slice e)) (hinfo : InfoIs P e z nb) (hnb : nb ≤ 64) (hz1 : z.cells.size = 1)
    (hr : E.at r = some (own B e k xs)) (hx : E.at x = some f) (hf : Le f (lst (vs.map .v))) (h1 : ∀ u ∈ vs, u.oneCell' = true) (hk : k + vs.length ≤ 1099511627776) (hdst : dst < n) (hl : ∀ g, B ≤ g → LeftS B e g E' E) :
    Eff P n B ops ⟨some dst, .call { callee := .builtin .append, args := #[r, x], argTypes := #[t, t] }, ty, pos, after, none⟩ E ((dst, own B e (k + vs.length) (xs ++ vs)) :: E') := by
  obtain ⟨i, hi, hz, hs, hby⟩ := hinfo.get
  intro κ a w K Q h hK
  obtain ⟨hown, hob⟩ := h.at_ r _ hr
  obtain ⟨c, A, us, hxe, hle, hcm, hul, hrow, hus⟩ := hf.of (h.at_ x _ hx)
  have huv : us = vs := by
    apply List.ext_getElem?
    intro j
    simp only [List.length_map] at hul
    rcases Nat.lt_or_ge j vs.length with hj | hj
    · have hu : us[j]? = some us[j] := List.getElem?_eq_getElem (by omega)
      have h2 : us[j] = vs[j] := hus j (.v vs[j]) us[j] (by simp [hj]) hu
      rw [hu, h2, List.getElem?_eq_getElem hj]
    · rw [List.getElem?_eq_none (by omega), List.getElem?_eq_none hj]
  subst huv
  simp only [List.length_map] at hxe hle hul
  have hrun : ∃ v' w', (Builtin.append_ #[t, t] ty #[a.eval r, .slice A us.length c]).run P w = .ok v' w' ∧ w'.ownsRow B e 1 v' (k + us.length) (xs ++ us) ∧ w.grownBy w' (a.eval r).ownBlock ∧
      (v'.ownBlock = (a.eval r).ownBlock ∨ v'.ownBlock = some w.heap.size) := by
    have hbb : (k + us.length) * i.bytes ≤ (k + us.length) * 64 := Nat.mul_le_mul_left _ (by omega)
    have hnil : us = [] → ∀ c', (Builtin.append_ #[t, t] ty #[a.eval r, .slice none 0 c']).run P w = .ok (a.eval r) w := by
      intro _ c'
      rcases hown.2 with ⟨hv, hn0⟩ | ⟨g, cap, cur, hv, _, _, hnc, _⟩
      · rw [hv]; simp [Builtin.append_, run_underlying ht, sizeOf, typeInfo, hi, Builtin.lenOf, Builtin.firstCells]
      · rw [hv]; simp [Builtin.append_, run_underlying ht, sizeOf, typeInfo, hi, Builtin.lenOf, Builtin.firstCells, hnc, storeCells]
    cases A with
    | none =>
      have hz : us = [] := by
        cases us with
        | nil => rfl
        | cons b l => obtain ⟨ad, h, _⟩ := hrow 0 b rfl; cases h
      subst hz
      exact ⟨a.eval r, w, hnil rfl c, by simpa using hown, World.grownBy.refl w _, .inl rfl⟩
    | some ad =>
      obtain ⟨v', w', h2, h3, h4, _, h6⟩ := run_append_own_at (P := P) w B t ty e i z 1 i.bytes ht hi hz hs rfl hz1 (by omega) (a.eval r) k xs hown ad us.length c us (by simp) hrow.cell h1 (by simp only [maxLen]; omega) (by omega) h.base
      exact ⟨v', w', h2, h3, h4, h6⟩
  obtain ⟨v', w', hrun, h3, h4, h5⟩ := hrun
  have hexec : (execOp a.eval ⟨some dst, .call { callee := .builtin .append, args := #[r, x], argTypes := #[t, t] }, ty, pos, after, none⟩).run P w = .ok (.value v') w' := by
    simp [execOp, resolve, invoke, builtin, hxe, hrun]
  rw [if_pos (by simp [Region.wanted])]
  refine opR (by nofun) ?_
  unfold Oper.wp
  rw [hexec, Oper.upon_value]
  have hbase : ∀ g, (a.eval r).ownBlock = some g → B ≤ g := fun g hg => by
    rcases hown.2 with ⟨hv, _⟩ | ⟨g', cap, cur, hv, hb, _⟩
    · rw [hv] at hg; simp [Value.ownBlock] at hg
    · rw [hv] at hg; simp [Value.ownBlock] at hg; omega
  have hbel : Below B w w' := (Below.refl B w).grown h4 h.base hbase
  have hlt : ∀ g, v'.ownBlock = some g → g < w'.heap.size := fun g hg => by
    rcases h3.2 with ⟨hv, _⟩ | ⟨g', cap, cur, hv, _, hh, _⟩
    · rw [hv] at hg; simp [Value.ownBlock] at hg
    · rw [hv] at hg; simp [Value.ownBlock] at hg; subst hg
      rcases Nat.lt_or_ge g' w'.heap.size with h | h
      · exact h
      · rw [Array.getElem?_eq_none h] at hh; cases hh
  have hwr : ∃ g, B ≤ g ∧ Wrote B e g w w' := by
    rcases hown.2 with ⟨hv, _⟩ | ⟨g', cap, cur, hv, hb, hh, _⟩
    · refine ⟨w.heap.size, h.base, h.base, h4.os, h4.tape, h4.output, h4.size, fun o hx => ?_, fun k hk _ => h4.block k hk (by rw [hv]; simp [Value.ownBlock])⟩
      rw [Array.getElem?_eq_none (Nat.le_refl _)] at hx; cases hx
    · refine ⟨g', hb, hb, h4.os, h4.tape, h4.output, h4.size, fun o hx => ?_, fun k hk hne => h4.block k hk (by rw [hv]; simp [Value.ownBlock]; omega)⟩
      rw [hh] at hx; injection hx with hx; exact ⟨_, _, hx.symm⟩
  obtain ⟨g, hg, hwr⟩ := hwr
  have hst : St κ n B E' a w' := (hl g hg).st h hwr
  exact hK _ _ hbel (hst.put hdst ⟨h3, hlt⟩)
/-- A load of a whole array or struct. -/
theorem ok_loadA {T : TypeId} {td : TypeDesc} {x : Operand} {b s : Nat} {e : TypeId} {xs : List Value} (hsl : vbase ≤ s) (ht : P.underlying T = some td) (hp : (match td with | .struct _ | .array _ _ => true | _ => false) = true) (hsz : SizeIs P T xs.length)
    (hx : E.at x = some (.v (.pointer (some ⟨b, 0, none⟩)))) (hblk : E.look s = some (blk b e xs)) : OpOk P B ⟨dst, .load T x, ty, pos, after, guard⟩ E (.v (aggV xs)) := fun ρ w _ hv hρ => by
  have h1 : ρ x = _ := hρ x (by simp [Op.operands]) _ hx
  obtain ⟨_, hh⟩ := hv s _ hsl hblk
  have := run_loadVar_row (P := P) w b e T xs.toArray (0, 0) td hh ht hp (by simpa [SizeIs] using hsz)
  exact out_val (w' := w) (by simp [execOp, h1, Instr.loadAt, Instr.sureAddr, this, aggV]) ⟨Grow.refl w, rfl⟩
/-- An element's address in an array behind a pointer. -/
theorem ok_indexA {t e : TypeId} {len : Nat} {z : Value} {nb : Nat} {x i : Operand} {b o : Nat} {k : IntKind} {j : Int} (m : Nat) (ht : P.underlying t = some (.array len e)) (hs : InfoIs P e z nb) (hx : E.at x = some (.v (.pointer (some ⟨b, o, none⟩)))) (hi : E.at i = some (.v (.int k j)))
    (h0 : j = (m : Int)) (hn : m < len) : OpOk P B ⟨dst, .indexAddr t x i, ty, pos, after, guard⟩ E (.v (.pointer (some ⟨b, o + m, none⟩))) := fun ρ w _ _ hρ => by
  have h1 : ρ x = _ := hρ x (by simp [Op.operands]) _ hx
  have hi' : ρ i = .int k j := hρ i (by simp [Op.operands]) _ hi
  obtain ⟨info, hinfo, _, hsize, _⟩ := hs.get
  refine out_val (w' := w) ?_ ⟨Grow.refl w, rfl⟩
  subst h0
  have hadd : (⟨b, o, none⟩ : Addr).add m = ⟨b, o + m, none⟩ := by unfold Addr.add; split <;> simp_all
  simp [execOp, h1, hi', Instr.indexAt, Instr.sureAddr, asIntOf, run_underlying ht, sizeOf, typeInfo, hinfo, hsize, hadd]
  intro hle
  omega
theorem ok_index0 {t e : TypeId} {len : Nat} {z : Value} {nb : Nat} {x i : Operand} {b : Nat} {k : IntKind} {j : Int} (m : Nat) (ht : P.underlying t = some (.array len e)) (hs : InfoIs P e z nb) (hx : E.at x = some (.v (.pointer (some ⟨b, 0, none⟩)))) (hi : E.at i = some (.v (.int k j)))
    (h0 : j = (m : Int)) (hn : m < len) : OpOk P B ⟨dst, .indexAddr t x i, ty, pos, after, guard⟩ E (.v (.pointer (some ⟨b, m, none⟩))) := by
  have := ok_indexA (P := P) (B := B) (dst := dst) (ty := ty) (pos := pos) (after := after) (guard := guard) m ht hs hx hi h0 hn
  rwa [Nat.zero_add] at this
/-- Part of an array behind a pointer, to be read: a list of its bytes. -/
theorem ok_sliceA {t e : TypeId} {len : Nat} {z : Value} {nb : Nat} {x : Operand} {lo hi : Option Operand} {b s : Nat} {e' : TypeId} {xs : List Value} (l h : Nat) (hsl : vbase ≤ s) (ht : P.underlying t = some (.array len e)) (hs : InfoIs P e z nb) (hx : E.at x = some (.v (.pointer (some ⟨b, 0, none⟩)))) (hblk : E.look s = some (blk b e' xs))
    (hlo : (∃ o k, lo = some o ∧ E.at o = some (.v (.int k (l : Int)))) ∨ (lo = none ∧ l = 0)) (hhi : (∃ o k, hi = some o ∧ E.at o = some (.v (.int k (h : Int)))) ∨ (hi = none ∧ h = len)) (hlh : l ≤ h) (hhn : h ≤ len) (hlen : len = xs.length) (hmax : len ≤ maxLen) :
    OpOk P B ⟨dst, .slice t x lo hi none, ty, pos, after, guard⟩ E (lst (((xs.take h).drop l).map .v)) := fun ρ w _ hv hρ => by
  have h1 : ρ x = _ := hρ x (by simp [Op.operands]) _ hx
  obtain ⟨hlt, hh⟩ := hv s _ hsl hblk
  obtain ⟨info, hinfo, _, hsize, _⟩ := hs.get
  have hlo' : ∃ k, lo.map ρ = some (.int k (l : Int)) ∨ (lo.map ρ = none ∧ l = 0) := by
    rcases hlo with ⟨o, k, rfl, ho⟩ | ⟨rfl, hl⟩
    · have : ρ o = .int k (l : Int) := hρ o (by simp [Op.operands]) _ ho
      exact ⟨k, .inl (by simp [this])⟩
    · exact ⟨.i64, .inr ⟨rfl, hl⟩⟩
  have hhi' : ∃ k, hi.map ρ = some (.int k (h : Int)) ∨ (hi.map ρ = none ∧ h = len) := by
    rcases hhi with ⟨o, k, rfl, ho⟩ | ⟨rfl, hl⟩
    · have : ρ o = .int k (h : Int) := hρ o (by simp [Op.operands]) _ ho
      exact ⟨k, .inl (by simp [this])⟩
    · exact ⟨.i64, .inr ⟨rfl, hl⟩⟩
  obtain ⟨k, hlo'⟩ := hlo'
  obtain ⟨k', hhi'⟩ := hhi'
  have hr : (Instr.sliceAt t (.pointer (some ⟨b, 0, none⟩)) (lo.map ρ) (hi.map ρ) none).run P w = .ok (.slice (some (if len = l then ⟨b, 0, none⟩ else (⟨b, 0, none⟩ : Addr).add l)) (h - l) (len - l)) w := by
    rcases hlo' with h2 | ⟨h2, rfl⟩ <;> rcases hhi' with h3 | ⟨h3, rfl⟩ <;>
      simp [h2, h3, Instr.sliceAt, run_underlying ht, Instr.sureAddr, Instr.sliceBounds, Instr.sliceBound, asIntOf, sizeOf, typeInfo, hinfo, hsize, hlh, hhn]
  refine out_val (x := .slice (some (if len = l then ⟨b, 0, none⟩ else (⟨b, 0, none⟩ : Addr).add l)) (h - l) (len - l)) (w' := w) (by simp only [execOp, h1, Option.map_none, Sem.run_bind, hr, Result.andThen_ok, Sem.run_pure]) ⟨Grow.refl w, len - l, some (if len = l then ⟨b, 0, none⟩ else (⟨b, 0, none⟩ : Addr).add l), (xs.take h).drop l, ?_, ?_, ?_, ?_, ?_, ?_⟩
  · congr 1; simp; omega
  · simp; omega
  · omega
  · simp
  · intro j u hu
    rw [List.getElem?_drop, List.getElem?_take] at hu
    split at hu
    · rename_i hj
      refine ⟨_, rfl, ?_, ?_⟩
      · split
        · exact hlt
        · rw [block_of_add]; exact hlt
      · rw [if_neg (by omega), add_of_add]
        have := blk_row hlt hh xs.length
        rw [List.take_length] at this
        exact this.cell _ u hu
    · cases hu
  · intro j d u hd hu
    simp only [List.getElem?_map, hu, Option.map_some, Option.some.injEq] at hd; subst hd; rfl
/-- A literal of an array or a struct. -/
theorem ok_lit {t : TypeId} {ps : Array (Nat × Operand)} (us : List (Nat × Value)) (ys : List Value) (hp : ∀ ρ : Operand → Value, (∀ x, x ∈ (ps.toList.map (·.2)) → ∀ v, E.at x = some (.v v) → ρ x = v) → ps.toList.map (fun p => (p.1, ρ p.2)) = us) (hb : P.built t us = some ys.toArray) :
    OpOk P B ⟨dst, .build t ps, ty, pos, after, guard⟩ E (.v (aggV ys)) := fun ρ w _ _ hρ => by
  have h1 := hp ρ fun x hx v hv => hρ x (by simp [Op.operands]; simpa using hx) _ hv
  have h2 : (ps.map fun (i, x) => (i, ρ x)).toList = us := by rw [← h1]; simp
  have := run_build (P := P) w t (ps.map fun (i, x) => (i, ρ x)) ys.toArray (by rw [h2]; exact hb)
  exact out_val (w' := w) (by simp [execOp, this, aggV]) ⟨Grow.refl w, rfl⟩
/-- A literal of an array whose elements have one cell, from the first on. -/
def LitD (E : Env) : List Value → List (Nat × Operand) → Nat → Prop
  | [], [], _ => True
  | u :: us, (i, x) :: ps, k => i = k ∧ E.at x = some (.v u) ∧ LitD E us ps (k + 1)
  | _, _, _ => False
theorem LitD.map {ρ : Operand → Value} : ∀ {us : List Value} {ps : List (Nat × Operand)} {k : Nat}, LitD E us ps k → (∀ x, x ∈ ps.map (·.2) → ∀ v, E.at x = some (.v v) → ρ x = v) → ps.map (fun p => (p.1, ρ p.2)) = (us.zipIdx k).map fun x => (x.2, x.1)
  | [], [], _, _, _ => rfl
  | [], _ :: _, _, h, _ => h.elim
  | _ :: _, [], _, h, _ => h.elim
  | u :: us, (i, x) :: ps, k, ⟨h1, h2, h3⟩, hρ => by
    subst h1
    simp only [List.map_cons, List.zipIdx_cons, hρ x (by simp) u h2]
    rw [LitD.map h3 fun y hy v hv => hρ y (by simp only [List.map_cons, List.mem_cons]; exact .inr hy) v hv]
theorem ok_litP {t e : TypeId} {ps : Array (Nat × Operand)} {z : Value} {nb len : Nat} (us : List Value) (ht : P.underlying t = some (.array len e)) (hinfo : InfoIs P e z nb) (hz : ZeroIs P t (List.replicate len z)) (hn : us.length ≤ len) (hl : LitD E us ps.toList 0) (h1 : us.all (·.oneCell') = true) :
    OpOk P B ⟨dst, .build t ps, ty, pos, after, guard⟩ E (.v (aggV (us ++ List.replicate (len - us.length) z))) := fun ρ w _ _ hρ => by
  obtain ⟨it, zv, hi, hzv, hc⟩ := hz.get
  obtain ⟨ie, hie, _, hs, _⟩ := hinfo.get
  have h3 := hl.map (ρ := ρ) fun x hx v hv => hρ x (by simp [Op.operands]; simpa using hx) _ hv
  have h2 : (ps.map fun (i, x) => (i, ρ x)).toList = (us.zipIdx 0).map fun x => (x.2, x.1) := by rw [← h3]; simp
  have hb : P.built t (ps.map fun (i, x) => (i, ρ x)).toList = some (us ++ List.replicate (len - us.length) z).toArray := by
    have hf := fill_dense us [] (List.replicate len z) 0 (fun u hu => by simpa using (List.all_eq_true.1 h1) u hu) rfl (by simpa using hn)
    simp only [Nat.mul_one, List.nil_append, List.drop_replicate] at hf
    simp only [Program.built, hi, ht, hzv, hie, hc, h2, hs, Nat.mul_one]
    exact hf
  have := run_build (P := P) w t (ps.map fun (i, x) => (i, ρ x)) _ hb
  exact out_val (w' := w) (by simp [execOp, this, aggV]) ⟨Grow.refl w, rfl⟩
theorem ok_litA {t e : TypeId} {ps : Array (Nat × Operand)} {z : Value} {nb len : Nat} (us : List Value) (ht : P.underlying t = some (.array len e)) (hinfo : InfoIs P e z nb) (hz : ZeroIs P t (List.replicate len z)) (hn : us.length = len) (hl : LitD E us ps.toList 0) (h1 : us.all (·.oneCell') = true) :
    OpOk P B ⟨dst, .build t ps, ty, pos, after, guard⟩ E (.v (aggV us)) := by
  have := ok_litP (P := P) (B := B) (dst := dst) (ty := ty) (pos := pos) (after := after) (guard := guard) us ht hinfo hz (Nat.le_of_eq hn) hl h1
  rw [hn, Nat.sub_self, List.replicate_zero, List.append_nil] at this
  exact this
theorem ok_xorU {t : TypeId} {x : Operand} {k : IntKind} {a : Int} {c : Value} (hk : k.signed = false) (hx : E.at x = some (.v (.int k a))) (hc : c = .int k (k.wrap (BitVec.ofInt k.bits k.max ^^^ BitVec.ofInt k.bits a).toNat)) : OpOk P B ⟨dst, .unOp .xor t x, ty, pos, after, guard⟩ E (.v c) := fun ρ w _ _ hρ => by
  have h1 := hρ x (by simp [Op.operands]) _ hx
  subst hc
  exact out_val (w' := w) (by simp [execOp, (show ρ x = _ from h1), Op.unary, Op.intBits, hk]) ⟨Grow.refl w, rfl⟩
end

/-! ### Results that are read from variables -/
section
variable {P : Program} {w₀ : World} {n : Nat} {E : Env}
theorem End.cell1 {fn : Func} {r s b : Nat} {T e : TypeId} {td : TypeDesc} {xs : List Value} {d : D} (hr : fn.results = #[.cell r T]) (ht : P.underlying T = some td) (hp : (match td with | .struct _ | .array _ _ => true | _ => false) = true) (hsz : SizeIs P T xs.length)
    (h1 : E.look r = some (.v (.pointer (some ⟨b, 0, none⟩)))) (h2 : E.look s = some (blk b e xs)) (hl : Le (.v (aggV xs)) d) : End Cx.top w₀ n E (BP P fn (PostOf w₀ d) .ret) := fun a w g hs => by
  have h3 : a.tmps[r]?.getD undef = .pointer (some ⟨b, 0, none⟩) := by rw [← Array.getD_eq_getD_getElem?]; exact hs.of r _ h1
  obtain ⟨_, hh⟩ := hs.of s _ h2
  have := run_loadVar_row (P := P) w b e T xs.toArray (0, 0) td hh ht hp (by simpa [SizeIs] using hsz)
  exact BP.ret hs.defers ⟨aggV xs, by simp [results, hr, h3, asAddr, this, aggV], _, rfl, g, hl.of rfl⟩
theorem End.cell2 {fn : Func} {r s b r' s' b' : Nat} {T e T' e' : TypeId} {td td' : TypeDesc} {xs xs' : List Value} {d d' : D} (hr : fn.results = #[.cell r T, .cell r' T']) (ht : P.underlying T = some td) (hp : (match td with | .struct _ | .array _ _ => true | _ => false) = true) (hsz : SizeIs P T xs.length)
    (h1 : E.look r = some (.v (.pointer (some ⟨b, 0, none⟩)))) (h2 : E.look s = some (blk b e xs)) (hl : Le (.v (aggV xs)) d)
    (ht' : P.underlying T' = some td') (hp' : (match td' with | .struct _ | .array _ _ => true | _ => false) = true) (hsz' : SizeIs P T' xs'.length)
    (h1' : E.look r' = some (.v (.pointer (some ⟨b', 0, none⟩)))) (h2' : E.look s' = some (blk b' e' xs')) (hl' : Le (.v (aggV xs')) d') : End Cx.top w₀ n E (BP P fn (PostOf w₀ (tup [d, d'])) .ret) := fun a w g hs => by
  have h3 : a.tmps[r]?.getD undef = .pointer (some ⟨b, 0, none⟩) := by rw [← Array.getD_eq_getD_getElem?]; exact hs.of r _ h1
  obtain ⟨_, hh⟩ := hs.of s _ h2
  have k1 := run_loadVar_row (P := P) w b e T xs.toArray (0, 0) td hh ht hp (by simpa [SizeIs] using hsz)
  have h3' : a.tmps[r']?.getD undef = .pointer (some ⟨b', 0, none⟩) := by rw [← Array.getD_eq_getD_getElem?]; exact hs.of r' _ h1'
  obtain ⟨_, hh'⟩ := hs.of s' _ h2'
  have k2 := run_loadVar_row (P := P) w b' e' T' xs'.toArray (0, 0) td' hh' ht' hp' (by simpa [SizeIs] using hsz')
  refine BP.ret hs.defers ⟨.tuple #[aggV xs, aggV xs'], by simp [results, hr, h3, h3', asAddr, k1, k2, aggV], _, rfl, g, [aggV xs, aggV xs'], rfl, rfl, fun j e u he hu => ?_⟩
  match j, he, hu with
  | 0, he, hu => simp at he hu; subst he; subst hu; exact hl.of rfl
  | 1, he, hu => simp at he hu; subst he; subst hu; exact hl'.of rfl
  | j + 2, he, _ => simp at he
end
end Go.Proofs.Ytdnblilocdddpaa
