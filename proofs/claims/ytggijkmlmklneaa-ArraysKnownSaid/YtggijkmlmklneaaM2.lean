/-
  OWN TEXTS of this seat, put together, part 2: Calls, More, Any, Hold, Auto, Keep, Chain, Pair, Use, PredF, Ledg, Parts, Nonce, LedL, Late, Disk, Disk3, Text, LedM, Disk4, Rets, Vars, VarF, OwnV, Acts, Cut, Gf, Aes, SealE, Rec, RangeX, Shape, Node.
-/
import Derived.Test.YtggijkmlmklneaaM1
import Derived.Lib.SliceRun
namespace Go.Proofs.Ytggijkmlmklneaa
open Go Go.RowKit
variable {κ : Cx}

theorem tup_le2 {d₁ d₂ e₁ e₂ : D} (h₁ : Le d₁ e₁) (h₂ : Le d₂ e₂) : Le (tup [d₁, d₂]) (tup [e₁, e₂]) := by
  rintro B w x ⟨xs, rfl, hl, h⟩
  refine ⟨xs, rfl, hl, fun j e u he hu => ?_⟩
  match j, he with
  | 0, he => simp at he; subst he; exact h₁ _ _ _ (h 0 d₁ u rfl hu)
  | 1, he => simp at he; subst he; exact h₂ _ _ _ (h 1 d₂ u rfl hu)
  | j + 2, he => simp at he
/-- A contract: block g, whose cells are xs, is left with the cells ys, and u is returned; M tells of other memory. -/
structure FnWR (P : Program) (f : FuncId) (M : Env) (T g : Nat) (xs ys : List Value) (ds : List D) (u : Value) : Prop where
  body : ∃ fn, P.funcs[f]? = some fn ∧ (fn.name == "runtime.NumGoroutine") = false ∧ fn.body.isNone = false
  calls : ∀ (vs : List Value) (w : World), vs.length = ds.length → (∀ (j : Nat) (e : D) (u : Value), ds[j]? = some e → vs[j]? = some u → e.Of w u) → (∀ p ∈ M, p.2.Of w undef) → g < w.heap.size → w.heap[g]? = some (.cells xs.toArray T (0, 0)) →
    Calls P f vs.toArray w fun e w' => e = .returned u ∧ Wrote g T g w w' ∧ w'.heap[g]? = some (.cells ys.toArray T (0, 0))
section
variable {P : Program} {n B : Nat} {ops : Array Oper} {E : Env} {ty : TypeId} {pos : String} {after : Array Edge}
theorem FnWR.of {f : FuncId} {fn : Func} {c : Code} {M : Env} {T g kb kw : Nat} {xs ys us : List Value} {u : Value} (hf : P.funcs[f]? = some fn) (hb : fn.body = some c) (hname : (fn.name == "runtime.NumGoroutine") = false) (hn : fn.ntmps = n) (hds : us.length ≤ n) (hnv : n ≤ vbase)
    (hMb : ∀ p ∈ M, vbase ≤ p.1) (hkb : vbase ≤ kb) (hkw : vbase ≤ kw) (args : Env) (hargs : ∀ p ∈ args, ∃ v, p.2 = .v v ∧ us[p.1]? = some v)
    (h : ∀ w₀ w₁ : World, w₀.heap.size = g → A Cx.top P w₀ n c (args ++ ((kb, blk g T xs) :: (kw, wroteD T g w₁) :: M)) (BP P fn fun e w' => e = .returned u ∧ Wrote g T g w₁ w' ∧ w'.heap[g]? = some (.cells ys.toArray T (0, 0)))) :
    FnWR P f M T g xs ys (us.map D.v) u := by
  refine ⟨⟨fn, hf, hname, by rw [hb]; rfl⟩, fun vs w hl hv hM hlt hh => ?_⟩
  have hvs : vs = us := by
    apply List.ext_getElem?
    intro j
    simp only [List.length_map] at hl
    rcases Nat.lt_or_ge j us.length with hj | hj
    · have h1 := hv j (.v us[j]) vs[j] (by simp [hj]) (List.getElem?_eq_getElem (by omega))
      rw [List.getElem?_eq_getElem hj, List.getElem?_eq_getElem (by omega)]
      exact congrArg some h1
    · rw [List.getElem?_eq_none hj, List.getElem?_eq_none (by omega)]
  subst hvs
  have hsz := cutW_size (w := w) (g := g) (Nat.le_of_lt hlt)
  refine callsIn_FR.1 (callsIn_of_wp_marks (F := FR none) (n := 0) hf hb trivial (h (cutW w g) w hsz _ w (cutW_below (Nat.le_of_lt hlt)) ⟨by rw [hsz]; omega, rfl, ?_, fun t e he => ?_⟩))
  · simp [hn]; omega
  · show e.Of w ((vs.toArray ++ Array.replicate (fn.ntmps - vs.toArray.size) undef).getD t undef)
    have hund : vbase ≤ t → (vs.toArray ++ Array.replicate (fn.ntmps - vs.toArray.size) undef).getD t undef = undef := fun ht => by
      rw [Array.getD_eq_getD_getElem?, Array.getElem?_eq_none (by simp [hn]; omega)]; rfl
    rcases List.mem_append.1 (look_mem he) with hm | hm
    · obtain ⟨v, h1, h2⟩ := hargs _ hm
      simp only at h1 h2
      have hj : t < vs.length := (List.getElem?_eq_some_iff.1 h2).1
      rw [Array.getD_eq_getD_getElem?, Array.getElem?_append_left (by simpa using hj)]
      subst h1
      simp [h2]; rfl
    · rcases List.mem_cons.1 hm with h1 | hm
      · injection h1 with h1 h2; subst h1; subst h2
        exact ⟨hlt, hh⟩
      · rcases List.mem_cons.1 hm with h1 | hm
        · injection h1 with h1 h2; subst h1; subst h2
          exact ⟨Nat.le_refl _, Nat.le_refl _, rfl, rfl, rfl, Nat.le_refl _, fun o ho => by rw [hh] at ho; injection ho with ho; exact ⟨_, _, ho.symm⟩, fun _ _ _ => rfl⟩
        · have h1 := hMb _ hm
          rw [hund h1]
          exact hM _ hm
end

/-! ### Function values that hold two variables of several cells -/
section
variable {P : Program} {n : Nat} {w₀ : World} {E : Env}
/-- A slice that came in gets a name: of its value something is known in memory. -/
def valM (v : Value) (d : D) : D := .p (fun B w _ => d.OfB B w v) (fun _ _ _ _ g h => h.keep g) (fun _ _ _ _ g h => h.up g)
end
section
variable {P : Program} {B : Nat} {E : Env} {dst : Option Tmp} {ty : TypeId} {pos : String} {after : Array Edge} {guard : Option (Nat × Bool)}
/-- What a value means in memory that is known. -/
theorem OpOk.fact {o : Oper} {v : Value} {d : D} {s b : Nat} {e : TypeId} {xs : List Value} (h : OpOk P B o E (.v v)) (hs : vbase ≤ s) (hk : E.look s = some (blk b e xs)) (hd : ∀ B w, b < B → w.heap[b]? = some (.cells xs.toArray e (0, 0)) → d.OfB B w v) : OpOk P B o E d := fun ρ w hB hv hρ => by
  refine (h ρ w hB hv hρ).mono fun x w' hx => ⟨hx.1, ?_⟩
  obtain ⟨h1, h2⟩ := (hv s _ hs hk : (blk b e xs).Of w undef)
  have h3 : (blk b e xs).Of w' undef := D.Of.grow (d := blk b e xs) ⟨h1, h2⟩ hx.1
  obtain ⟨h4, h5⟩ := h3
  rw [show x = v from hx.2]
  exact hd _ _ h4 h5
/-- append to a slice of bytes that has no room: a new row of the call's own. -/
theorem ok_appendFull {t e : TypeId} {z : Value} {nb : Nat} {r x : Operand} {f g : D} {l m : List UInt8} (ht : P.underlying t = some (.slice e)) (hinfo : InfoIs P e z nb) (hnb : nb ≤ 64) (hz1 : z.cells.size = 1)
    (hr : E.at r = some g) (hg : Le g (bytes l l.length)) (hx : E.at x = some f) (hf : Le f (byt m)) (hl : 0 < l.length) (hpos : 0 < m.length) (hk : l.length + m.length ≤ 1099511627776) :
    OpOk P B ⟨dst, .call { callee := .builtin .append, args := #[r, x], argTypes := #[t, t] }, ty, pos, after, guard⟩ E (own B e (l.length + m.length) ((l ++ m).map byteV)) := fun ρ w hB hv hρ => by
  obtain ⟨i, hi, hz, hs, hby⟩ := hinfo.get
  obtain ⟨A1, hre, _, hlm, hrow1⟩ := bytes_open (l := l) (hg.of (hρ r (by simp [Op.operands, Call.operands]) _ hr))
  obtain ⟨c, hb⟩ := hf.of (hρ x (by simp [Op.operands, Call.operands]) _ hx)
  obtain ⟨A2, hxe, hle, hcm, hrow⟩ := bytes_open (l := m) hb
  have h1 : ∃ a1, A1 = some a1 := by
    cases l with
    | nil => simp at hl
    | cons b l => obtain ⟨ad, h, _⟩ := hrow1 0 (byteV b) rfl; exact ⟨ad, h⟩
  have h2 : ∃ a2, A2 = some a2 := by
    cases m with
    | nil => simp at hpos
    | cons b l => obtain ⟨ad, h, _⟩ := hrow 0 (byteV b) rfl; exact ⟨ad, h⟩
  obtain ⟨a1, rfl⟩ := h1
  obtain ⟨a2, rfl⟩ := h2
  have hbb : (l.length + m.length) * i.bytes ≤ (l.length + m.length) * 64 := Nat.mul_le_mul_left _ (by omega)
  obtain ⟨v', w', h2, h3, h4⟩ := run_append_arg_grows (P := P) w t ty e i z 1 i.bytes ht hi hz hs rfl hz1 (by omega) a1 l.length l.length (l.map byteV) (by simp) hrow1.cell a2 m.length c (m.map byteV) (by simp) hrow.cell (by omega) (by simp only [maxLen]; omega) (by omega)
  refine out_val (x := v') (w' := w') (by simp [execOp, resolve, invoke, builtin, hre, hxe, h2]) ⟨(Below.refl w.heap.size w).grown h4 (Nat.le_refl _) (fun g hg => by cases hg), ?_⟩
  rw [List.map_append]
  refine ⟨⟨h3.1, h3.2.imp id ?_⟩, fun g hg => ?_⟩
  · rintro ⟨g, cap, cur, h5, h6, h7⟩; exact ⟨g, cap, cur, h5, by omega, h7⟩
  · rcases h3.2 with ⟨hv', _⟩ | ⟨g', cap, cur, hv', _, hh', _⟩
    · rw [hv'] at hg; simp [Value.ownBlock] at hg
    · rw [hv'] at hg; simp [Value.ownBlock] at hg; subst hg
      rcases Nat.lt_or_ge g' w'.heap.size with h | h
      · exact h
      · rw [Array.getElem?_eq_none h] at hh'; cases hh'
end
end Go.Proofs.Ytggijkmlmklneaa
namespace Go.Proofs.Ytggijkmlmklneaa
open Go Go.RowKit
section
variable {P : Program} {B : Nat} {E : Env} {dst : Option Tmp} {ty : TypeId} {pos : String} {after : Array Edge} {guard : Option (Nat × Bool)}
end
end Go.Proofs.Ytggijkmlmklneaa
namespace Go.Proofs.Ytggijkmlmklneaa
open Go Go.RowKit
section
variable {P : Program} {n B : Nat} {ops : Array Oper} {C : Env → Prop} {κ : Cx} {Q : Exit → Act → World → Prop}
/-- What is to be shown from here on, in every order. -/
def AnyT (P : Program) (n B : Nat) (ops : Array Oper) (C : Env → Prop) : Nat → Array Bool → Env → Prop
  | 0, listed, E => Region.ready .any ops listed = [] ∧ C E
  | fuel + 1, listed, E => (Region.ready .any ops listed = [] ∧ C E) ∨ (Region.ready .any ops listed ≠ [] ∧ ∀ i ∈ Region.ready .any ops listed, ∃ o, ops[i]? = some o ∧ ∃ (ι : Type) (G : ι → Prop) (E₂ : ι → Env), EffG P n B ops o E G E₂ ∧ ∀ j, G j → AnyT P n B ops C fuel (listed.setIfInBounds i true) (E₂ j))
/-- One operation after the other. -/
def NextT (P : Program) (n B : Nat) (ops : Array Oper) (C : Env → Prop) (fuel : Nat) (listed : Array Bool) (E : Env) : List Nat → Prop
  | [] => True
  | i :: r => (∃ o, ops[i]? = some o ∧ ∃ (ι : Type) (G : ι → Prop) (E₂ : ι → Env), EffG P n B ops o E G E₂ ∧ ∀ j, G j → AnyT P n B ops C fuel (listed.setIfInBounds i true) (E₂ j)) ∧ NextT P n B ops C fuel listed E r
theorem NextT.all {fuel : Nat} {listed : Array Bool} {E : Env} : ∀ {is : List Nat}, NextT P n B ops C fuel listed E is → ∀ i ∈ is, ∃ o, ops[i]? = some o ∧ ∃ (ι : Type) (G : ι → Prop) (E₂ : ι → Env), EffG P n B ops o E G E₂ ∧ ∀ j, G j → AnyT P n B ops C fuel (listed.setIfInBounds i true) (E₂ j)
  | [], _, i, hi => by cases hi
  | k :: r, h, i, hi => by
    rcases List.mem_cons.1 hi with rfl | hi
    · exact h.1
    · exact NextT.all h.2 i hi
theorem AnyT.last {fuel : Nat} {listed : Array Bool} {E : Env} (hr : Region.ready .any ops listed = []) (hC : C E) : AnyT P n B ops C fuel listed E := by
  cases fuel with
  | zero => exact ⟨hr, hC⟩
  | succ fuel => exact .inl ⟨hr, hC⟩
theorem AnyT.step {fuel : Nat} {listed : Array Bool} {E : Env} (i : Nat) (is : List Nat) (hr : Region.ready .any ops listed = i :: is) (h : NextT P n B ops C fuel listed E (i :: is)) : AnyT P n B ops C (fuel + 1) listed E :=
  .inr ⟨by rw [hr]; simp, by rw [hr]; exact h.all⟩
theorem OpOk.asV {o : Oper} {E : Env} (x : Value) {y : Value} (h : y = x) (hok : OpOk P B o E (.v y)) : OpOk P B o E (.v x) := h ▸ hok
/-- An operation that changes nothing. -/
theorem NextT.pure {fuel : Nat} {listed : Array Bool} {E : Env} {i t : Nat} {d : D} {o : Oper} {r : List Nat} (hf : fits n ops = true) (ho : ops[i]? = some o) (ht : o.dst = some t) (hg : o.guard = none) (hok : OpOk P B o E d) (h : AnyT P n B ops C fuel (listed.setIfInBounds i true) ((t, d) :: E)) (hr : NextT P n B ops C fuel listed E r) :
    NextT P n B ops C fuel listed E (i :: r) := by
  refine ⟨⟨o, ho, Unit, fun _ => True, fun _ => (t, d) :: E, fun κ a w K Q hs hK => ?_, fun _ _ => h⟩, hr⟩
  have hfo := fits_mem hf (o := o) (by simpa using Array.mem_of_getElem? ho)
  exact good_wp hs.base (hs.virt (fits_base hf)) ht (.inl ⟨by simp [GuardIs, hg], hok⟩) (fun s e _ he => hs.of s e he) (fun s hs' => by rw [hs.size]; exact hfo.1 s hs') fun x w' g hx => hK () _ _ trivial (Below.mono g hs.base) ((hs.grow g).put (hfo.2 t ht) hx)
/-- An operation that changes memory. -/
theorem NextT.eff {fuel : Nat} {listed : Array Bool} {E E' : Env} {i : Nat} {o : Oper} {r : List Nat} (ho : ops[i]? = some o) (he : Eff P n B ops o E E') (h : AnyT P n B ops C fuel (listed.setIfInBounds i true) E') (hr : NextT P n B ops C fuel listed E r) :
    NextT P n B ops C fuel listed E (i :: r) := ⟨⟨o, ho, Unit, fun _ => True, fun _ => E', he.g, fun _ _ => h⟩, hr⟩
theorem wp_anyE : ∀ {fuel : Nat} {listed : Array Bool} {E : Env} {a : Act} {w : World}, AnyT P n B ops C fuel listed E → St κ n B E a w → (∀ E' a' w', C E' → Below B w w' → St κ n B E' a' w' → Q .normal a' w') → wpAnyIn (FR κ.rd) 0 P .any ops Q fuel listed a w
  | 0, _, _, _, w, ⟨hr, hC⟩, hs, hQ => ⟨hr, hQ _ _ _ hC (Below.refl B w) hs⟩
  | fuel + 1, _, _, _, w, .inl ⟨hr, hC⟩, hs, hQ => ⟨fun _ => hQ _ _ _ hC (Below.refl B w) hs, fun i hi => by rw [hr] at hi; cases hi⟩
  | fuel + 1, _, _, _, w, .inr ⟨hne, h⟩, hs, hQ => ⟨fun hr => absurd hr hne, fun i hi => by
    obtain ⟨o, ho, ι, G, E₂, he, hn⟩ := h i hi
    exact wpOpR_step ho fun K hK => he κ _ _ K Q hs fun j a' w' hj g' h' => hK _ _ (wp_anyE (hn j hj) h' fun E' a3 w3 hC g3 h3 => hQ E' a3 w3 hC (g'.trans g3) h3)⟩
end
end Go.Proofs.Ytggijkmlmklneaa
namespace Go.Proofs.Ytggijkmlmklneaa
open Go Go.RowKit
variable {κ : Cx}

/-! ### Slices of values that are known -/
/-! ### Structs whose first field is told by a fact -/
def hdD (f : D) (rest : List Value) : D :=
  .p (fun B w x => ∃ v : Value, v.oneCell' = true ∧ x = aggV (v :: rest) ∧ f.OfB B w v) (fun _ _ _ _ g ⟨v, h1, h2, h3⟩ => ⟨v, h1, h2, h3.keep g⟩) (fun _ _ _ _ g ⟨v, h1, h2, h3⟩ => ⟨v, h1, h2, h3.up g⟩)
section
variable {P : Program} {w₀ : World} {n : Nat} {c : Code} {E : Env} {Q : Exit → Act → World → Prop}
end
section
variable {P : Program} {B : Nat} {E : Env} {o : Oper}
theorem OpOk.asV' {x y : Value} (h : OpOk P B o E (.v y)) (he : y = x) : OpOk P B o E (.v x) := he ▸ h
variable {dst : Option Tmp} {ty : TypeId} {pos : String} {after : Array Edge} {guard : Option (Nat × Bool)}
theorem ok_extractV {x : Operand} {i : Nat} {xs : List Value} {u : Value} (hx : E.at x = some (.v (.tuple xs.toArray))) (hi : xs[i]? = some u) : OpOk P B ⟨dst, .extract x i, ty, pos, after, guard⟩ E (.v u) := fun ρ w _ _ hρ => by
  have h1 : ρ x = .tuple xs.toArray := hρ x (by simp [Op.operands]) _ hx
  exact out_val (x := u) (w' := w) (by simp [execOp, h1, Instr.extract, hi]) ⟨Grow.refl w, rfl⟩
end

/-! ### New blocks, named where they are made -/
def newD (base : Nat) (e : TypeId) (val : Nat → Value) (xs : List Value) : D :=
  .p (fun B w x => ∃ b, x = val b ∧ base ≤ b ∧ b < B ∧ w.heap[b]? = some (.cells xs.toArray e (0, 0)))
    (fun _ _ _ _ g ⟨b, h1, h2, h3, h4⟩ => ⟨b, h1, h2, h3, (g.block b h3).trans h4⟩) (fun _ _ _ _ g ⟨b, h1, h2, h3, h4⟩ => ⟨b, h1, h2, by omega, h4⟩)
theorem eff_name {P : Program} {n B : Nat} {ops : Array Oper} {E : Env} {o : Oper} {d k : Nat} {e : TypeId} {val : Nat → Value} {xs : List Value} (ht : o.dst = some d) (hg : o.guard = none) (hok : ∀ B', OpOk P B' o E (newD B' e val xs)) (hdn : d < n) (hnv : n ≤ vbase) :
    EffG P n B ops o E (NewB B E) (fun b => (d, .v (val b)) :: (k, blk b e xs) :: E) := by
  intro κ a w K Q h hK
  rw [if_pos (by simp [Region.wanted, hg])]
  refine wp_of_out ht ((hok w.heap.size a.eval w (Nat.le_refl _) (h.virt hnv) fun x _ u hu => h.at_ x _ hu).mono ?_)
  rintro x w' ⟨hgr, b, rfl, hb, hlt, hh⟩
  refine hK b _ _ ⟨Nat.le_trans h.base hb, fun s b' e ys hs => Nat.lt_of_lt_of_le (h.of s _ hs).1 hb⟩ (Below.mono hgr h.base) (St.put ?_ hdn rfl)
  exact (h.grow hgr).push (t := k) (d := blk b e xs) ⟨hlt, hh⟩
/-! ### Ends -/
section
variable {P : Program} {n : Nat} {w₀ : World} {E : Env}
theorem load_cell {w : World} {b : Nat} {e T : TypeId} {td : TypeDesc} {xs : List Value} (ht : P.underlying T = some td) (hp : (match td with | .struct _ | .array _ _ => true | _ => false) = true) (hsz : SizeIs P T xs.length) (hh : w.heap[b]? = some (.cells xs.toArray e (0, 0))) :
    (loadVar T ⟨b, 0, none⟩).run P w = .ok (aggV xs) w := by
  have := run_loadVar_row (P := P) w b e T xs.toArray (0, 0) td hh ht hp (by simpa [SizeIs] using hsz)
  simpa [aggV] using this
theorem End.newT {fn : Func} {r s b g kg r' : Nat} {T e' e : TypeId} {td : TypeDesc} {ys zs xs : List Value} {v' : Value} {val : Nat → Value} (hr : fn.results = #[.cell r T, .tmp r']) (ht : P.underlying T = some td) (hp : (match td with | .struct _ | .array _ _ => true | _ => false) = true) (hsz : SizeIs P T ys.length)
    (h1 : E.look r = some (.v (.pointer (some ⟨b, 0, none⟩)))) (h2 : E.look s = some (blk b e' ys)) (h5 : E.look r' = some (.v v')) (h4 : E.look kg = some (blk g e zs)) (hg : w₀.heap.size ≤ g) (hv : val g = .tuple #[aggV ys, v']) (hz : zs = xs) :
    End Cx.top w₀ n E (BP P fn (PostOf w₀ (newD w₀.heap.size e val xs)) .ret) := fun a w gr hs => by
  subst hz
  have h3 : a.tmps[r]?.getD undef = .pointer (some ⟨b, 0, none⟩) := by rw [← Array.getD_eq_getD_getElem?]; exact hs.of r _ h1
  have h6 : a.tmps[r']?.getD undef = v' := by rw [← Array.getD_eq_getD_getElem?]; exact hs.of r' _ h5
  obtain ⟨_, hh⟩ := hs.of s _ h2
  obtain ⟨hl', hh'⟩ := hs.of kg _ h4
  exact BP.ret hs.defers ⟨.tuple #[aggV ys, v'], by simp [results, hr, h3, h6, asAddr, load_cell ht hp hsz hh], _, rfl, gr, g, hv.symm, hg, hl', hh'⟩
/-- The same of three values that are all known. -/
theorem End.cell3 {fn : Func} {r s b r₂ s₂ b₂ r' : Nat} {T e' T₂ e₂ : TypeId} {td td₂ : TypeDesc} {us ys : List Value} {v' : Value} (hr : fn.results = #[.cell r T, .cell r₂ T₂, .tmp r'])
    (ht : P.underlying T = some td) (hp : (match td with | .struct _ | .array _ _ => true | _ => false) = true) (hsz : SizeIs P T us.length) (ht₂ : P.underlying T₂ = some td₂) (hp₂ : (match td₂ with | .struct _ | .array _ _ => true | _ => false) = true) (hsz₂ : SizeIs P T₂ ys.length)
    (h1 : E.look r = some (.v (.pointer (some ⟨b, 0, none⟩)))) (h2 : E.look s = some (blk b e' us)) (h1₂ : E.look r₂ = some (.v (.pointer (some ⟨b₂, 0, none⟩)))) (h2₂ : E.look s₂ = some (blk b₂ e₂ ys)) (h5 : E.look r' = some (.v v')) :
    End Cx.top w₀ n E (BP P fn (PostOf w₀ (.v (.tuple #[aggV us, aggV ys, v']))) .ret) := fun a w gr hs => by
  have h3 : a.tmps[r]?.getD undef = .pointer (some ⟨b, 0, none⟩) := by rw [← Array.getD_eq_getD_getElem?]; exact hs.of r _ h1
  have h3₂ : a.tmps[r₂]?.getD undef = .pointer (some ⟨b₂, 0, none⟩) := by rw [← Array.getD_eq_getD_getElem?]; exact hs.of r₂ _ h1₂
  have h6 : a.tmps[r']?.getD undef = v' := by rw [← Array.getD_eq_getD_getElem?]; exact hs.of r' _ h5
  obtain ⟨_, hh⟩ := hs.of s _ h2
  obtain ⟨_, hh₂⟩ := hs.of s₂ _ h2₂
  exact BP.ret hs.defers ⟨.tuple #[aggV us, aggV ys, v'], by simp [results, hr, h3, h3₂, h6, asAddr, load_cell ht hp hsz hh, load_cell ht₂ hp₂ hsz₂ hh₂], _, rfl, gr, rfl⟩
theorem End.cellV {fn : Func} {r s b r' : Nat} {T e' : TypeId} {td : TypeDesc} {ys : List Value} {v' : Value} (hr : fn.results = #[.cell r T, .tmp r']) (ht : P.underlying T = some td) (hp : (match td with | .struct _ | .array _ _ => true | _ => false) = true) (hsz : SizeIs P T ys.length)
    (h1 : E.look r = some (.v (.pointer (some ⟨b, 0, none⟩)))) (h2 : E.look s = some (blk b e' ys)) (h5 : E.look r' = some (.v v')) : End Cx.top w₀ n E (BP P fn (PostOf w₀ (.v (.tuple #[aggV ys, v']))) .ret) := fun a w gr hs => by
  have h3 : a.tmps[r]?.getD undef = .pointer (some ⟨b, 0, none⟩) := by rw [← Array.getD_eq_getD_getElem?]; exact hs.of r _ h1
  have h6 : a.tmps[r']?.getD undef = v' := by rw [← Array.getD_eq_getD_getElem?]; exact hs.of r' _ h5
  obtain ⟨_, hh⟩ := hs.of s _ h2
  exact BP.ret hs.defers ⟨.tuple #[aggV ys, v'], by simp [results, hr, h3, h6, asAddr, load_cell ht hp hsz hh], _, rfl, gr, rfl⟩
/-- Two values, both known. -/
theorem End.ret2V {fn : Func} {r s : Nat} {u v : Value} (hr : fn.results = #[.tmp r, .tmp s]) (h1 : E.look r = some (.v u)) (h2 : E.look s = some (.v v)) : End Cx.top w₀ n E (BP P fn (PostOf w₀ (.v (.tuple #[u, v]))) .ret) := fun a w gr hs => by
  have h3 : a.tmps[r]?.getD undef = u := by rw [← Array.getD_eq_getD_getElem?]; exact hs.of r _ h1
  have h4 : a.tmps[s]?.getD undef = v := by rw [← Array.getD_eq_getD_getElem?]; exact hs.of s _ h2
  exact BP.ret hs.defers ⟨.tuple #[u, v], by simp [results, hr, h3, h4], _, rfl, gr, rfl⟩
end

/-! ### copy, clear -/
section
variable {P : Program} {n B : Nat} {ops : Array Oper} {E : Env} {ty : TypeId} {pos : String} {after : Array Edge}
end
end Go.Proofs.Ytggijkmlmklneaa
namespace Go.Proofs.Ytggijkmlmklneaa
open Go Go.RowKit
set_option linter.unusedVariables false
/-- What a plain operation yields. -/
def opV (o : Op) (E : Env) : Option D := match o with
  | .move x => E.at x
  | .assign x => E.at x
  | .pick c x y => match E.at c with
    | some (.v (.bool true)) => E.at x
    | some (.v (.bool false)) => E.at y
    | _ => none
  | .binOp op _ x y _ => match E.at x, E.at y with
    | some (.v a), some (.v b) => match binV op a b with
      | some c => some (.v c)
      | none => none
    | _, _ => none
  | .unOp .not _ x => match E.at x with
    | some (.v (.bool b)) => some (.v (.bool (!b)))
    | _ => none
  | .extract x i => match E.at x with
    | some (.v (.tuple xs)) => match xs.toList[i]? with
      | some u => some (.v u)
      | none => none
    | _ => none
  | _ => none
theorem opV_ok {P : Program} {B : Nat} {E : Env} {d : D} {o : Oper} (h : opV o.op E = some d) : OpOk P B o E d := by
  obtain ⟨dst, op, ty, pos, after, guard⟩ := o
  simp only at h
  unfold opV at h
  split at h
  · exact ok_move h
  · exact ok_assign h
  · split at h
    · rename_i hc; exact ok_pick hc h
    · rename_i hc; exact ok_pick hc h
    · cases h
  · split at h
    · rename_i hx hy
      split at h
      · rename_i hb; injection h with h; subst h; exact ok_bin hx hy hb
      · cases h
    · cases h
  · split at h
    · rename_i hx; injection h with h; subst h; exact ok_not hx
    · cases h
  · split at h
    · rename_i hx
      split at h
      · rename_i hi; injection h with h; subst h; exact ok_extractV (by rw [hx, Array.toArray_toList]) hi
      · cases h
    · cases h
  · cases h
/-- k plain operations, one after the other. -/
def runV (ops : Array Oper) : Nat → List Oper → Env → Option (List Oper × Env)
  | 0, l, E => some (l, E)
  | _ + 1, [], _ => none
  | k + 1, o :: l, E => match o.dst with
    | none => none
    | some t => match o.guard with
      | none => match opV o.op E with
        | none => none
        | some d => runV ops k l ((t, d) :: E)
      | some (j, want) => match (ops[j]?).bind (·.dst) with
        | none => none
        | some s => match E.look s with
          | some (.v (.bool c)) => match c == want with
            | true => match opV o.op E with
              | none => none
              | some d => runV ops k l ((t, d) :: E)
            | false => runV ops k l ((t, .v undef) :: E)
          | _ => none
section
variable {P : Program} {B n : Nat} {ops : Array Oper} {E E' : Env} {C : Env → Prop} {l l' : List Oper}
theorem RV : ∀ (k : Nat) {l : List Oper} {E : Env}, runV ops k l E = some (l', E') → RunK P B ops l' E' C → RunK P B ops l E C
  | 0, l, E, h, hr => by
    simp only [runV, Option.some.injEq, Prod.mk.injEq] at h
    obtain ⟨rfl, rfl⟩ := h; exact hr
  | k + 1, [], E, h, hr => by simp [runV] at h
  | k + 1, o :: l, E, h, hr => by
    unfold runV at h
    split at h
    · cases h
    · rename_i ht
      split at h
      · rename_i hg
        split at h
        · cases h
        · rename_i hv; exact RunK.step ht hg (opV_ok hv) (RV k h hr)
      · rename_i hg
        split at h
        · cases h
        · rename_i hj
          split at h
          · rename_i hE
            split at h
            · rename_i hc
              split at h
              · cases h
              · rename_i hv
                have hc2 := eq_of_beq hc
                subst hc2
                exact RunK.guarded ht hg hj hE (opV_ok hv) (RV k h hr)
            · rename_i hc; exact RunK.skipped ht hg hj hE hc (RV k h hr)
          · cases h
/-- Facts by the list of their numbers. -/
def pickE (E : Env) : List Nat → Option Env
  | [] => some []
  | t :: r => match E.look t with
    | none => none
    | some d => match pickE E r with
      | none => none
      | some E' => some ((t, d) :: E')
theorem Sv : ∀ (ks : List Nat) {E' : Env}, pickE E ks = some E' → Sub E' E
  | [], E', h => by injection h with h; subst h; exact Sub.nil
  | t :: r, E', h => by
    unfold pickE at h
    split at h
    · cases h
    · rename_i hd
      split at h
      · cases h
      · rename_i hr; injection h with h; subst h; exact Sub.cons hd (Sv r hr)
def valsE (E : Env) : List Nat → Option Env
  | [] => some []
  | t :: r => match E.look t with
    | some (.v x) => match valsE E r with
      | none => none
      | some E' => some ((t, .v x) :: E')
    | _ => none
variable {T g : Nat}
/-- Exact values survive every write. -/
theorem LW : ∀ (ks : List Nat) {E' : Env}, valsE E ks = some E' → LeftS B T g E' E
  | [], E', h => by injection h with h; subst h; exact LeftS.nil
  | t :: r, E', h => by
    unfold valsE at h
    split at h
    · rename_i hd
      split at h
      · cases h
      · rename_i hr; injection h with h; subst h; exact LeftS.cons hd (Surv.v _) (LW r hr)
    · cases h
end
section
variable {P : Program} {B n : Nat} {ops : Array Oper} {E E' : Env} {C : Env → Prop} {rest l : List Oper} {t : Nat} {d : D} {ty : TypeId} {pos : String} {after : Array Edge} {o : Oper} {x y : Operand} {draw : Bool} {q : Nat}
theorem RVN (k : Nat) (h : runV ops k l E = some ([], E')) (hC : C E') : RunK P B ops l E C := RV k h (RunK.nil hC)
theorem RF {y : Value} (hr : RunK P B ops rest ((t, .v (.bool false)) :: E) C) (h : y = .bool false := by first | rfl | (simp; done) | (simp; omega) | (simp [*]; done) | (simp [*]; omega)) : RunK P B ops rest ((t, .v y) :: E) C := RunK.as _ h hr
theorem RT {y : Value} (hr : RunK P B ops rest ((t, .v (.bool true)) :: E) C) (h : y = .bool true := by first | rfl | (simp; done) | (simp; omega) | (simp [*]; done) | (simp [*]; omega)) : RunK P B ops rest ((t, .v y) :: E) C := RunK.as _ h hr
theorem RL (s : Nat) {T : TypeId} {td : TypeDesc} {b : Nat} {e : TypeId} {xs : List Value} (ht : P.underlying T = some td) (hx : E.at x = some (.v (.pointer (some ⟨b, 0, none⟩)))) (hblk : E.look s = some (blk b e xs)) (hsz : SizeIs P T xs.length) (hr : RunK P B ops rest ((t, .v (aggV xs)) :: E) C)
    (hsl : vbase ≤ s := by decide) (hp : (match td with | .struct _ | .array _ _ => true | _ => false) = true := by exact rfl) : RunK P B ops (⟨some t, .load T x, ty, pos, after, none⟩ :: rest) E C := RunK.step rfl rfl (ok_loadA hsl ht hp hsz hx hblk) hr
theorem RLV (s : Nat) {T : TypeId} {td : TypeDesc} {b o : Nat} {e : TypeId} {xs : List Value} {u : Value} (ht : P.underlying T = some td) (hx : E.at x = some (.v (.pointer (some ⟨b, o, none⟩)))) (hblk : E.look s = some (blk b e xs)) (hu : xs[o]? = some u) (hr : RunK P B ops rest ((t, .v u) :: E) C)
    (hsl : vbase ≤ s := by decide) (hp : plainTD td = true := by exact rfl) : RunK P B ops (⟨some t, .load T x, ty, pos, after, none⟩ :: rest) E C := RunK.step rfl rfl (ok_loadV hsl ht hp hx hblk hu) hr
theorem ZA (s : Nat) {T : TypeId} {b : Nat} {e : TypeId} {xs ys : List Value} (hsz : SizeIs P T ys.length) (hb : B ≤ b) (hp : E.at x = some (.v (.pointer (some ⟨b, 0, none⟩)))) (hx : E.at y = some (.v (aggV ys))) (hblk : E.look s = some (blk b e xs)) (hl : LeftS B e b E' E)
    (hr : RunTK P n B ops draw C q ((s, blk b e ys) :: E')) (h1 : ys.all (·.oneCell') = true := by exact rfl) (ho : xs.length = ys.length := by exact rfl) : ∃ E₂, Eff P n B ops ⟨none, .store T x y, ty, pos, after, none⟩ E E₂ ∧ RunTK P n B ops draw C q E₂ := ⟨_, eff_storeA hsz hp hx h1 hb hblk ho hl, hr⟩
theorem ZN (k : Nat) {T : TypeId} {zs : List Value} {e : Nat} (hz : ZeroIs P T zs) (hr : ∀ b, NewB B E b → RunTK P n B ops draw C q ((e, .v (.pointer (some ⟨b, 0, none⟩))) :: (k, blk b T zs) :: E)) (hd : e < n := by decide) :
    ∃ (G : Nat → Prop) (E₂ : Nat → Env), EffG P n B ops ⟨some e, .alloc T, ty, pos, after, none⟩ E G E₂ ∧ ∀ b, G b → RunTK P n B ops draw C q (E₂ b) := ⟨_, _, eff_alloc hz hd, hr⟩
theorem ZB (k : Nat) {T : TypeId} {xs : List Value} {e : Nat} (hx : E.at x = some (.v (aggV xs))) (hr : ∀ b, NewB B E b → RunTK P n B ops draw C q ((e, .v (.pointer (some ⟨b, 0, none⟩))) :: (k, blk b T xs) :: E)) (hd : e < n := by decide) :
    ∃ (G : Nat → Prop) (E₂ : Nat → Env), EffG P n B ops ⟨some e, .box T x, ty, pos, after, none⟩ E G E₂ ∧ ∀ b, G b → RunTK P n B ops draw C q (E₂ b) := ⟨_, _, eff_box hx hd, hr⟩
theorem ZM (k : Nat) {e : TypeId} {m : Nat} {val : Nat → Value} {xs : List Value} (hok : ∀ B', OpOk P B' o E (newD B' e val xs)) (ht : o.dst = some m) (hr : ∀ b, NewB B E b → RunTK P n B ops draw C q ((m, .v (val b)) :: (k, blk b e xs) :: E)) (hg : o.guard = none := by exact rfl) (hd : m < n := by decide) (hnv : n ≤ vbase := by decide) :
    ∃ (G : Nat → Prop) (E₂ : Nat → Env), EffG P n B ops o E G E₂ ∧ ∀ b, G b → RunTK P n B ops draw C q (E₂ b) := ⟨_, _, eff_name ht hg hok hd hnv, hr⟩
def idxO : Nat → List D → Option Env
  | _, [] => some []
  | i, d :: r => match idxO (i + 1) r with
    | none => none
    | some E => some ((i, d) :: E)
theorem idxO_start : ∀ {ds r : List D} {i : Nat} {E : Env}, idxO i r = some E → (∀ j d, r[j]? = some d → ds[i + j]? = some d) → ∀ B, Start B ds E
  | ds, [], i, E, h, _, B => by injection h with h; subst h; exact Start.nil
  | ds, d :: r, i, E, h, hd, B => by
    unfold idxO at h
    split at h
    · cases h
    · rename_i hE
      injection h with h; subst h
      exact Start.v (by have := hd 0 d rfl; simpa using this) (idxO_start hE (fun j e hj => by have := hd (j + 1) e (by simpa using hj); rwa [show i + 1 + j = i + (j + 1) from by omega]) B)
theorem FV {f : FuncId} {fn : Func} {c : Code} {ds : List D} (hf : P.funcs[f]? = some fn) (hb : fn.body = some c) (hn : fn.ntmps = n) (hE : idxO 0 ds = some E) (h : ∀ w₀, A Cx.top P w₀ n c E (BP P fn (PostOf w₀ d))) (hname : (fn.name == "runtime.NumGoroutine") = false := by kernel_rfl) (hds : ds.length ≤ n := by simp) : Fn P f ds d :=
  Fn.of hf hb hname hn hds (fun _ => E) (fun w => idxO_start hE (fun j e hj => by simpa using hj) _) h
end
section
variable {κ : Cx} {P : Program} {n : Nat} {w₀ : World} {E E' E₁ : Env} {y c : Code} {Q : Exit → Act → World → Prop} {id : Nat} {ops : Array Oper}
theorem GT (hr : RunK P w₀.heap.size ops (ops.toList.drop 0) E (fun E₁ => A κ P w₀ n y E₁ Q)) (hm : P.follows .mixedOrders = true := by kernel_rfl) (hf : fits n ops = true := by kernel_rfl) : A κ P w₀ n (.seq (.region id ops false) y) E Q := A.regs hm hf (.inl rfl) (RunTK.last hr)
theorem GTD (hr : RunK P w₀.heap.size ops (ops.toList.drop 0) E (fun E₁ => A κ P w₀ n y E₁ Q)) (hm : P.follows .mixedOrders = true := by kernel_rfl) (hf : fits n ops = true := by kernel_rfl) (ht : tied ops = true := by kernel_rfl) : A κ P w₀ n (.seq (.region id ops true) y) E Q := A.regs hm hf (.inr ht) (RunTK.last hr)
theorem GTE (hr : RunK P w₀.heap.size ops (ops.toList.drop 0) E (fun E₁ => End κ w₀ n E₁ (Q .normal))) (hm : P.follows .mixedOrders = true := by kernel_rfl) (hf : fits n ops = true := by kernel_rfl) : A κ P w₀ n (.region id ops false) E Q := A.reg hm hf (.inl rfl) (RunTK.last hr)
theorem GV (h : runV ops ops.size ops.toList E = some ([], E')) (hr : A κ P w₀ n y E' Q) (hm : P.follows .mixedOrders = true := by kernel_rfl) (hf : fits n ops = true := by kernel_rfl) : A κ P w₀ n (.seq (.region id ops false) y) E Q := A.regs hm hf (.inl rfl) (RunTK.last (RVN _ h hr))
theorem GVE (h : runV ops ops.size ops.toList E = some ([], E')) (hr : End κ w₀ n E' (Q .normal)) (hm : P.follows .mixedOrders = true := by kernel_rfl) (hf : fits n ops = true := by kernel_rfl) : A κ P w₀ n (.region id ops false) E Q := A.reg hm hf (.inl rfl) (RunTK.last (RVN _ h hr))
theorem ER {fn : Func} {r : Nat} {d e : D} (hr : fn.results = #[.tmp r]) (he : E.look r = some e) (hl : Le e d := by first | exact Le.refl _ | exact Le.old _ _) : End Cx.top w₀ n E (BP P fn (PostOf w₀ d) .ret) := End.ret1 hr he hl
theorem QSB {x : Code} {id : Nat} (h : A κ P w₀ n x E (Exit.inBlock id (Exit.then (y.wpIn (FR κ.rd) 0 P Q) Q))) : A κ P w₀ n (.seq (.block id x) y) E Q := A.seq (A.block h)
theorem QS {x : Code} (h : A κ P w₀ n x E (Exit.then (y.wpIn (FR κ.rd) 0 P Q) Q)) : A κ P w₀ n (.seq x y) E Q := A.seq h
theorem QK (h : A κ P w₀ n y E Q) : A κ P w₀ n .skip E (Exit.then (y.wpIn (FR κ.rd) 0 P Q) Q) := A.skip (End.normal_then (End.code h))
end
end Go.Proofs.Ytggijkmlmklneaa
namespace Go.Proofs.Ytggijkmlmklneaa
open Go Go.RowKit
variable {κ : Cx}
section
variable {P : Program} {B : Nat} {E : Env} {o : Oper}
end
section
variable {P : Program} {n : Nat} {w₀ : World} {E : Env}
end
/-! ### A row with room behind it, named where it is made -/
/-! ### Variables -/
theorem Surv.hd {B T g : Nat} {f : D} {rest : List Value} (h : Surv B T g f) : Surv B T g (hdD f rest) := fun w w' _ k ⟨v, h1, h2, h3⟩ => ⟨v, h1, h2, h w w' v k h3⟩
theorem Surv.valM {B T g : Nat} {f : D} {v : Value} (h : Surv B T g f) : Surv B T g (Go.Proofs.Ytggijkmlmklneaa.valM v f) := fun w w' _ k hx => h w w' v k hx
section
variable {P : Program} {n B : Nat} {ops : Array Oper} {E : Env} {ty : TypeId} {pos : String} {after : Array Edge}
end
/-- Some value. -/
def anyD : D := .p (fun _ _ _ => True) (fun _ _ _ _ _ _ => trivial) (fun _ _ _ _ _ _ => trivial)
theorem Surv.any {B T g : Nat} : Surv B T g anyD := fun _ _ _ _ _ => trivial
end Go.Proofs.Ytggijkmlmklneaa
namespace Go.Proofs.Ytggijkmlmklneaa
open Go Go.RowKit
variable {κ : Cx}

def RelX (eff : Bool) (B : Nat) (w w' : World) : Prop := if eff then Below B w w' else Grow w w'
theorem RelX.below {eff : Bool} {B : Nat} {w w' : World} (h : RelX eff B w w') (hB : B ≤ w.heap.size) : Below B w w' := by
  cases eff with
  | true => exact h
  | false => exact Below.mono (show Grow w w' from h) hB
def OpOkX (eff : Bool) (P : Program) (B : Nat) (o : Oper) (E : Env) (d : D) : Prop :=
  ∀ (ρ : Operand → Value) (w : World), B ≤ w.heap.size → (∀ t e, vbase ≤ t → E.look t = some e → e.Of w undef) → (∀ x, x ∈ o.op.operands → ∀ e, E.at x = some e → e.Of w (ρ x)) → Out P o ρ w fun x w' => RelX eff B w w' ∧ d.Of w' x
def GoodX (eff : Bool) (P : Program) (B : Nat) (ops : Array Oper) (o : Oper) (E : Env) (d : D) : Prop :=
  (GuardIs ops E o true ∧ OpOkX eff P B o E d) ∨ (GuardIs ops E o false ∧ d = .v undef)
/-- Of an operation: does it change memory, does what is told of its value stay true whatever happens above the base, and which operation makes it untrue. -/
structure Mk where
  eff : Bool
  stab : Bool
  kill : Option Nat
section
variable {P : Program} {B : Nat} {ops : Array Oper} {Q : Exit → Act → World → Prop}
inductive TraceX (P : Program) (B : Nat) (ops : Array Oper) : List Oper → Env → List Mk → List D → Env → Prop
  | nil {E : Env} : TraceX P B ops [] E [] [] E
  | cons {o : Oper} {rest : List Oper} {E E' : Env} {t : Nat} {d : D} {ds : List D} {m : Mk} {ms : List Mk} (ht : o.dst = some t) (hg : GoodX m.eff P B ops o E d) (hs : m.stab = true → Stays B d) (hr : TraceX P B ops rest ((t, d) :: E) ms ds E') : TraceX P B ops (o :: rest) E (m :: ms) (d :: ds) E'
theorem TraceX.nth {rest : List Oper} {E E' : Env} {ms : List Mk} {ds : List D} (h : TraceX P B ops rest E ms ds E') : ∀ {i : Nat} {o : Oper}, rest[i]? = some o →
    ∃ t d Ei m, o.dst = some t ∧ ds[i]? = some d ∧ ms[i]? = some m ∧ GoodX m.eff P B ops o Ei d ∧ (m.stab = true → Stays B d) ∧ ∀ s e, Ei.look s = some e →
      (∃ j o', j < i ∧ rest[j]? = some o' ∧ o'.dst = some s ∧ ds[j]? = some e) ∨ ((∀ j o', j < i → rest[j]? = some o' → o'.dst ≠ some s) ∧ E.look s = some e) := by
  induction h with
  | nil => intro i o hi; simp at hi
  | @cons o0 rest E E' t0 d0 ds m0 ms ht hg hs hr ih =>
    intro i o hi
    cases i with
    | zero =>
      simp at hi; subst hi
      exact ⟨t0, d0, E, m0, ht, rfl, rfl, hg, hs, fun s e he => .inr ⟨fun j _ hj => by omega, he⟩⟩
    | succ i =>
      obtain ⟨t, d, Ei, m, h1, h2, h2', h3, h3', h4⟩ := ih (i := i) (by simpa using hi)
      refine ⟨t, d, Ei, m, h1, by simpa using h2, by simpa using h2', h3, h3', fun s e he => ?_⟩
      rcases h4 s e he with ⟨j, o', hj, ho', hd, hds⟩ | ⟨hno, hl⟩
      · exact .inl ⟨j + 1, o', by omega, by simpa using ho', hd, by simpa using hds⟩
      · by_cases hs : t0 = s
        · subst hs
          rw [look_here] at hl
          exact .inl ⟨0, o0, by omega, rfl, ht, by simpa using hl⟩
        · rw [look_past _ _ hs] at hl
          refine .inr ⟨fun j o' hj ho' => ?_, hl⟩
          cases j with
          | zero => simp at ho'; subst ho'; rw [ht]; intro h; injection h with h; exact hs h
          | succ j => exact hno j o' (by omega) (by simpa using ho')
theorem TraceX.last {rest : List Oper} {E E' : Env} {ms : List Mk} {ds : List D} (h : TraceX P B ops rest E ms ds E') : ∀ s e, E'.look s = some e →
      (∃ (j : Nat) (o' : Oper), rest[j]? = some o' ∧ o'.dst = some s ∧ ds[j]? = some e) ∨ ((∀ (j : Nat) (o' : Oper), rest[j]? = some o' → o'.dst ≠ some s) ∧ E.look s = some e) := by
  induction h with
  | nil => intro s e he; exact .inr ⟨fun j _ hj => by simp at hj, he⟩
  | @cons o0 rest E E' t0 d0 ds m0 ms ht hg hs hr ih =>
    intro s e he
    rcases ih s e he with ⟨j, o', ho', hd, hds⟩ | ⟨hno, hl⟩
    · exact .inl ⟨j + 1, o', by simpa using ho', hd, by simpa using hds⟩
    · by_cases hs : t0 = s
      · subst hs
        rw [look_here] at hl
        exact .inl ⟨0, o0, rfl, ht, by simpa using hl⟩
      · rw [look_past _ _ hs] at hl
        refine .inr ⟨fun j o' ho' => ?_, hl⟩
        cases j with
        | zero => simp at ho'; subst ho'; rw [ht]; intro h; injection h with h; exact hs h
        | succ j => exact hno j o' (by simpa using ho')
/-- The region gone through in the order of the text. -/
def RunX (P : Program) (B : Nat) (ops : Array Oper) (rest : List Oper) (E : Env) (ms : List Mk) (C : Env → Prop) : Prop := ∃ ds E', TraceX P B ops rest E ms ds E' ∧ C E'
variable {E : Env} {C : Env → Prop} {o : Oper} {rest : List Oper} {t : Nat} {d : D} {ms : List Mk}
theorem RunX.nil (h : C E) : RunX P B ops [] E [] C := ⟨[], E, .nil, h⟩
theorem OpOk.x (h : OpOk P B o E d) : OpOkX false P B o E d := fun ρ w hB hv hρ => (h ρ w hB hv hρ).mono fun _ _ hx => ⟨hx.1, hx.2⟩
theorem RunX.step {st : Bool} {kl : Option Nat} (ht : o.dst = some t) (hg : o.guard = none) (h : OpOk P B o E d) (hs : st = true → Stays B d) (hr : RunX P B ops rest ((t, d) :: E) ms C) : RunX P B ops (o :: rest) E (⟨false, st, kl⟩ :: ms) C := by
  obtain ⟨ds, E', h1, h2⟩ := hr
  exact ⟨_, E', .cons ht (.inl ⟨by simp [GuardIs, hg], h.x⟩) hs h1, h2⟩
theorem RunX.eff {st : Bool} {kl : Option Nat} (ht : o.dst = some t) (hg : o.guard = none) (h : OpOkX true P B o E d) (hs : st = true → Stays B d) (hr : RunX P B ops rest ((t, d) :: E) ms C) : RunX P B ops (o :: rest) E (⟨true, st, kl⟩ :: ms) C := by
  obtain ⟨ds, E', h1, h2⟩ := hr
  exact ⟨_, E', .cons ht (.inl ⟨by simp [GuardIs, hg], h⟩) hs h1, h2⟩
theorem RunX.as (x : Value) {y : Value} (h : y = x) (hr : RunX P B ops rest ((t, .v x) :: E) ms C) : RunX P B ops rest ((t, .v y) :: E) ms C := h ▸ hr
theorem RunX.last {E'' : Env} {C : Env → Prop} {dead : List Nat} (hs : Sub E'' E) (hd : (E''.map (·.1)).all (fun k => !dead.contains k) = true) (h : C E'') : RunX P B ops [] E [] (fun E' => ∃ E'', Sub E'' E' ∧ (∀ p ∈ E'', p.1 ∉ dead) ∧ C E'') :=
  RunX.nil ⟨E'', hs, fun p hp hm => by
    have := List.all_eq_true.1 hd p.1 (List.mem_map_of_mem hp)
    simp [hm] at this, h⟩
def StaysL (B : Nat) (E : Env) : Prop := ∀ p ∈ E, Stays B p.2
theorem StaysL.nil : StaysL B [] := fun _ h => by cases h
theorem StaysL.cons {k : Nat} {d : D} {E : Env} (h : Stays B d) (hr : StaysL B E) : StaysL B ((k, d) :: E) := fun p hp => by
  rcases List.mem_cons.1 hp with rfl | hp
  · exact h
  · exact hr p hp
end
section
variable {P : Program} {B : Nat} {E : Env} {dst : Option Tmp} {ty : TypeId} {pos : String} {after : Array Edge} {guard : Option (Nat × Bool)}
end
end Go.Proofs.Ytggijkmlmklneaa
namespace Go.Proofs.Ytggijkmlmklneaa
open Go Go.RowKit
variable {κ : Cx}
def ownP (base : Nat) (e : TypeId) (sz n : Nat) (xs : List Value) : D :=
  .p (fun B w x => w.ownsRow base e sz x n xs ∧ ∀ g, x.ownBlock = some g → g < B)
    (fun B w w' x g ⟨h1, h2⟩ => ⟨by
      obtain ⟨h3, h4⟩ := h1
      refine ⟨h3, h4.imp id ?_⟩
      rintro ⟨k, cap, cur, rfl, hk, hh, hr⟩
      exact ⟨k, cap, cur, rfl, hk, (g.block k (h2 k (by simp [Value.ownBlock]))).trans hh, hr⟩, h2⟩)
    (fun _ _ _ _ g ⟨h1, h2⟩ => ⟨h1, fun k hk => Nat.lt_of_lt_of_le (h2 k hk) g⟩)
theorem ownP_nil {B sz : Nat} {e : TypeId} : Le (.v (.slice none 0 0)) (ownP B e sz 0 []) := fun _ _ _ h => by
  have h : _ = _ := h
  subst h
  exact ⟨⟨by simp, .inl ⟨rfl, rfl⟩⟩, fun g hg => by simp [Value.ownBlock] at hg⟩
theorem Surv.ownP {B T g base sz n : Nat} {e : TypeId} {xs : List Value} (h : e ≠ T) : Surv B T g (Go.Proofs.Ytggijkmlmklneaa.ownP base e sz n xs) := fun w w' x k ⟨h1, h2⟩ => by
  obtain ⟨h3, h4⟩ := h1
  refine ⟨⟨h3, h4.imp id ?_⟩, fun j hj => Nat.lt_of_lt_of_le (h2 j hj) k.size⟩
  rintro ⟨j, cap, cur, rfl, hj, hh, hr⟩
  refine ⟨j, cap, cur, rfl, hj, ?_, hr⟩
  by_cases hjg : j = g
  · subst hjg; exact absurd (k.row _ _ _ hh) h
  · rw [k.other j (h2 j (by simp [Value.ownBlock])) hjg]; exact hh
def InfoP (P : Program) (e : TypeId) (z : Value) (sz nb : Nat) : Prop := (P.info? e).map (fun i => (i.zero, i.size, i.bytes)) = some (some z, sz, nb)
theorem InfoP.get {P : Program} {e : TypeId} {z : Value} {sz nb : Nat} (h : InfoP P e z sz nb) : ∃ i, P.info? e = some i ∧ i.zero = some z ∧ i.size = sz ∧ i.bytes = nb := by
  unfold InfoP at h
  cases hi : P.info? e with
  | none => rw [hi] at h; cases h
  | some i =>
    rw [hi] at h
    simp only [Option.map_some, Option.some.injEq, Prod.mk.injEq] at h
    exact ⟨i, rfl, h.1, h.2.1, h.2.2⟩
/-- The cells at an address. -/
def elemP (us : List Value) : D :=
  .p (fun B w x => ∃ ad : Addr, x = .pointer (some ad) ∧ ad.block < B ∧ ∀ (j : Nat) (u : Value), us[j]? = some u → w.cell? (ad.add j) = some u)
    (fun _ _ _ _ g ⟨ad, h1, h2, h3⟩ => ⟨ad, h1, h2, fun j u hu => (g.cell (by rw [block_of_add]; exact h2)).trans (h3 j u hu)⟩) (fun _ _ _ _ g ⟨ad, h1, h2, h3⟩ => ⟨ad, h1, by omega, h3⟩)
section
variable {P : Program} {B : Nat} {E : Env} {dst : Option Tmp} {ty : TypeId} {pos : String} {after : Array Edge} {guard : Option (Nat × Bool)}
end
section
variable {P : Program} {n B : Nat} {ops : Array Oper} {E : Env} {ty : TypeId} {pos : String} {after : Array Edge}
/-! ### New variables in drawn regions -/
theorem Surv.tup3 {T g : Nat} {d₁ d₂ d₃ : D} (h₁ : Surv B T g d₁) (h₂ : Surv B T g d₂) (h₃ : Surv B T g d₃) : Surv B T g (tup [d₁, d₂, d₃]) := fun w w' x k ⟨xs, h1, h2, h3⟩ => by
  refine ⟨xs, h1, h2, fun j d u hd hu => ?_⟩
  match j, hd with
  | 0, hd => simp at hd; subst hd; exact h₁ w w' u k (h3 0 _ u rfl hu)
  | 1, hd => simp at hd; subst hd; exact h₂ w w' u k (h3 1 _ u rfl hu)
  | 2, hd => simp at hd; subst hd; exact h₃ w w' u k (h3 2 _ u rfl hu)
  | j + 3, hd => simp at hd
end
end Go.Proofs.Ytggijkmlmklneaa
namespace Go.Proofs.Ytggijkmlmklneaa
open Go Go.RowKit
set_option linter.unusedVariables false
set_option linter.unusedSimpArgs false
variable {κ : Cx}
/-- The cells that stand from an address on. -/
def memR (A : Option Addr) (xs : List Value) : D :=
  .p (fun B w _ => RowIn B w A xs) (fun _ _ _ _ g h j u hu => by obtain ⟨ad, h1, h2, h3⟩ := h j u hu; exact ⟨ad, h1, h2, (g.cell (by rw [block_of_add]; exact h2)).trans h3⟩)
    (fun _ _ _ _ g h j u hu => by obtain ⟨ad, h1, h2, h3⟩ := h j u hu; exact ⟨ad, h1, Nat.lt_of_lt_of_le h2 g, h3⟩)
/-- A slice of n elements whose cells read as xs. -/
def rowD (n : Nat) (xs : List Value) : D :=
  .p (fun B w x => ∃ A c, x = .slice A n c ∧ RowIn B w A xs) (fun _ _ _ _ g ⟨A, c, h1, h2⟩ => ⟨A, c, h1, D.OfB.keep (d := memR A xs) (x := undef) h2 g⟩) (fun _ _ _ _ g ⟨A, c, h1, h2⟩ => ⟨A, c, h1, D.OfB.up (d := memR A xs) (x := undef) h2 g⟩)
theorem rowD_nil {A : Option Addr} {c : Nat} : Le (.v (.slice A 0 c)) (rowD 0 []) := fun _ _ _ h => ⟨A, c, h, fun j u hu => by cases hu⟩
theorem blk_rowIn {B b : Nat} {w : World} {e : TypeId} {xs : List Value} (hb : b < B) (hh : w.heap[b]? = some (.cells xs.toArray e (0, 0))) : RowIn B w (some ⟨b, 0, none⟩) xs := fun j u hu => ⟨_, rfl, hb, by
  rw [show (⟨b, 0, none⟩ : Addr).add j = ⟨b, j, none⟩ from by unfold Addr.add; split <;> simp_all]
  simp [World.cell?, hh]; simpa using hu⟩
section
variable {P : Program} {n : Nat} {E : Env} {w₀ : World} {c : Code} {Q : Exit → Act → World → Prop}
end
section
variable {P : Program} {B : Nat} {E : Env} {dst : Option Tmp} {ty : TypeId} {pos : String} {after : Array Edge} {guard : Option (Nat × Bool)}
theorem ok_indexR {t e : TypeId} {z : Value} {sz nb : Nat} {x i : Operand} {A₀ : Option Addr} {q k s B' : Nat} {xs : List Value} {ki : IntKind} (m : Nat) (ht : P.underlying t = some (.slice e)) (hs : InfoP P e z sz nb) (hx : E.at x = some (.v (.slice A₀ k q)))
    (hr : E.look s = some (old B' (memR A₀ xs))) (hsv : vbase ≤ s) (hi : E.at i = some (.v (.int ki (m : Int)))) (hm : m < k) (hlt : m * sz < xs.length) :
    OpOk P B ⟨dst, .indexAddr t x i, ty, pos, after, guard⟩ E (elemP ((xs.drop (m * sz)).take sz)) := fun ρ w _ hv hρ => by
  have h1 : ρ x = .slice A₀ k q := hρ x (by simp [Op.operands]) _ hx
  have hi' : ρ i = .int ki m := hρ i (by simp [Op.operands]) _ hi
  obtain ⟨hB, hrow⟩ := hv s _ hsv hr
  obtain ⟨info, hinfo, _, hsize, _⟩ := hs.get
  obtain ⟨ad, hA, hab, _⟩ := hrow (m * sz) _ (List.getElem?_eq_getElem hlt)
  subst hA
  refine out_val (x := .pointer (some (ad.add (m * sz)))) (w' := w) ?_ ⟨Grow.refl w, _, rfl, by rw [block_of_add]; omega, fun j u hu => ?_⟩
  · simp [execOp, h1, hi', Instr.indexAt, asIntOf, run_underlying ht, sizeOf, typeInfo, hinfo, hsize, hm]
  · rw [List.getElem?_take] at hu
    split at hu
    · rw [List.getElem?_drop] at hu
      obtain ⟨ad', hA', _, h4⟩ := hrow (m * sz + j) u hu
      injection hA' with hA'; subst hA'
      rw [add_of_add]; exact h4
    · cases hu
theorem ok_loadP1 {T : TypeId} {td : TypeDesc} {x : Operand} {u : Value} {us : List Value} (ht : P.underlying T = some td) (hp : (match td with | .struct _ | .array _ _ => false | _ => true) = true) (hx : E.at x = some (elemP (u :: us))) :
    OpOk P B ⟨dst, .load T x, ty, pos, after, guard⟩ E (.v u) := fun ρ w _ _ hρ => by
  obtain ⟨ad, h1, _, h3⟩ := hρ x (by simp [Op.operands]) _ hx
  have hagg : (isAgg T).run P w = .ok false w := by
    unfold isAgg
    simp only [Sem.run_bind, run_underlying ht, Result.andThen_ok]
    cases td <;> simp_all
  have hc : w.cell? ad = some u := by have := h3 0 u rfl; rwa [show ad.add 0 = ad from by simp [Addr.add]] at this
  exact out_val (x := u) (w' := w) (by simp [execOp, h1, Instr.loadAt, Instr.sureAddr, loadVar, hagg, hc]) ⟨Grow.refl w, rfl⟩
theorem fill_go (us : List Value) : ∀ (ds pre : List Value), ds.length = us.length → ((us.zipIdx pre.length).foldl (fun cs (x : Value × Nat) => cs.setIfInBounds (0 + x.2) x.1) (pre ++ ds).toArray) = (pre ++ us).toArray := by
  induction us with
  | nil => intro ds pre h; cases ds with
    | nil => rfl
    | cons => cases h
  | cons u us ih =>
    intro ds pre h
    cases ds with
    | nil => cases h
    | cons d ds =>
      rw [List.zipIdx_cons, List.foldl_cons]
      have := ih ds (pre ++ [u]) (by simpa using h)
      rw [show ((pre ++ d :: ds).toArray.setIfInBounds (0 + pre.length) u) = ((pre ++ [u]) ++ ds).toArray from by
        rw [Nat.zero_add, List.setIfInBounds_toArray, List.set_append_right _ _ (Nat.le_refl _)]; simp]
      rw [show pre.length + 1 = (pre ++ [u]).length from by simp, this]; simp
theorem ok_makeK {t e : TypeId} {x y : Operand} {z : Value} {nb sz : Nat} {k k' : IntKind} (c : Nat) (ht : P.underlying t = some (.slice e)) (hinfo : InfoP P e z sz nb) (hnb : nb ≤ 64)
    (hx : E.at x = some (.v (.int k (c : Int)))) (hy : E.at y = some (.v (.int k' (c : Int)))) (hc : c ≤ 4398046511104) :
    OpOk P B ⟨dst, .makeSlice t x y, ty, pos, after, guard⟩ E (newD B e (fun b => .slice (some ⟨b, 0, none⟩) c c) (madeCells z.cells (c * sz)).toList) := fun ρ w hB _ hρ => by
  obtain ⟨i, hi, hz, hs, hb⟩ := hinfo.get
  have h1 : ρ x = _ := hρ x (by simp [Op.operands]) _ hx
  have h2 : ρ y = _ := hρ y (by simp [Op.operands]) _ hy
  have hbc : i.bytes * c ≤ 64 * c := Nat.mul_le_mul_right c (by omega)
  have hr := run_make (P := P) w t e i z ht hi hz k k' (c : Int) (c : Int) (by omega) (by omega) (by rw [← Int.natCast_mul]; omega) (by omega)
  refine out_val (x := .slice (some ⟨w.heap.size, 0, none⟩) c c) (w' := w.alloc (.cells (madeCells z.cells (c * i.size)) e)) ?_ ⟨Grow.alloc w _, w.heap.size, rfl, hB, by simp, ?_⟩
  · simp only [execOp, h1, h2, Sem.run_bind, hr, Result.andThen_ok, Sem.run_pure, Int.toNat_natCast]
  · rw [← hs]; exact heap_alloc_new w _
end
section
variable {P : Program} {n B : Nat} {ops : Array Oper} {E : Env} {ty : TypeId} {pos : String} {after : Array Edge}
theorem eff_copyK {t e : TypeId} {z : Value} {nb sz : Nat} {r x : Operand} {b o dn dc s k sn sc dst B' : Nat} {A₀ : Option Addr} {e' : TypeId} {xs ys : List Value} {E' : Env} (ht : P.underlying t = some (.slice e)) (hinfo : InfoP P e z sz nb)
    (hr : E.at r = some (.v (.slice (some ⟨b, o, none⟩) dn dc))) (hx : E.at x = some (.v (.slice A₀ sn sc))) (hk : E.look k = some (old B' (memR A₀ ys))) (h1 : ys.all (·.oneCell') = true) (hl : ys.length = sn * sz) (hsd : sn ≤ dn) (hsz : 0 < sz)
    (hb : B ≤ b) (hblk : E.look s = some (blk b e' xs)) (hfit : o + sn * sz ≤ xs.length) (hdst : dst < n) (hle : LeftS B e' b E' E) :
    Eff P n B ops ⟨some dst, .call { callee := .builtin .copy, args := #[r, x], argTypes := #[t, t] }, ty, pos, after, none⟩ E ((dst, .v (.int .i64 (sn : Int))) :: (s, blk b e' (xs.take o ++ ys ++ xs.drop (o + sn * sz))) :: E') := by
  obtain ⟨i, hi, _, hs, _⟩ := hinfo.get
  intro κ a w K Q h hK
  have hre : a.eval r = _ := h.at_ r _ hr
  have hxe : a.eval x = _ := h.at_ x _ hx
  obtain ⟨hB, hrow⟩ := h.of k _ hk
  obtain ⟨hlt, hh⟩ := h.of s _ hblk
  have hrun : ∃ w', (Builtin.copy_ #[t, t] ty #[a.eval r, a.eval x]).run P w = .ok (.int .i64 (sn : Int)) w' ∧ Wrote B e' b w w' ∧ w'.heap[b]? = some (.cells (xs.take o ++ ys ++ xs.drop (o + sn * sz)).toArray e' (0, 0)) ∧ b < w'.heap.size := by
    rw [hre, hxe]
    have hmin : Nat.min sn dn = sn := Nat.min_eq_left hsd
    cases A₀ with
    | none =>
      have hz : ys = [] := by
        cases ys with
        | nil => rfl
        | cons y ys => obtain ⟨_, h0, _⟩ := hrow 0 y rfl; cases h0
      subst hz
      have h0 : sn = 0 := by
        have : sn * sz = 0 := by simpa using hl.symm
        rcases Nat.mul_eq_zero.1 this with h | h
        · exact h
        · omega
      subst h0
      refine ⟨w, ?_, ⟨hb, rfl, rfl, rfl, Nat.le_refl _, fun o' ho => by rw [hh] at ho; injection ho with ho; exact ⟨_, _, ho.symm⟩, fun _ _ _ => rfl⟩, by simpa using hh, hlt⟩
      simp [Builtin.copy_, run_underlying ht, Builtin.lenOf, Builtin.firstCells, sizeOf, typeInfo, hi, storeCells, goInt]
    | some ad =>
      have hload := run_loadCells_list (P := P) w ad ys (fun j v hv => by obtain ⟨ad', h1, _, h3⟩ := hrow j v hv; injection h1 with h1; subst h1; exact h3)
      have hst := run_storeCells_at P b o e' ys 0 xs.toArray w hh (by simpa [hl] using hfit) (fun v hv => List.all_eq_true.1 h1 v hv)
      refine ⟨w.setRow b (xs.take o ++ ys ++ xs.drop (o + sn * sz)).toArray, ?_, Wrote.setRow hb hh _, by simp [World.setRow, Array.getElem?_modify, hh], by simpa [World.setRow] using hlt⟩
      simp only [hl] at hst
      simp [Builtin.copy_, run_underlying ht, Builtin.lenOf, Builtin.firstCells, sizeOf, typeInfo, hi, hs, hmin, ← hl, hload, goInt]
      simp [hl, hst]
  obtain ⟨w', hrun, hwr, hh', hlt'⟩ := hrun
  have hexec : (execOp a.eval ⟨some dst, .call { callee := .builtin .copy, args := #[r, x], argTypes := #[t, t] }, ty, pos, after, none⟩).run P w = .ok (.value (.int .i64 (sn : Int))) w' := by
    simp [execOp, resolve, invoke, builtin, hrun]
  rw [if_pos (by simp [Region.wanted])]
  refine opR (by nofun) ?_
  unfold Oper.wp
  rw [hexec, Oper.upon_value]
  exact hK _ _ (hwr.below h.base) (St.put ((hle.st h hwr).push (d := blk b e' (xs.take o ++ ys ++ xs.drop (o + sn * sz))) ⟨hlt', hh'⟩) hdst rfl)
end
end Go.Proofs.Ytggijkmlmklneaa
namespace Go.Proofs.Ytggijkmlmklneaa
open Go Go.RowKit
set_option linter.unusedSimpArgs false
set_option linter.unusedVariables false
variable {κ : Cx}
/-- The facts M on memory stand in the environment, each at some number. -/
def MHas (E : Env) (M : Env) : Prop := ∀ q ∈ M, ∃ k d, vbase ≤ k ∧ E.look k = some d ∧ Le d q.2
theorem MHas.nil {E : Env} : MHas E [] := fun _ h => by cases h
theorem MHas.cons {E M : Env} {t : Nat} {d' : D} (k : Nat) {d : D} (hk : vbase ≤ k) (hE : E.look k = some d) (hl : Le d d') (hr : MHas E M) : MHas E ((t, d') :: M) := fun q hq => by
  rcases List.mem_cons.1 hq with rfl | hq
  · exact ⟨k, d, hk, hE, hl⟩
  · exact hr q hq
section
variable {P : Program} {B : Nat} {E : Env} {dst : Option Tmp} {ty : TypeId} {pos : String} {after : Array Edge} {guard : Option (Nat × Bool)}
end
section
variable {P : Program} {B : Nat} {E : Env}
end
end Go.Proofs.Ytggijkmlmklneaa
namespace Go.Proofs.Ytggijkmlmklneaa
open Go Go.RowKit
set_option linter.unusedSimpArgs false
set_option linter.unusedVariables false
structure Us where
  key : List UInt8
  s : Nat
  c : Nat
  f : Nat
  l : Nat
deriving DecidableEq
instance : Inhabited Us := ⟨⟨[], 0, 0, 0, 0⟩⟩
def Us.Fit (u : Us) : Prop := u.key.length = 16 ∧ u.s < 4294967296 ∧ u.c < 18446744073709551616 ∧ u.f < 4294967296 ∧ u.l < 4294967296
def Fits (us : List Us) : Prop := ∀ u ∈ us, u.Fit
theorem Fits.cons {u : Us} {us : List Us} (h : Fits (u :: us)) : u.Fit ∧ Fits us := ⟨h u (by simp), fun v hv => h v (by simp [hv])⟩
theorem Fits.append {us vs : List Us} (h : Fits us) (k : Fits vs) : Fits (us ++ vs) := fun u hu => (List.mem_append.1 hu).elim (h u) (k u)
theorem Fits.get {us : List Us} {i : Nat} (h : Fits us) (hi : i < us.length) : us[i].Fit := h _ (List.getElem_mem hi)
/-! ### Clashes -/
def ovB (s c f l s' c' f' l' : Nat) : Bool := decide (s = s' ∧ c = c') && decide (max f f' ≤ min l l')
def Us.ok (u : Us) : Bool := decide (u.f ≤ u.l)
def clB (a b : Us) : Bool := decide (a.key = b.key) && ovB a.s a.c a.f a.l b.s b.c b.f b.l
def stOf (u : Us) : List UInt8 × Nat × Nat := (u.key, u.s, u.c)
theorem clB_iff {a b : Us} : clB a b = true ↔ stOf a = stOf b ∧ max a.f b.f ≤ min a.l b.l := by
  simp only [clB, ovB, stOf, Bool.and_eq_true, decide_eq_true_eq, Prod.mk.injEq]
  constructor
  · rintro ⟨h1, ⟨h2, h3⟩, h4⟩; exact ⟨⟨h1, h2, h3⟩, h4⟩
  · rintro ⟨⟨h1, h2, h3⟩, h4⟩; exact ⟨h1, ⟨h2, h3⟩, h4⟩
/-- Use j clashes with one before it. -/
def cAt (us : List Us) (j : Nat) : Bool := (List.range j).any fun i => clB us[i]! us[j]!
theorem cAt_iff {us : List Us} {j : Nat} : cAt us j = true ↔ ∃ i, i < j ∧ clB us[i]! us[j]! = true := by simp [cAt]
/-- Among the uses up to j two clash. -/
def cUp (us : List Us) (j : Nat) : Bool := (List.range (j + 1)).any (cAt us)
theorem cUp_iff {us : List Us} {j : Nat} : cUp us j = true ↔ ∃ i k, i < k ∧ k ≤ j ∧ clB us[i]! us[k]! = true := by
  simp only [cUp, List.any_eq_true, List.mem_range, cAt_iff]
  constructor
  · rintro ⟨k, hk, i, hi, h⟩; exact ⟨i, k, hi, by omega, h⟩
  · rintro ⟨i, k, hi, hk, h⟩; exact ⟨k, by omega, i, hi, h⟩
/-! ### Lists of the uses of one key stream -/
/-- The walk through a list: those beyond j are passed over; does one clash with the last that was not? -/
def repG (us : List Us) (j : Nat) : Option Nat → List Nat → Bool
  | _, [] => false
  | b, i :: r => if j < i then repG us j b r else match b with
    | none => repG us j (some i) r
    | some k => if clB us[k]! us[i]! then true else repG us j (some i) r
def Sorted (us : List Us) (L : List Nat) : Prop := L.Pairwise fun a b => us[a]!.f ≤ us[b]!.f
theorem repG_sound (us : List Us) (j : Nat) : ∀ (L : List Nat) (b : Option Nat), repG us j b L = true → ∃ x y, (x ∈ L ∨ b = some x) ∧ y ∈ L ∧ y ≤ j ∧ clB us[x]! us[y]! = true ∧ (∀ k, b = some k → x = k ∨ (x ∈ L ∧ x ≤ j)) ∧ (b = none → x ≤ j) ∧ [x, y].Sublist (b.toList ++ L)
  | [], b, h => by simp [repG] at h
  | i :: r, b, h => by
    unfold repG at h
    split at h
    · obtain ⟨x, y, h1, h2, h3, h4, h5, h6, h7⟩ := repG_sound us j r b h
      refine ⟨x, y, h1.imp (fun h => List.mem_cons_of_mem _ h) id, List.mem_cons_of_mem _ h2, h3, h4, fun k hk => (h5 k hk).imp id fun h => ⟨List.mem_cons_of_mem _ h.1, h.2⟩, h6, ?_⟩
      exact h7.trans (List.Sublist.append (List.Sublist.refl _) (List.sublist_cons_self _ _))
    · rename_i hij
      cases b with
      | none =>
        obtain ⟨x, y, h1, h2, h3, h4, h5, h6, h7⟩ := repG_sound us j r (some i) h
        refine ⟨x, y, .inl ?_, List.mem_cons_of_mem _ h2, h3, h4, (fun k hk => by cases hk), fun _ => ?_, by simpa using h7⟩
        · rcases h5 i rfl with rfl | h; · simp
          · exact List.mem_cons_of_mem _ h.1
        · rcases h5 i rfl with rfl | h; · omega
          · exact h.2
      | some k =>
        simp only at h
        split at h
        · rename_i hc
          exact ⟨k, i, .inr rfl, by simp, by omega, hc, (fun k' hk => .inl (by injection hk)), (fun h => by cases h), by simp⟩
        · obtain ⟨x, y, h1, h2, h3, h4, h5, h6, h7⟩ := repG_sound us j r (some i) h
          refine ⟨x, y, .inl ?_, List.mem_cons_of_mem _ h2, h3, h4, fun k' _ => .inr ?_, fun h => (by cases h), ?_⟩
          · rcases h5 i rfl with rfl | h; · simp
            · exact List.mem_cons_of_mem _ h.1
          · rcases h5 i rfl with rfl | h
            · exact ⟨by simp, by omega⟩
            · exact ⟨List.mem_cons_of_mem _ h.1, h.2⟩
          · exact h7.trans (by simp)
theorem cl_step {a b c : Us} (h1 : clB a c = true) (h2 : stOf a = stOf b) (h3 : b.ok = true) (h4 : a.f ≤ b.f) (h5 : b.f ≤ c.f) : clB a b = true := by
  rw [clB_iff] at h1 ⊢
  have h3 : b.f ≤ b.l := by simpa [Us.ok] using h3
  exact ⟨h2, by omega⟩
theorem repG_full (us : List Us) (hv : ∀ u ∈ us, u.ok = true) (j : Nat) : ∀ (L : List Nat) (b : Option Nat), Sorted us (b.toList ++ L) → (∀ x ∈ b.toList ++ L, x < us.length) → (∀ x ∈ b.toList ++ L, ∀ y ∈ b.toList ++ L, stOf us[x]! = stOf us[y]!) →
    (∀ k, b = some k → k ≤ j) → ∀ x y, [x, y].Sublist (b.toList ++ L) → x ≤ j → y ≤ j → clB us[x]! us[y]! = true → repG us j b L = true
  | [], b, _, _, _, _, x, y, h, _, _, _ => by
    have := h.length_le
    cases b <;> simp at this
  | i :: r, b, hs, hl, hst, hb, x, y, h, hx, hy, hc => by
    unfold repG
    split
    · rename_i hij
      have drop : ∀ {z : Nat}, z ∈ b.toList ++ r → z ∈ b.toList ++ i :: r := fun hz => by
        rcases List.mem_append.1 hz with h | h
        · exact List.mem_append_left _ h
        · exact List.mem_append_right _ (List.mem_cons_of_mem _ h)
      refine repG_full us hv j r b (hs.sublist (List.Sublist.append (List.Sublist.refl _) (List.sublist_cons_self _ _))) (fun z hz => hl z (drop hz)) (fun z hz z' hz' => hst z (drop hz) z' (drop hz')) hb x y ?_ hx hy hc
      cases b with
      | none =>
        simp only [Option.toList_none, List.nil_append] at h ⊢
        cases h with
        | cons _ h => exact h
        | cons_cons _ h => omega
      | some k =>
        simp only [Option.toList_some, List.singleton_append] at h ⊢
        cases h with
        | cons _ h =>
          cases h with
          | cons _ h => exact h.cons _
          | cons_cons _ h => omega
        | cons_cons _ h =>
          cases h with
          | cons _ h => exact h.cons_cons _
          | cons_cons _ h => omega
    · rename_i hij
      cases b with
      | none => exact repG_full us hv j r (some i) (by simpa using hs) (by simpa using hl) (by simpa using hst) (fun k hk => by injection hk with hk; omega) x y (by simpa using h) hx hy hc
      | some k =>
        simp only
        split
        · rfl
        · rename_i hki
          simp only [Option.toList_some, List.singleton_append] at hs hl hst h
          refine repG_full us hv j r (some i) (List.pairwise_cons.1 hs).2 (fun z hz => hl z (List.mem_cons_of_mem _ hz)) (fun z hz z' hz' => hst z (List.mem_cons_of_mem _ hz) z' (List.mem_cons_of_mem _ hz')) (fun k hk => by injection hk with hk; omega) x y ?_ hx hy hc
          simp only [Option.toList_some, List.singleton_append]
          cases h with
          | cons _ h => exact h
          | cons_cons _ h =>
            exfalso
            have hyi : y = i ∨ y ∈ r := List.mem_cons.1 (List.singleton_sublist.1 h)
            rcases hyi with rfl | hyr
            · exact hki hc
            · apply hki
              have hs' := List.pairwise_cons.1 hs
              have hil : i < us.length := hl i (by simp)
              refine cl_step hc (hst x List.mem_cons_self i (List.mem_cons_of_mem _ List.mem_cons_self)) ?_ (hs'.1 i (by simp)) ((List.pairwise_cons.1 hs'.2).1 y hyr)
              rw [getElem!_pos us i hil]; exact hv _ (List.getElem_mem hil)
/-- Lists of indices, each of uses of one key stream by their first counters, in which any two uses of one stream stand together. -/
structure Lists (us : List Us) (Ls : List (List Nat)) : Prop where
  sorted : ∀ L ∈ Ls, Sorted us L
  lt : ∀ L ∈ Ls, ∀ x ∈ L, x < us.length
  nodup : ∀ L ∈ Ls, L.Nodup
  one : ∀ L ∈ Ls, ∀ x ∈ L, ∀ y ∈ L, stOf us[x]! = stOf us[y]!
  all : ∀ x y, x < y → y < us.length → stOf us[x]! = stOf us[y]! → ∃ L ∈ Ls, x ∈ L ∧ y ∈ L
theorem pair_sublist {α : Type} : ∀ {L : List α} {x y : α}, x ∈ L → y ∈ L → x ≠ y → [x, y].Sublist L ∨ [y, x].Sublist L
  | a :: L, x, y, hx, hy, h => by
    rcases List.mem_cons.1 hx with hxa | hx1
    · rcases List.mem_cons.1 hy with hya | hy1
      · exact absurd (hxa.trans hya.symm) h
      · rw [hxa]; exact .inl (List.cons_sublist_cons.2 (List.singleton_sublist.2 hy1))
    · rcases List.mem_cons.1 hy with hya | hy1
      · rw [hya]; exact .inr (List.cons_sublist_cons.2 (List.singleton_sublist.2 hx1))
      · exact (pair_sublist hx1 hy1 h).imp (·.cons _) (·.cons _)
theorem clB_comm (a b : Us) : clB a b = clB b a := by
  rw [Bool.eq_iff_iff, clB_iff, clB_iff]
  constructor <;> rintro ⟨h, k⟩ <;> exact ⟨h.symm, by omega⟩
theorem Lists.any {us : List Us} {Ls : List (List Nat)} (h : Lists us Ls) (hv : ∀ u ∈ us, u.ok = true) (j : Nat) (hj : j < us.length) : (Ls.any fun L => repG us j none L) = cUp us j := by
  rw [Bool.eq_iff_iff, List.any_eq_true, cUp_iff]
  constructor
  · rintro ⟨L, hL, hr⟩
    obtain ⟨x, y, h1, h2, h3, h4, h5, h6, h7⟩ := repG_sound us j L none hr
    have hxy : x ≠ y := fun he => by
      subst he
      have := (h.nodup L hL).sublist (by simpa using h7)
      simp at this
    rcases Nat.lt_or_gt_of_ne hxy with hl | hl
    · exact ⟨x, y, hl, h3, h4⟩
    · exact ⟨y, x, hl, h6 rfl, by rw [clB_comm]; exact h4⟩
  · rintro ⟨i, k, hik, hkj, hc⟩
    obtain ⟨L, hL, hi, hk⟩ := h.all i k hik (by omega) (clB_iff.1 hc).1
    refine ⟨L, hL, ?_⟩
    rcases pair_sublist hi hk (by omega) with hs | hs
    · exact repG_full us hv j L none (by simpa using h.sorted L hL) (by simpa using h.lt L hL) (by simpa using h.one L hL) (fun k hk => by cases hk) i k (by simpa using hs) (by omega) hkj hc
    · exact repG_full us hv j L none (by simpa using h.sorted L hL) (by simpa using h.lt L hL) (by simpa using h.one L hL) (fun k hk => by cases hk) k i (by simpa using hs) hkj (by omega) (by rw [clB_comm]; exact hc)
end Go.Proofs.Ytggijkmlmklneaa
namespace Go.Proofs.Ytggijkmlmklneaa
open Go Go.RowKit
set_option linter.unusedVariables false
set_option linter.unusedSimpArgs false
variable {κ : Cx}
/-- The cells xs stand at A, in a block from lo on that holds cells of type e. -/
def RowX (lo : Nat) (e : TypeId) (B : Nat) (w : World) (A : Option Addr) (xs : List Value) : Prop :=
  ∀ (j : Nat) (u : Value), xs[j]? = some u → ∃ ad, A = some ad ∧ lo ≤ ad.block ∧ ad.block < B ∧ (∃ cur fr, w.heap[ad.block]? = some (.cells cur e fr)) ∧ w.cell? (ad.add j) = some u
theorem RowX.row {lo : Nat} {e : TypeId} {B : Nat} {w : World} {A : Option Addr} {xs : List Value} (h : RowX lo e B w A xs) : RowIn B w A xs := fun j u hu => by
  obtain ⟨ad, h1, _, h3, _, h5⟩ := h j u hu
  exact ⟨ad, h1, h3, h5⟩
theorem cell_block {w w' : World} {a : Addr} (h : w'.heap[a.block]? = w.heap[a.block]?) : w'.cell? a = w.cell? a := by unfold World.cell?; rw [h]
theorem RowX.other {lo : Nat} {e : TypeId} {B B' : Nat} {w w' : World} {A : Option Addr} {xs : List Value} (h : RowX lo e B w A xs) (hB : B ≤ B') (hk : ∀ b cur fr, lo ≤ b → b < B → w.heap[b]? = some (.cells cur e fr) → w'.heap[b]? = w.heap[b]?) : RowX lo e B' w' A xs := fun j u hu => by
  obtain ⟨ad, h1, h2, h3, ⟨cur, fr, h4⟩, h5⟩ := h j u hu
  have h6 := hk ad.block cur fr h2 h3 h4
  refine ⟨ad, h1, h2, by omega, ⟨cur, fr, by rw [h6]; exact h4⟩, ?_⟩
  have h7 : w'.cell? (ad.add j) = w.cell? (ad.add j) := cell_block (by rw [block_of_add]; exact h6)
  rw [h7]; exact h5
def natR (L : List Nat) : List Value := L.map fun x : Nat => Value.int .i64 (x : Int)
/-- The lists Ls stand in the slices vs, and these at A. -/
def ListsF (lo : Nat) (eL eI : TypeId) (A : Option Addr) (vs : List Value) (Ls : List (List Nat)) (B : Nat) (w : World) : Prop :=
  RowX lo eL B w A vs ∧ ∀ (k : Nat) (v : Value) (L : List Nat), vs[k]? = some v → Ls[k]? = some L → ∃ A' q, v = .slice A' L.length q ∧ RowX lo eI B w A' (natR L)
theorem ListsF.other {lo : Nat} {eL eI : TypeId} {A : Option Addr} {vs : List Value} {Ls : List (List Nat)} {B B' : Nat} {w w' : World} (h : ListsF lo eL eI A vs Ls B w) (hB : B ≤ B') (hk : ∀ b cur e fr, lo ≤ b → b < B → (e = eL ∨ e = eI) → w.heap[b]? = some (.cells cur e fr) → w'.heap[b]? = w.heap[b]?) : ListsF lo eL eI A vs Ls B' w' :=
  ⟨h.1.other hB fun b cur fr h1 h2 h3 => hk b cur _ fr h1 h2 (.inl rfl) h3, fun k v L hv hL => by
    obtain ⟨A', q, h1, h2⟩ := h.2 k v L hv hL
    exact ⟨A', q, h1, h2.other hB fun b cur fr h1 h2 h3 => hk b cur _ fr h1 h2 (.inr rfl) h3⟩⟩
def listsM (lo : Nat) (eL eI : TypeId) (A : Option Addr) (vs : List Value) (Ls : List (List Nat)) : D :=
  .p (fun B w _ => ListsF lo eL eI A vs Ls B w) (fun B w w' _ g h => h.other (Nat.le_refl _) fun b _ _ _ _ hb _ _ => g.block b hb) (fun B B' w _ g h => h.other g fun _ _ _ _ _ _ _ _ => rfl)
theorem Surv.lists {B T g lo : Nat} {eL eI : TypeId} {A : Option Addr} {vs : List Value} {Ls : List (List Nat)} (h : g < lo ∨ (eL ≠ T ∧ eI ≠ T)) : Surv B T g (listsM lo eL eI A vs Ls) := fun w w' x k hl =>
  ListsF.other hl k.size fun b cur e fr h1 h2 he hh => k.other b h2 fun hbg => by
    subst hbg
    rcases h with h | ⟨h3, h4⟩
    · omega
    · have := k.row _ _ _ hh
      rcases he with rfl | rfl
      · exact h3 this
      · exact h4 this
section
variable {P : Program} {n : Nat} {E : Env} {w₀ : World} {c : Code} {Q : Exit → Act → World → Prop}
end
/-! ### Results whose parts get names -/
theorem RunTK.newG {P : Program} {n B : Nat} {ops : Array Oper} {draw : Bool} {C : Env → Prop} {o : Oper} {E : Env} {s : Nat} (p : Nat) (hsp : s ≤ p) (ho : ops[p]? = some o) (hb : draw = false ∨ barrier ops p = true)
    (h : RunK P B ops ((ops.toList.drop s).take (p - s)) E (fun E₁ => ∃ (ι : Type) (G : ι → Prop) (E₂ : ι → Env), EffG P n B ops o E₁ G E₂ ∧ ∀ i, G i → RunTK P n B ops draw C (p + 1) (E₂ i))) : RunTK P n B ops draw C s E := by
  obtain ⟨E₁, h1, ι, G, E₂, h2, h3⟩ := h
  exact .effG hsp ho hb h1 h2 h3
section
variable {P : Program} {B : Nat} {E : Env}
end
section
variable {P : Program} {n : Nat} {w₀ : World} {E : Env}
end
end Go.Proofs.Ytggijkmlmklneaa
namespace Go.Proofs.Ytggijkmlmklneaa
open Go Go.RowKit
variable {κ : Cx}
/-- The greatest of them. -/
def mx (cs : List Nat) : Nat := cs.foldl max 0
def nonceL (s c : Nat) : List UInt8 := be 4 s ++ be 8 c
section
variable {P : Program} {B : Nat} {E : Env} {dst : Option Tmp} {ty : TypeId} {pos : String} {after : Array Edge} {guard : Option (Nat × Bool)}
theorem ok_capV {t e : TypeId} {x : Operand} {A : Option Addr} {n c : Nat} (ht : P.underlying t = some (.slice e)) (hx : E.at x = some (.v (.slice A n c))) :
    OpOk P B ⟨dst, .call { callee := .builtin .cap, args := #[x], argTypes := #[t] }, ty, pos, after, guard⟩ E (.v (.int .i64 (c : Int))) := fun ρ w _ _ hρ => by
  have h1 : ρ x = .slice A n c := hρ x (by simp [Op.operands, Call.operands]) _ hx
  exact out_val (w' := w) (by simp [execOp, resolve, invoke, builtin, Builtin.cap_, run_underlying ht, h1, goInt]) ⟨Grow.refl w, rfl⟩
/-- A literal of some fields. -/
def LitS (E : Env) : List (Nat × Value) → List (Nat × Operand) → Prop
  | [], [] => True
  | (i, u) :: us, (j, x) :: ps => i = j ∧ E.at x = some (.v u) ∧ LitS E us ps
  | _, _ => False
theorem LitS.map {ρ : Operand → Value} : ∀ {us : List (Nat × Value)} {ps : List (Nat × Operand)}, LitS E us ps → (∀ x, x ∈ ps.map (·.2) → ∀ v, E.at x = some (.v v) → ρ x = v) → ps.map (fun p => (p.1, ρ p.2)) = us
  | [], [], _, _ => rfl
  | [], _ :: _, h, _ => h.elim
  | _ :: _, [], h, _ => h.elim
  | (i, u) :: us, (j, x) :: ps, ⟨h1, h2, h3⟩, hρ => by
    subst h1
    simp only [List.map_cons, hρ x (by simp) u h2]
    rw [LitS.map h3 fun y hy v hv => hρ y (by simp only [List.map_cons, List.mem_cons]; exact .inr hy) v hv]
theorem ok_litS {t : TypeId} {ps : Array (Nat × Operand)} (us : List (Nat × Value)) (ys : List Value) (hl : LitS E us ps.toList) (hb : P.built t us = some ys.toArray) : OpOk P B ⟨dst, .build t ps, ty, pos, after, guard⟩ E (.v (aggV ys)) :=
  ok_lit us ys (fun _ hρ => hl.map hρ) hb
end
section
variable {P : Program} {n B : Nat} {ops : Array Oper} {E : Env} {ty : TypeId} {pos : String} {after : Array Edge}
end
end Go.Proofs.Ytggijkmlmklneaa
namespace Go.Proofs.Ytggijkmlmklneaa
open Go Go.RowKit
set_option linter.unusedVariables false
set_option linter.unusedSimpArgs false
variable {κ : Cx}
/-! ### Drawn regions with guards whose changes of memory are no barriers -/
section
variable {P : Program} {B : Nat} {ops : Array Oper} {E : Env} {C : Env → Prop} {o : Oper} {rest : List Oper} {t : Nat} {d : D} {ms : List Mk}
theorem RunX.guarded {st : Bool} {kl : Option Nat} {j : Nat} {want : Bool} {s : Nat} (ht : o.dst = some t) (hg : o.guard = some (j, want)) (hj : ((ops[j]?).bind (·.dst)) = some s) (hE : E.look s = some (.v (.bool want))) (h : OpOk P B o E d) (hs : st = true → Stays B d) (hr : RunX P B ops rest ((t, d) :: E) ms C) : RunX P B ops (o :: rest) E (⟨false, st, kl⟩ :: ms) C := by
  obtain ⟨ds, E', h1, h2⟩ := hr
  exact ⟨_, E', .cons ht (.inl ⟨by simp only [GuardIs, hg]; exact ⟨s, hj, .inl ⟨want, hE, by cases want <;> rfl⟩⟩, h.x⟩) hs h1, h2⟩
theorem RunX.skipped {kl : Option Nat} {j : Nat} {want c : Bool} {s : Nat} (ht : o.dst = some t) (hg : o.guard = some (j, want)) (hj : ((ops[j]?).bind (·.dst)) = some s) (hE : E.look s = some (.v (.bool c))) (hc : (c == want) = false) (hr : RunX P B ops rest ((t, .v undef) :: E) ms C) : RunX P B ops (o :: rest) E (⟨false, true, kl⟩ :: ms) C := by
  obtain ⟨ds, E', h1, h2⟩ := hr
  exact ⟨_, E', .cons ht (.inr ⟨by simp only [GuardIs, hg]; exact ⟨s, hj, .inl ⟨c, hE, hc.symm⟩⟩, rfl⟩) (fun _ => Stays.v _ _) h1, h2⟩
theorem RunX.skippedU {kl : Option Nat} {j : Nat} {want : Bool} {s : Nat} (ht : o.dst = some t) (hg : o.guard = some (j, want)) (hj : ((ops[j]?).bind (·.dst)) = some s) (hE : E.look s = some (.v undef)) (hr : RunX P B ops rest ((t, .v undef) :: E) ms C) : RunX P B ops (o :: rest) E (⟨false, true, kl⟩ :: ms) C := by
  obtain ⟨ds, E', h1, h2⟩ := hr
  exact ⟨_, E', .cons ht (.inr ⟨by simp only [GuardIs, hg]; first | exact ⟨s, hj, .inr ⟨hE, trivial⟩⟩ | exact ⟨s, hj, .inr ⟨hE, rfl⟩⟩, rfl⟩) (fun _ => Stays.v _ _) h1, h2⟩
end
/-! ### Rows of structs that are appended to -/
section
variable {P : Program} {B : Nat} {E : Env} {dst : Option Tmp} {ty : TypeId} {pos : String} {after : Array Edge} {guard : Option (Nat × Bool)}
theorem lt_of_row {w : World} {base sz n : Nat} {e : TypeId} {v : Value} {xs : List Value} (h : w.ownsRow base e sz v n xs) : ∀ g, v.ownBlock = some g → g < w.heap.size := fun g hg => by
  rcases h.2 with ⟨hv, _⟩ | ⟨g', cap, cur, hv, _, hh, _⟩
  · rw [hv] at hg; simp [Value.ownBlock] at hg
  · rw [hv] at hg; simp [Value.ownBlock] at hg; subst hg
    rcases Nat.lt_or_ge g' w.heap.size with h | h
    · exact h
    · rw [Array.getElem?_eq_none h] at hh; cases hh
theorem append_ownP {t e : TypeId} {z : Value} {sz nb k m : Nat} {v x : Value} {xs ys : List Value} {w : World} {A : Option Addr} {c : Nat} (ht : P.underlying t = some (.slice e)) (hinfo : InfoP P e z sz nb) (hsz : 0 < sz) (hnb : nb ≤ 64) (hz1 : z.cells.size = sz)
    (hown : w.ownsRow B e sz v k xs) (hxe : x = .slice A m c) (hrow : RowIn w.heap.size w A ys) (h1 : ys.all (·.oneCell') = true) (hl : ys.length = m * sz) (hk : k + m ≤ 1099511627776) (hB : B ≤ w.heap.size) :
    ∃ v' w', (Builtin.append_ #[t, t] ty #[v, x]).run P w = .ok v' w' ∧ w'.ownsRow B e sz v' (k + m) (xs ++ ys) ∧ Below B w w' := by
  obtain ⟨i, hi, hz, hs, hby⟩ := hinfo.get
  subst hxe
  have hbase : ∀ g, v.ownBlock = some g → B ≤ g := fun g hg => by
    rcases hown.2 with ⟨hv, _⟩ | ⟨g', cap, cur, hv, hb, _⟩
    · rw [hv] at hg; simp [Value.ownBlock] at hg
    · rw [hv] at hg; simp [Value.ownBlock] at hg; omega
  cases A with
  | none =>
    have hy : ys = [] := by
      cases ys with
      | nil => rfl
      | cons y ys => obtain ⟨_, h0, _⟩ := hrow 0 y rfl; cases h0
    subst hy
    have h0 : m = 0 := by
      have : m * sz = 0 := by simpa using hl.symm
      rcases Nat.mul_eq_zero.1 this with h | h
      · exact h
      · omega
    subst h0
    refine ⟨v, w, ?_, by simpa using hown, Below.refl _ _⟩
    rcases hown.2 with ⟨hv, hn0⟩ | ⟨g, cap, cur, hv, _, _, hnc, _⟩
    · rw [hv]; simp [Builtin.append_, run_underlying ht, sizeOf, typeInfo, hi, Builtin.lenOf, Builtin.firstCells]
    · rw [hv]; simp [Builtin.append_, run_underlying ht, sizeOf, typeInfo, hi, Builtin.lenOf, Builtin.firstCells, hnc, storeCells]
  | some ad =>
    have hbb : (k + m) * i.bytes ≤ (k + m) * 64 := Nat.mul_le_mul_left _ (by omega)
    obtain ⟨v', w', h2, h3, h4, _, _⟩ := run_append_own_at (P := P) w B t ty e i z sz i.bytes ht hi hz hs rfl hz1 hsz v k xs hown ad m c ys hl (fun j u hu => by obtain ⟨ad', h5, _, h6⟩ := hrow j u hu; injection h5 with h5; subst h5; exact h6) (fun u hu => List.all_eq_true.1 h1 u hu) (by simp only [maxLen]; omega) (by omega) hB
    exact ⟨v', w', h2, h3, (Below.refl B w).grown h4 hB hbase⟩
end
/-! ### Slices without spare capacity -/
section
variable {P : Program} {n : Nat} {E : Env} {w₀ : World} {c : Code} {Q : Exit → Act → World → Prop}
/-- What is known at a later point holds of what was there at that point. -/
def UpTo (w : World) (E' E : Env) : Prop := ∀ p ∈ E', ∃ d, E.look p.1 = some d ∧ (p.2 = d ∨ p.2 = old w.heap.size d ∨ ∃ B₀ d₀, d = old B₀ d₀ ∧ p.2 = old w.heap.size d₀)
theorem UpTo.nil {w : World} {E : Env} : UpTo w [] E := fun _ h => by cases h
theorem UpTo.same {w : World} {E E' : Env} {t : Nat} {d : D} (h : E.look t = some d) (hr : UpTo w E' E) : UpTo w ((t, d) :: E') E := fun p hp => by
  rcases List.mem_cons.1 hp with rfl | hp
  · exact ⟨d, h, .inl rfl⟩
  · exact hr p hp
theorem UpTo.new {w : World} {E E' : Env} {t : Nat} {d : D} (h : E.look t = some d) (hr : UpTo w E' E) : UpTo w ((t, old w.heap.size d) :: E') E := fun p hp => by
  rcases List.mem_cons.1 hp with rfl | hp
  · exact ⟨d, h, .inr (.inl rfl)⟩
  · exact hr p hp
theorem UpTo.old {w : World} {E E' : Env} {t B₀ : Nat} {d : D} (h : E.look t = some (Go.Proofs.Ytggijkmlmklneaa.old B₀ d)) (hr : UpTo w E' E) : UpTo w ((t, Go.Proofs.Ytggijkmlmklneaa.old w.heap.size d) :: E') E := fun p hp => by
  rcases List.mem_cons.1 hp with rfl | hp
  · exact ⟨_, h, .inr (.inr ⟨B₀, d, rfl, rfl⟩)⟩
  · exact hr p hp
/-- The rest of a function, at a base of its own: whatever is there by then is old. -/
theorem A.raise (E' : World → Env) (hE : ∀ w, UpTo w (E' w) E) (h : ∀ w₁, Grow w₀ w₁ → A κ P w₁ n c (E' w₁) Q) : A κ P w₀ n c E Q := fun a w g hs => by
  refine h w g a w (Below.refl _ _) ⟨Nat.le_refl _, hs.defers, hs.size, fun t d hd => ?_⟩
  obtain ⟨d', hd', h1⟩ := hE w _ (look_mem hd)
  have h2 := hs.of t d' hd'
  rcases h1 with h1 | h1 | ⟨B₀, d₀, h1, h3⟩
  · simp only at h1; rw [h1]; exact h2
  · simp only at h1; rw [h1]; exact ⟨Nat.le_refl _, h2⟩
  · subst h1; simp only at h3; rw [h3]; exact ⟨Nat.le_refl _, D.OfB.up h2.2 h2.1⟩
end
section
variable {P : Program} {B : Nat} {E : Env}
end
section
variable {P : Program} {B : Nat} {E : Env}
variable {dst : Option Tmp} {ty : TypeId} {pos : String} {after : Array Edge} {guard : Option (Nat × Bool)}
/-- An element of a slice of which its cells are known. -/
theorem ok_indexRD {t e : TypeId} {z : Value} {sz nb : Nat} {x i : Operand} {k : Nat} {f : D} {xs : List Value} {ki : IntKind} (m : Nat) (ht : P.underlying t = some (.slice e)) (hs : InfoP P e z sz nb) (hx : E.at x = some f) (hf : Le f (rowD k xs))
    (hi : E.at i = some (.v (.int ki (m : Int)))) (hm : m < k) (hlt : m * sz < xs.length) :
    OpOk P B ⟨dst, .indexAddr t x i, ty, pos, after, guard⟩ E (elemP ((xs.drop (m * sz)).take sz)) := fun ρ w _ hv hρ => by
  obtain ⟨A, q, h1, hrow⟩ := hf.of (hρ x (by simp [Op.operands]) _ hx)
  have hi' : ρ i = .int ki m := hρ i (by simp [Op.operands]) _ hi
  obtain ⟨info, hinfo, _, hsize, _⟩ := hs.get
  obtain ⟨ad, hA, hab, _⟩ := hrow (m * sz) _ (List.getElem?_eq_getElem hlt)
  subst hA
  refine out_val (x := .pointer (some (ad.add (m * sz)))) (w' := w) ?_ ⟨Grow.refl w, _, rfl, by rw [block_of_add]; omega, fun j u hu => ?_⟩
  · simp [execOp, h1, hi', Instr.indexAt, asIntOf, run_underlying ht, sizeOf, typeInfo, hinfo, hsize, hm]
  · rw [List.getElem?_take] at hu
    split at hu
    · rw [List.getElem?_drop] at hu
      obtain ⟨ad', hA', _, h4⟩ := hrow (m * sz + j) u hu
      injection hA' with hA'; subst hA'
      rw [add_of_add]; exact h4
    · cases hu
theorem ok_lenRD {t e : TypeId} {x : Operand} {f : D} {k : Nat} {xs : List Value} (ht : P.underlying t = some (.slice e)) (hx : E.at x = some f) (hf : Le f (rowD k xs)) :
    OpOk P B ⟨dst, .call { callee := .builtin .len, args := #[x], argTypes := #[t] }, ty, pos, after, guard⟩ E (.v (.int .i64 (k : Int))) := fun ρ w _ _ hρ => by
  obtain ⟨A, q, h1, _⟩ := hf.of (hρ x (by simp [Op.operands, Call.operands]) _ hx)
  exact out_val (w' := w) (by simp [execOp, resolve, invoke, builtin, Builtin.len_, run_underlying ht, h1, goInt]) ⟨Grow.refl w, rfl⟩
end
/-! ### A new ledger in a new variable, in a drawn region -/
theorem Surv.newD {B T g base : Nat} {e : TypeId} {val : Nat → Value} {xs : List Value} (h : e ≠ T) : Surv B T g (Go.Proofs.Ytggijkmlmklneaa.newD base e val xs) := fun w w' x k ⟨b, h1, h2, h3, h4⟩ => by
  refine ⟨b, h1, h2, Nat.lt_of_lt_of_le h3 k.size, ?_⟩
  by_cases hb : b = g
  · subst hb; exact absurd (k.row _ _ _ h4) h
  · exact (k.other b h3 hb).trans h4
section
variable {P : Program} {n B : Nat} {ops : Array Oper} {E : Env} {dst : Option Tmp} {ty : TypeId} {pos : String} {after : Array Edge} {guard : Option (Nat × Bool)}
end
end Go.Proofs.Ytggijkmlmklneaa
namespace Go.Proofs.Ytggijkmlmklneaa
open Go Go.RowKit
variable {κ : Cx}
def subs : List Nat → List (List Nat)
  | [] => [[]]
  | x :: r => subs r ++ (subs r).map (x :: ·)
theorem filter_subs (f : Nat → Bool) : ∀ l : List Nat, l.filter f ∈ subs l
  | [] => by simp [subs]
  | x :: r => by
    have ih := filter_subs f r
    rw [List.filter_cons, subs, List.mem_append]
    split
    · exact .inr (List.mem_map.2 ⟨_, ih, rfl⟩)
    · exact .inl ih
def keeps (ops : Array Oper) (S : List Nat) (t : Nat) : Bool := !(S.any fun i => ((ops[i]?).bind (·.dst)) == some t)
/-- What is known without the operations S. -/
def without (ops : Array Oper) (S : List Nat) (E : Env) : Env := E.filter fun q => keeps ops S q.1
theorem without_look {ops : Array Oper} {S : List Nat} {t : Nat} {d : D} : ∀ {E : Env}, (without ops S E).look t = some d → E.look t = some d ∧ keeps ops S t = true
  | [], h => by simp [without, Env.look] at h
  | (s, e) :: E, h => by
    unfold without at h
    rw [List.filter_cons] at h
    by_cases hst : s = t
    · subst hst
      by_cases hk : keeps ops S s = true
      · rw [if_pos hk] at h
        rw [look_here] at h ⊢
        exact ⟨h, hk⟩
      · rw [if_neg hk] at h
        exact absurd (without_look (E := E) h).2 hk
    · rw [look_past _ _ hst]
      split at h
      · rw [look_past _ _ hst] at h; exact without_look (E := E) h
      · exact without_look (E := E) h
theorem look_without {ops : Array Oper} {S : List Nat} {t : Nat} {d : D} (hk : keeps ops S t = true) : ∀ {E : Env}, E.look t = some d → (without ops S E).look t = some d
  | [], h => by simp [Env.look] at h
  | (s, e) :: E, h => by
    unfold without
    rw [List.filter_cons]
    by_cases hst : s = t
    · subst hst
      rw [if_pos hk]
      rw [look_here] at h ⊢
      exact h
    · rw [look_past _ _ hst] at h
      split
      · rw [look_past _ _ hst]; exact look_without hk h
      · exact look_without hk h
/-- The operations before p have come up but for S. -/
def listedS (ops : Array Oper) (p : Nat) (S : List Nat) : Array Bool := ((List.range ops.size).map fun i => decide (i < p) && !S.contains i).toArray
theorem listedS_get {ops : Array Oper} {p i : Nat} {S : List Nat} (h : i < ops.size) : (listedS ops p S)[i]? = some (decide (i < p) && !S.contains i) := by simp [listedS, h]
def lateOk (ops : Array Oper) (p : Nat) (late : List Nat) : Bool :=
  let b := (befores ops).map List.eraseDups
  decide (p < ops.size) && late.all (· < p) && (List.range ops.size).all fun i => decide (i < p) || ((List.range p).all fun j => late.contains j || (b.getD i []).contains j) && (i == p || (b.getD i []).contains p)
theorem AnyT.mono {P : Program} {n B : Nat} {ops : Array Oper} {C : Env → Prop} : ∀ {m k : Nat} {listed : Array Bool} {E : Env}, m ≤ k → AnyT P n B ops C m listed E → AnyT P n B ops C k listed E
  | 0, k, _, _, _, ⟨hr, hC⟩ => AnyT.last hr hC
  | m + 1, 0, _, _, h, _ => absurd h (by omega)
  | m + 1, k + 1, _, _, h, .inl h' => .inl h'
  | m + 1, k + 1, _, _, h, .inr ⟨hne, h'⟩ => .inr ⟨hne, fun i hi => by
    obtain ⟨o, ho, ι, G, E₂, he, hn⟩ := h' i hi
    exact ⟨o, ho, ι, G, E₂, he, fun j hj => AnyT.mono (by omega) (hn j hj)⟩⟩
section
variable {P : Program} {n B : Nat} {ops : Array Oper} {Q : Exit → Act → World → Prop}
theorem wp_segL {p : Nat} {late : List Nat} {E E' : Env} {ds : List D} {a₀ : Act} {w₀ : World} (htied : tied ops = true) (hfits : fits n ops = true) (hlate : lateOk ops p late = true) (ht : Trace P B ops (ops.toList.take p) E ds E') (h₀ : St κ n B E a₀ w₀)
    (hnext : ∀ S ∈ subs late, ∀ fuel a' w', unlisted ops (listedS ops p S) ≤ fuel + 1 → Grow w₀ w' → St κ n B (without ops S E') a' w' → wpOpIn (FR κ.rd) 0 P ops Q p (wpAnyIn (FR κ.rd) 0 P .any ops Q fuel ((listedS ops p S).setIfInBounds p true)) a' w') :
    ∀ (fuel : Nat) (listed : Array Bool) (a : Act) (w : World), unlisted ops listed ≤ fuel → Inv κ n B ops 0 p E ds a₀ w₀ listed a w → wpAnyIn (FR κ.rd) 0 P .any ops Q fuel listed a w := by
  have hb := hlate
  simp only [lateOk, Bool.and_eq_true, decide_eq_true_eq, List.all_eq_true, List.mem_range, Bool.or_eq_true, beq_iff_eq] at hb
  obtain ⟨⟨hp, hlp⟩, hb⟩ := hb
  have hidx : ∀ (i : Nat) (o : Oper), i < p → ops[i]? = some o → (ops.toList.take p)[i]? = some o := fun i o h2 h3 => by
    rw [List.getElem?_take, if_pos h2]; simpa using h3
  have hidx' : ∀ (j : Nat) (o : Oper), (ops.toList.take p)[j]? = some o → ops[j]? = some o ∧ j < p := fun j o h => by
    rw [List.getElem?_take] at h
    split at h
    · exact ⟨by simpa using h, by assumption⟩
    · cases h
  have hends : ∀ (listed : Array Bool) (a : Act) (w : World), Inv κ n B ops 0 p E ds a₀ w₀ listed a w → Region.ready .any ops listed = [] → False := by
    intro listed a w I hr
    have hall : ∀ i, i < ops.size → listed.getD i false = true := by
      intro i
      induction i using Nat.strongRecOn with
      | _ i ih =>
        intro hi
        rcases hb : listed.getD i false with _ | _
        · exfalso
          have : i ∈ Region.ready .any ops listed := by
            rw [mem_ready]
            refine ⟨?_, ops[i], Array.getElem?_eq_getElem hi, fun e he hbd => ih e.on (tied_edge htied (Array.getElem?_eq_getElem hi) he hbd) (Nat.lt_trans (tied_edge htied (Array.getElem?_eq_getElem hi) he hbd) hi)⟩
            have : i < listed.size := by rw [I.lsize]; exact hi
            simp [this] at hb ⊢
            exact hb
          rw [hr] at this
          cases this
        · rfl
    have h1 := hall p hp
    rw [I.high p (Nat.le_refl _)] at h1
    cases h1
  intro fuel
  induction fuel with
  | zero =>
    intro listed a w hc I
    have hr : Region.ready .any ops listed = [] := by
      rcases hr : Region.ready .any ops listed with _ | ⟨i, l⟩
      · rfl
      · exfalso
        have hi : i ∈ Region.ready .any ops listed := by rw [hr]; exact List.mem_cons_self
        obtain ⟨hu, o, ho, _⟩ := mem_ready.1 hi
        have hpos : 0 < unlisted ops listed := List.countP_pos_iff.2 ⟨i, List.mem_range.2 (Array.getElem?_eq_some_iff.1 ho).1, by simp only [hu]; rfl⟩
        omega
    exact (hends listed a w I hr).elim
  | succ fuel ih =>
    intro listed a w hc I
    refine ⟨fun hr => (hends listed a w I hr).elim, fun i hi => ?_⟩
    obtain ⟨hu, o, ho, hall⟩ := mem_ready.1 hi
    have hlt : i < ops.size := (Array.getElem?_eq_some_iff.1 ho).1
    have huf : listed.getD i false = false := by
      have : i < listed.size := by rw [I.lsize]; exact hlt
      simp [this] at hu ⊢
      exact hu
    have hready : ∀ o', ops[i]? = some o' → ∀ e ∈ o'.after, Region.binds .any e = true → listed.getD e.on false = true := fun o' ho' e he hb => by
      rw [ho] at ho'; injection ho' with ho'; subst ho'; exact hall e he hb
    rcases Nat.lt_or_ge i p with hip | hip
    case inr =>
      have hmem : ∀ k l, l ∈ (Array.map List.eraseDups (befores ops)).getD k [] → l ∈ (befores ops).getD k [] := fun k l h => by
        rw [Array.getD_eq_getD_getElem?, Array.getElem?_map] at h
        rw [Array.getD_eq_getD_getElem?]
        cases hk : (befores ops)[k]? with
        | none => rw [hk] at h; simp at h
        | some v => rw [hk] at h; simpa using h
      obtain ⟨hb1, hb2⟩ := (hb i hlt).resolve_left (by omega)
      have hi : i = p := by
        rcases hb2 with h | h
        · exact h
        · have h2 := I.befores htied i p hready (hmem i p (by simpa using h))
          rw [I.high p (Nat.le_refl _)] at h2
          cases h2
      subst hi
      have hlow : ∀ k, k < i → k ∉ late → listed.getD k false = true := fun k hk hnl => by
        have h1 := (hb1 k hk).resolve_left (by simpa using hnl)
        exact I.befores htied i k hready (hmem i k (by simpa using h1))
      have hS := filter_subs (fun j => !listed.getD j false) late
      have hlist : listed = listedS ops i (late.filter fun j => !listed.getD j false) := by
        apply Array.ext_getElem?
        intro k
        rcases Nat.lt_or_ge k ops.size with hk | hk
        · rw [listedS_get hk]
          have hk' : k < listed.size := by rw [I.lsize]; exact hk
          have hg : listed[k]? = some (listed.getD k false) := by simp [hk']
          rw [hg]
          congr 1
          rcases Nat.lt_or_ge k i with h | h
          · by_cases hkl : k ∈ late
            · cases hv : listed.getD k false with
              | true => rw [Array.getD_eq_getD_getElem?] at hv; simp [h, hkl, hv]
              | false => rw [Array.getD_eq_getD_getElem?] at hv; simp [h, hkl, hv]
            · rw [hlow k h hkl]; simp [h, hkl]
          · rw [I.high k h]; simp; omega
        · rw [Array.getElem?_eq_none (by rw [I.lsize]; exact hk), Array.getElem?_eq_none (by simp [listedS]; exact hk)]
      have hst : St κ n B (without ops (late.filter fun j => !listed.getD j false) E') a w := by
        refine ⟨I.base, I.defers, I.size, fun t e he => ?_⟩
        obtain ⟨he, hkeep⟩ := without_look he
        rcases ht.last t e he with ⟨j, o', hj, hd, hds⟩ | ⟨hno, hl⟩
        · obtain ⟨hj', hjp⟩ := hidx' j o' hj
          refine I.facts j o' t e (Nat.zero_le _) hj' ?_ hd (by rw [Nat.sub_zero]; exact hds)
          by_cases hjl : j ∈ late
          · cases hv : listed.getD j false with
            | true => rfl
            | false =>
              exfalso
              simp only [keeps, Bool.not_eq_true', List.any_eq_false, beq_iff_eq] at hkeep
              exact hkeep j (List.mem_filter.2 ⟨hjl, by simp [hv]⟩) (by rw [hj']; exact hd)
          · exact hlow j hjp hjl
        · rw [I.frame t fun j o' _ hj hl' => ?_]
          · exact (h₀.of t e hl).grow I.grow
          · rcases Nat.lt_or_ge j i with hjp | hjp
            · exact hno j o' (hidx j o' hjp hj)
            · rw [I.high j hjp] at hl'; cases hl'
      have := hnext _ hS fuel a w (by rw [← hlist]; exact hc) I.grow hst
      rw [← hlist] at this
      exact this
    obtain ⟨t, d, Ei, hdst, hds, hgood, henv⟩ := ht.nth (i := i) (o := o) (hidx i o hip ho)
    have hf := fits_mem hfits (o := o) (by simpa using Array.mem_of_getElem? ho)
    refine wpOpR_step ho fun K hK => good_wp I.base (fun t e hvt he => ?_) hdst hgood (fun r e hs he => ?_) (fun r hs => by rw [I.size]; exact hf.1 r hs) fun x w' g hx => hK _ _ (ih _ _ _ ?_ ?_)
    · have hnb := fits_base hfits
      rcases henv t e he with ⟨j, q, hji, hj, hpd, hpds⟩ | ⟨hno, hl⟩
      · obtain ⟨hj', _⟩ := hidx' j q hj
        have h9 : t < n := (fits_mem hfits (o := q) (by simpa using Array.mem_of_getElem? hj')).2 t hpd
        exact absurd (Nat.lt_of_lt_of_le h9 hnb) (Nat.not_lt.2 hvt)
      · have h1 := (h₀.virt hnb) t e hvt hl
        exact h1.grow I.grow
    · rcases henv r e he with ⟨j, q, hji, hj, hpd, hpds⟩ | ⟨hno, hl⟩
      · obtain ⟨hj', hjp⟩ := hidx' j q hj
        obtain ⟨ed, he1, hb, hon⟩ := ((tied_pair htied ho hj' hpd (by omega)).2 hs).1 (by omega)
        refine I.facts j q r e (Nat.zero_le _) hj' ?_ hpd (by rw [Nat.sub_zero]; exact hpds)
        rw [← hon]
        exact hall ed he1 hb
      · rw [I.frame r]
        · exact (h₀.of r e hl).grow I.grow
        · intro j q hsj hj hlist hpd
          by_cases hji : j = i
          · subst hji; rw [huf] at hlist; cases hlist
          · rcases Nat.lt_or_ge j i with h | h
            · exact hno j q h (hidx j q (by omega) hj) hpd
            · obtain ⟨ed, he1, hb, hon⟩ := ((tied_pair htied ho hj hpd hji).2 hs).2 (by omega)
              have := I.closed j q hj hlist ed he1 hb
              rw [hon, huf] at this
              cases this
    · have : unlisted ops (listed.setIfInBounds i true) < unlisted ops listed := by
        refine countP_lt (x := i) (fun y hy => ?_) (List.mem_range.2 hlt) (by simp only [hu]; rfl) ?_
        · by_cases hyi : i = y
          · subst hyi
            have : i < listed.size := by rw [I.lsize]; exact hlt
            simp [this] at hy
          · rw [getD_set_ne true hyi] at hy; exact hy
        · have : i < listed.size := by rw [I.lsize]; exact hlt
          simp [this]
      omega
    · have hset : ∀ j, (listed.setIfInBounds i true).getD j false = true → j = i ∨ listed.getD j false = true := fun j hj => by
        by_cases hji : i = j
        · exact .inl hji.symm
        · rw [getD_set_ne false hji] at hj; exact .inr hj
      refine ⟨I.grow.trans g, Nat.le_trans I.base g.size, by simp [I.lsize], fun j hj hj' => by omega, fun j hj => ?_, I.defers, by simp [Act.put, I.size], ?_, ?_, ?_⟩
      · rw [getD_set_ne false (by omega)]; exact I.high j hj
      · intro j q hj hl e he hb
        rcases hset j hl with rfl | hl
        · rw [ho] at hj; injection hj with hj; subst hj
          exact getD_set_true (hall e he hb)
        · exact getD_set_true (I.closed j q hj hl e he hb)
      · intro j q r e hsj hj hl hpd hpds
        by_cases hji : j = i
        · subst hji
          rw [ho] at hj; injection hj with hj; subst hj
          rw [hdst] at hpd; injection hpd with hpd; subst hpd
          rw [Nat.sub_zero, hds] at hpds; injection hpds with hpds; subst hpds
          rw [getD_put_here _ _ (by rw [I.size]; exact hf.2 _ hdst)]
          exact hx
        · have hl' := (hset j hl).resolve_left hji
          have hne : t ≠ r := fun h => (tied_pair htied ho hj hpd hji).1 (by rw [hdst, h])
          rw [getD_put_past _ _ hne]
          exact (I.facts j q r e hsj hj hl' hpd hpds).grow g
      · intro r hs
        have hne : t ≠ r := fun h => hs i o (Nat.zero_le _) ho (by have : i < listed.size := by rw [I.lsize]; exact hlt
                                                                   simp [this]) (by rw [hdst, h])
        rw [getD_put_past _ _ hne]
        refine I.frame r fun j q hsj hj hl => hs j q hsj hj (getD_set_true hl)
/-- What is to be shown behind the operations before p, where S have not come up. -/
def LateT (P : Program) (n B : Nat) (ops : Array Oper) (C : Env → Prop) (p m : Nat) (S : List Nat) (E : Env) : Prop :=
  m + 1 ≤ unlisted ops (listedS ops p S) ∧ ∃ E₀, Sub E₀ E ∧ ((E₀.map (·.1)).all (keeps ops S)) = true ∧ ∃ o, ops[p]? = some o ∧ ∃ E₂, Eff P n B ops o E₀ E₂ ∧ AnyT P n B ops C m ((listedS ops p S).setIfInBounds p true) E₂
end
end Go.Proofs.Ytggijkmlmklneaa
namespace Go.Proofs.Ytggijkmlmklneaa
open Go Go.RowKit
set_option linter.unusedVariables false
set_option linter.unusedSimpArgs false
variable {κ : Cx}
/-! ### Disks as plain mathematics -/
abbrev Con := Option (List UInt8)
abbrev Dk := List (List Con)
def hisC (S : Dk) (i : Nat) : List Con := S.getD i []
def totC (S : Dk) : Nat := (S.map List.length).sum
def cV (c : Con) : List Value := [.bool c.isSome, .string ⟨(c.getD []).toArray⟩]
def rowC (h : List Con) : List Value := (none :: h.reverse).flatMap cV
theorem his_set {S : Dk} {i : Nat} (x : List Con) (h : i < S.length) : hisC (S.set i x) i = x := by simp [hisC, h]
theorem his_set_ne {S : Dk} {i j : Nat} (x : List Con) (h : i ≠ j) : hisC (S.set i x) j = hisC S j := by simp [hisC, List.getElem?_set_ne h]
/-! ### Facts that are carried -/
/-- What lies below B, is not excluded by X and is of a type that Q allows, lies so in the other world too, below B' and not excluded by X'. -/
def Carry (Q : TypeId → Prop) (X X' : Nat → Prop) (B B' : Nat) (w w' : World) : Prop := B ≤ B' ∧ ∀ b cs e fr, ¬ X b → b < B → Q e → w.heap[b]? = some (.cells cs e fr) → ¬ X' b ∧ w'.heap[b]? = w.heap[b]?
theorem Carry.keep {Q : TypeId → Prop} {X : Nat → Prop} {B : Nat} {w w' : World} (g : Below B w w') : Carry Q X X B B w w' := ⟨Nat.le_refl _, fun b _ _ _ hx hb _ _ => ⟨hx, g.block b hb⟩⟩
theorem Carry.up {Q : TypeId → Prop} {X : Nat → Prop} {B B' : Nat} {w : World} (g : B ≤ B') : Carry Q X X B B' w w := ⟨g, fun _ _ _ _ hx _ _ _ => ⟨hx, rfl⟩⟩
theorem Carry.wrote {Q : TypeId → Prop} {X : Nat → Prop} {B T g : Nat} {w w' : World} (k : Wrote B T g w w') (h : ¬ Q T ∨ X g) : Carry Q X X w.heap.size w'.heap.size w w' := ⟨k.size, fun b cs e fr hx hb hq hh => ⟨hx, k.other b hb fun hbg => by
    subst hbg
    rcases h with h | h
    · exact h (k.row _ _ _ hh ▸ hq)
    · exact hx h⟩⟩
/-- More may be excluded if it lies above. -/
theorem Carry.out {Q : TypeId → Prop} {X X' : Nat → Prop} {B B' : Nat} {w : World} (g : B ≤ B') (h : ∀ b, b < B → ¬ X' b) : Carry Q X X' B B' w w := ⟨g, fun b _ _ _ _ hb _ _ => ⟨h b hb, rfl⟩⟩
structure DTy where
  r : TypeId
  p : TypeId
  v : TypeId
  b : TypeId
def BlkX (X : Nat → Prop) (B : Nat) (w : World) (b : Nat) (e : TypeId) (cs : List Value) : Prop := ¬ X b ∧ b < B ∧ w.heap[b]? = some (.cells cs.toArray e (0, 0))
theorem BlkX.carry {Q : TypeId → Prop} {X X' : Nat → Prop} {B B' : Nat} {w w' : World} {b : Nat} {e : TypeId} {cs : List Value} (h : BlkX X B w b e cs) (k : Carry Q X X' B B' w w') (hq : Q e) : BlkX X' B' w' b e cs := by
  obtain ⟨h1, h2, h3⟩ := h
  obtain ⟨k1, k2⟩ := k.2 b _ _ _ h1 h2 hq h3
  exact ⟨k1, Nat.lt_of_lt_of_le h2 k.1, k2.trans h3⟩
theorem BlkX.cells {X X' : Nat → Prop} {B B' : Nat} {w : World} {b : Nat} {e e' : TypeId} {cs cs' : List Value} (h : BlkX X B w b e cs) (h' : w.heap[b]? = some (.cells cs'.toArray e' (0, 0))) : cs = cs' := by
  have := h.2.2.symm.trans h'
  injection this with this
  injection this with this
  simpa using this
section
variable (T : DTy) (X : Nat → Prop) (B : Nat) (w : World)
def ContAt (y : Value) : Con → Prop
  | none => y = .slice none 0 0
  | some l => l.length ≤ 256 ∧ ∃ b, y = .slice (some ⟨b, 0, none⟩) l.length l.length ∧ BlkX X B w b T.b (l.map byteV)
def VersAt : Value → List Con → Prop
  | x, [] => x = .pointer none
  | x, c :: h => ∃ b y z, x = .pointer (some ⟨b, 0, none⟩) ∧ BlkX X B w b T.v [.bool c.isSome, y, .int .i64 ((h.length + 1 : Nat) : Int), z] ∧ ContAt T X B w y c ∧ VersAt z h
def PartAt (x : Value) (f : Nat → List Con) : Prop := ∃ b cs, x = .pointer (some ⟨b, 0, none⟩) ∧ cs.length = 64 ∧ BlkX X B w b T.p cs ∧ ∀ j u, cs[j]? = some u → VersAt T X B w u (f j)
def PartsAt (p : Value) (S : Dk) : Prop := (S = [] ∧ p = .slice none 0 0) ∨ ∃ b ps, p = .slice (some ⟨b, 0, none⟩) ps.length ps.length ∧ ps.length = (S.length + 63) / 64 ∧ BlkX X B w b T.r ps ∧ ∀ k u, ps[k]? = some u → PartAt T X B w u (fun j => hisC S (64 * k + j))
end
section
variable {Q : TypeId → Prop} {T : DTy} {X X' : Nat → Prop} {B B' : Nat} {w w' : World}
theorem ContAt.carry {y : Value} {c : Con} (h : ContAt T X B w y c) (k : Carry Q X X' B B' w w') (hb : Q T.b) : ContAt T X' B' w' y c := by
  cases c with
  | none => exact h
  | some l => obtain ⟨h0, b, h1, h2⟩ := h; exact ⟨h0, b, h1, h2.carry k hb⟩
theorem VersAt.carry (k : Carry Q X X' B B' w w') (hv : Q T.v) (hb : Q T.b) : ∀ {x : Value} {h : List Con}, VersAt T X B w x h → VersAt T X' B' w' x h
  | _, [], h => h
  | _, _ :: _, ⟨b, y, z, h1, h2, h3, h4⟩ => ⟨b, y, z, h1, h2.carry k hv, h3.carry k hb, VersAt.carry k hv hb h4⟩
theorem PartAt.carry {x : Value} {f : Nat → List Con} (k : Carry Q X X' B B' w w') (hp : Q T.p) (hv : Q T.v) (hb : Q T.b) : PartAt T X B w x f → PartAt T X' B' w' x f := fun ⟨b, cs, h1, h2, h3, h4⟩ =>
  ⟨b, cs, h1, h2, h3.carry k hp, fun j u hu => (h4 j u hu).carry k hv hb⟩
theorem PartsAt.carry {p : Value} {S : Dk} (k : Carry Q X X' B B' w w') (hr : Q T.r) (hp : Q T.p) (hv : Q T.v) (hb : Q T.b) : PartsAt T X B w p S → PartsAt T X' B' w' p S
  | .inl h => .inl h
  | .inr ⟨b, ps, h1, h2, h3, h4⟩ => .inr ⟨b, ps, h1, h2, h3.carry k hr, fun j u hu => (h4 j u hu).carry k hp hv hb⟩
theorem ContAt.one {y : Value} {c : Con} (h : ContAt T X B w y c) : y.oneCell' = true := by
  cases c with
  | none => rw [show y = _ from h]; rfl
  | some l => obtain ⟨_, b, rfl, _⟩ := h; rfl
theorem VersAt.one {x : Value} {h : List Con} (hx : VersAt T X B w x h) : x.oneCell' = true := by
  cases h with
  | nil => rw [show x = _ from hx]; rfl
  | cons c h => obtain ⟨b, _, _, rfl, _⟩ := hx; rfl
theorem PartsAt.one {p : Value} {S : Dk} (h : PartsAt T X B w p S) : p.oneCell' = true := by
  rcases h with ⟨_, rfl⟩ | ⟨b, ps, rfl, _⟩ <;> rfl
/-- One sector is given a newer version. -/
theorem PartsAt.set {b bk b8 b9 i : Nat} {ps cs : List Value} {S : Dk} {x : Value} {h : List Con} (hP : PartsAt T X B w (.slice (some ⟨b, 0, none⟩) ps.length ps.length) S) (hB : B ≤ B') (hb : w.heap[b]? = some (.cells ps.toArray T.r (0, 0))) (hi : i < S.length)
    (hps : ps[i / 64]? = some (.pointer (some ⟨bk, 0, none⟩))) (hbk : w.heap[bk]? = some (.cells cs.toArray T.p (0, 0))) (h8 : BlkX X B' w b8 T.r (ps.set (i / 64) (.pointer (some ⟨b9, 0, none⟩)))) (h9 : BlkX X B' w b9 T.p (cs.set (i % 64) x)) (hx : VersAt T X B' w x h) :
    PartsAt T X B' w (.slice (some ⟨b8, 0, none⟩) ps.length ps.length) (S.set i h) := by
  have ku : Carry (fun _ => True) X X B B' w w := Carry.up hB
  rcases hP with ⟨rfl, _⟩ | ⟨b', ps', h1, h2, h3, h4⟩
  · cases hi
  injection h1 with h1 _ _
  injection h1 with h1
  injection h1 with h1 _ _
  subst h1
  obtain rfl : ps' = ps := h3.cells (X' := X) (B' := B) hb
  refine .inr ⟨b8, ps'.set (i / 64) (.pointer (some ⟨b9, 0, none⟩)), by simp, by simpa using h2, h8, fun k u hu => ?_⟩
  have hk : k < ps'.length := by have := (List.getElem?_eq_some_iff.1 hu).1; simpa using this
  by_cases hki : i / 64 = k
  · subst hki
    rw [List.getElem?_set_self hk] at hu
    injection hu with hu; subst hu
    obtain ⟨bk', cs', k1, k2, k3, k4⟩ := h4 _ _ hps
    injection k1 with k1; injection k1 with k1; injection k1 with k1 _ _
    subst k1
    obtain rfl : cs' = cs := k3.cells (X' := X) (B' := B) hbk
    refine ⟨b9, _, rfl, by simpa using k2, h9, fun j u hj => ?_⟩
    have hjl : j < 64 := by have := (List.getElem?_eq_some_iff.1 hj).1; simpa [k2] using this
    by_cases hji : i % 64 = j
    · subst hji
      rw [List.getElem?_set_self (by omega)] at hj
      injection hj with hj; subst hj
      show VersAt T X B' w x (hisC (S.set i h) (64 * (i / 64) + i % 64))
      rw [show 64 * (i / 64) + i % 64 = i from by omega, his_set _ hi]
      exact hx
    · rw [List.getElem?_set_ne hji] at hj
      show VersAt T X B' w u (hisC (S.set i h) (64 * (i / 64) + j))
      rw [his_set_ne _ (by omega)]
      exact (k4 j u hj).carry ku trivial trivial
  · rw [List.getElem?_set_ne hki] at hu
    obtain ⟨bk', cs', k1, k2, k3, k4⟩ := (h4 k u hu).carry ku trivial trivial trivial
    refine ⟨bk', cs', k1, k2, k3, fun j u hj => ?_⟩
    have hjl : j < 64 := by have := (List.getElem?_eq_some_iff.1 hj).1; omega
    show VersAt T X B' w u (hisC (S.set i h) (64 * k + j))
    rw [his_set_ne _ (by omega)]
    exact k4 j u hj
end
/-! The same as facts. -/
section
variable (T : DTy) (X : Nat → Prop)
def partsD' (S : Dk) : D := .p (fun B w p => (∀ b, X b → b < B) ∧ PartsAt T X B w p S) (fun _ _ _ _ g h => ⟨h.1, h.2.carry (Carry.keep (Q := fun _ => True) g) trivial trivial trivial trivial⟩) (fun _ _ _ _ g h => ⟨fun b hb => Nat.lt_of_lt_of_le (h.1 b hb) g, h.2.carry (Carry.up (Q := fun _ => True) g) trivial trivial trivial trivial⟩)
end
theorem Surv.parts {B e g : Nat} {T : DTy} {X : Nat → Prop} {S : Dk} (hq : (e ≠ T.r ∧ e ≠ T.p ∧ e ≠ T.v ∧ e ≠ T.b) ∨ X g) : Surv B e g (partsD' T X S) := fun w w' x k hx =>
  ⟨fun b hb => Nat.lt_of_lt_of_le (hx.1 b hb) k.size, PartsAt.carry (Q := fun a => a = T.r ∨ a = T.p ∨ a = T.v ∨ a = T.b) (Carry.wrote k (hq.imp (fun h => by rintro (h' | h' | h' | h'); exact h.1 h'; exact h.2.1 h'; exact h.2.2.1 h'; exact h.2.2.2 h') id)) (.inl rfl) (.inr (.inl rfl)) (.inr (.inr (.inl rfl))) (.inr (.inr (.inr rfl))) hx.2⟩
/-! ### Structs whose last field is told by a fact -/
def tlD (pre : List Value) (f : D) : D :=
  .p (fun B w x => ∃ v : Value, v.oneCell' = true ∧ x = aggV (pre ++ [v]) ∧ f.OfB B w v) (fun _ _ _ _ g ⟨v, h1, h2, h3⟩ => ⟨v, h1, h2, h3.keep g⟩) (fun _ _ _ _ g ⟨v, h1, h2, h3⟩ => ⟨v, h1, h2, h3.up g⟩)
theorem tl_le {f f' : D} {pre : List Value} (h : Le f f') : Le (tlD pre f) (tlD pre f') := fun _ _ _ ⟨v, h1, h2, h3⟩ => ⟨v, h1, h2, h _ _ _ h3⟩
theorem Surv.tl {B e g : Nat} {f : D} {pre : List Value} (h : Surv B e g f) : Surv B e g (tlD pre f) := fun w w' _ k ⟨v, h1, h2, h3⟩ => ⟨v, h1, h2, h w w' v k h3⟩
/-- Its values are structs of m cells. -/
def Agg (m : Nat) (d : D) : Prop := ∀ B w x, d.OfB B w x → ∃ cs : List Value, x = aggV cs ∧ cs.length = m ∧ cs.all (·.oneCell') = true
theorem Agg.tl {f : D} {pre : List Value} {m : Nat} (h1 : pre.all (·.oneCell') = true) (hm : pre.length + 1 = m) : Agg m (tlD pre f) := fun B w x ⟨v, hv, hx, _⟩ => ⟨_, hx, by simpa using hm, by rw [List.all_append, h1]; simp [hv]⟩
theorem Agg.old {d : D} {m B' : Nat} (h : Agg m d) : Agg m (Go.Proofs.Ytggijkmlmklneaa.old B' d) := fun B w x hx => h _ _ _ hx.2
def diskD (T : DTy) (X : Nat → Prop) (S : Dk) : D := tlD [nI S.length, nI (totC S)] (partsD' T X S)
theorem Agg.disk {T : DTy} {X : Nat → Prop} {S : Dk} : Agg 3 (diskD T X S) := Agg.tl rfl rfl
theorem Surv.disk {B e g : Nat} {T : DTy} {X : Nat → Prop} {S : Dk} (hq : (e ≠ T.r ∧ e ≠ T.p ∧ e ≠ T.v ∧ e ≠ T.b) ∨ X g) : Surv B e g (diskD T X S) := Surv.tl (Surv.parts hq)
section
variable {P : Program} {w₀ : World} {n : Nat} {c : Code} {E : Env} {Q : Exit → Act → World → Prop}
end
section
variable {P : Program} {B : Nat} {E : Env} {o : Oper}
end
/-! ### Addresses of structs of which a fact is known -/
def ptrK (m : Nat) (d : D) : D :=
  .p (fun B w x => ∃ (ad : Addr) (cs : List Value), x = .pointer (some ad) ∧ ad.block < B ∧ cs.length = m ∧ (∀ (j : Nat) (u : Value), cs[j]? = some u → w.cell? (ad.add j) = some u) ∧ d.OfB B w (aggV cs))
    (fun _ _ _ _ g ⟨ad, cs, h1, h2, h3, h4, h5⟩ => ⟨ad, cs, h1, h2, h3, fun j u hu => (g.cell (by rw [block_of_add]; exact h2)).trans (h4 j u hu), h5.keep g⟩) (fun _ _ _ _ g ⟨ad, cs, h1, h2, h3, h4, h5⟩ => ⟨ad, cs, h1, by omega, h3, h4, h5.up g⟩)
/-- A slice of structs, each as a fact says. -/
def lstK (m : Nat) (ds : List D) : D :=
  .p (fun B w x => ∃ (A : Option Addr) (q : Nat), x = .slice A ds.length q ∧ ∀ (i : Nat) (d : D), ds[i]? = some d → ∃ (ad : Addr) (cs : List Value), A = some ad ∧ ad.block < B ∧ cs.length = m ∧ (∀ (j : Nat) (u : Value), cs[j]? = some u → w.cell? (ad.add (i * m + j)) = some u) ∧ d.OfB B w (aggV cs))
    (fun _ _ _ _ g ⟨A, q, h1, h2⟩ => ⟨A, q, h1, fun i d hd => by
      obtain ⟨ad, cs, k1, k2, k3, k4, k5⟩ := h2 i d hd
      exact ⟨ad, cs, k1, k2, k3, fun j u hu => (g.cell (by rw [block_of_add]; exact k2)).trans (k4 j u hu), k5.keep g⟩⟩)
    (fun _ _ _ _ g ⟨A, q, h1, h2⟩ => ⟨A, q, h1, fun i d hd => by
      obtain ⟨ad, cs, k1, k2, k3, k4, k5⟩ := h2 i d hd
      exact ⟨ad, cs, k1, by omega, k3, k4, k5.up g⟩⟩)
section
variable {P : Program} {B : Nat} {E : Env} {dst : Option Tmp} {ty : TypeId} {pos : String} {after : Array Edge} {guard : Option (Nat × Bool)}
theorem run_load_agg {T : TypeId} {td : TypeDesc} {w : World} {ad : Addr} {cs : List Value} (ht : P.underlying T = some td) (hp : (match td with | .struct _ | .array _ _ => true | _ => false) = true) (hsz : SizeIs P T cs.length) (h3 : ∀ (j : Nat) (u : Value), cs[j]? = some u → w.cell? (ad.add j) = some u) :
    (Instr.loadAt T (.pointer (some ad))).run P w = .ok (aggV cs) w := by
  have hagg : (isAgg T).run P w = .ok true w := by
    unfold isAgg
    simp only [Sem.run_bind, run_underlying ht, Result.andThen_ok]
    cases td <;> simp_all
  have hc := run_loadCells_list (P := P) w ad cs h3
  obtain ⟨info, hinfo, hs⟩ := hsz.get
  simp [Instr.loadAt, Instr.sureAddr, loadVar, hagg, sizeOf, typeInfo, hinfo, hs, hc, aggV]
theorem ok_loadK {T : TypeId} {td : TypeDesc} {x : Operand} {m : Nat} {f d : D} (ht : P.underlying T = some td) (hp : (match td with | .struct _ | .array _ _ => true | _ => false) = true) (hsz : SizeIs P T m) (hx : E.at x = some f) (hf : Le f (ptrK m d)) :
    OpOk P B ⟨dst, .load T x, ty, pos, after, guard⟩ E d := fun ρ w _ _ hρ => by
  obtain ⟨ad, cs, h1, h2, h3, h4, h5⟩ := hf.of (hρ x (by simp [Op.operands]) _ hx)
  exact out_val (x := aggV cs) (w' := w) (by simp [execOp, h1, run_load_agg ht hp (hsz.of h3) h4]) ⟨Grow.refl w, h5⟩
theorem ok_lenK {t e : TypeId} {x : Operand} {f : D} {m : Nat} {ds : List D} (ht : P.underlying t = some (.slice e)) (hx : E.at x = some f) (hf : Le f (lstK m ds)) :
    OpOk P B ⟨dst, .call { callee := .builtin .len, args := #[x], argTypes := #[t] }, ty, pos, after, guard⟩ E (.v (.int .i64 (ds.length : Int))) := fun ρ w _ _ hρ => by
  obtain ⟨A, q, h1, _⟩ := hf.of (hρ x (by simp [Op.operands, Call.operands]) _ hx)
  exact out_val (w' := w) (by simp [execOp, resolve, invoke, builtin, Builtin.len_, run_underlying ht, h1, goInt]) ⟨Grow.refl w, rfl⟩
theorem ok_indexK {t e : TypeId} {m : Nat} {x i : Operand} {f d : D} {ds : List D} {k : IntKind} (j : Nat) (ht : P.underlying t = some (.slice e)) (hs : SizeIs P e m) (hx : E.at x = some f) (hf : Le f (lstK m ds)) (hi : E.at i = some (.v (.int k (j : Int)))) (hd : ds[j]? = some d) :
    OpOk P B ⟨dst, .indexAddr t x i, ty, pos, after, guard⟩ E (ptrK m d) := fun ρ w _ _ hρ => by
  obtain ⟨A, q, h1, h2⟩ := hf.of (hρ x (by simp [Op.operands]) _ hx)
  have hi' : ρ i = .int k j := hρ i (by simp [Op.operands]) _ hi
  obtain ⟨ad, cs, rfl, k2, k3, k4, k5⟩ := h2 j d hd
  obtain ⟨info, hinfo, hsize⟩ := hs.get
  have hlt : j < ds.length := (List.getElem?_eq_some_iff.1 hd).1
  refine out_val (x := .pointer (some (ad.add (j * m)))) (w' := w) ?_ ⟨Grow.refl w, _, cs, rfl, by rw [block_of_add]; exact k2, k3, fun l u hu => by rw [add_of_add]; exact k4 l u hu, k5⟩
  simp [execOp, h1, hi', Instr.indexAt, asIntOf, run_underlying ht, sizeOf, typeInfo, hinfo, hsize, hlt]
/-! ### Versions behind pointers -/
end
/-! ### Variables that hold a struct of which a fact is known -/
def varK (b : Nat) (T : TypeId) (m : Nat) (d : D) : D :=
  .p (fun B w _ => b < B ∧ ∃ cs : List Value, cs.length = m ∧ cs.all (·.oneCell') = true ∧ w.heap[b]? = some (.cells cs.toArray T (0, 0)) ∧ d.OfB B w (aggV cs))
    (fun _ _ _ _ g ⟨h1, cs, h2, h3, h4, h5⟩ => ⟨h1, cs, h2, h3, (g.block b h1).trans h4, h5.keep g⟩) (fun _ _ _ _ g ⟨h1, cs, h2, h3, h4, h5⟩ => ⟨by omega, cs, h2, h3, h4, h5.up g⟩)
theorem varK_le {b m : Nat} {T : TypeId} {d d' : D} (h : Le d d') : Le (varK b T m d) (varK b T m d') := fun _ _ _ ⟨h1, cs, h2, h3, h4, h5⟩ => ⟨h1, cs, h2, h3, h4, h _ _ _ h5⟩
theorem Surv.varK {B e g b m : Nat} {T : TypeId} {d : D} (h : b ≠ g) (hd : Surv B e g d) : Surv B e g (Go.Proofs.Ytggijkmlmklneaa.varK b T m d) := fun w w' _ k ⟨h1, cs, h2, h3, h4, h5⟩ => ⟨Nat.lt_of_lt_of_le h1 k.size, cs, h2, h3, (k.other b h1 h).trans h4, hd _ _ _ k h5⟩
theorem Surv.varKT {B e g b m : Nat} {T : TypeId} {d : D} (h : T ≠ e) (hd : Surv B e g d) : Surv B e g (Go.Proofs.Ytggijkmlmklneaa.varK b T m d) := fun w w' x k hx => by
  obtain ⟨h1, cs, h2, h3, h4, h5⟩ := id hx
  exact Surv.varK (fun hb => h (by subst hb; exact k.row _ _ _ h4)) hd w w' x k hx
theorem blk_varK {b m : Nat} {T : TypeId} {xs : List Value} {d : D} (hm : xs.length = m) (h1 : xs.all (·.oneCell') = true) (hd : Le (.v (aggV xs)) d) : Le (blk b T xs) (varK b T m d) := fun B w x ⟨k1, k2⟩ => ⟨k1, xs, hm, h1, k2, hd _ _ _ rfl⟩
def NewK (B : Nat) (E : Env) (b : Nat) : Prop := B ≤ b ∧ (∀ s b' e xs, E.look s = some (blk b' e xs) → b' < b) ∧ ∀ s b' e m d, E.look s = some (varK b' e m d) → b' < b
section
variable {P : Program} {n B : Nat} {ops : Array Oper} {E : Env} {ty : TypeId} {pos : String} {after : Array Edge}
theorem eff_allocV {T : TypeId} {zs : List Value} {d k : Nat} (hz : ZeroIs P T zs) (hdn : d < n) :
    EffG P n B ops ⟨some d, .alloc T, ty, pos, after, none⟩ E (NewK B E) (fun b => (d, .v (.pointer (some ⟨b, 0, none⟩))) :: (k, blk b T zs) :: E) := by
  intro κ a w K Q h hK
  obtain ⟨i, z, hi, hz, hc⟩ := hz.get
  have hrun : (execOp a.eval ⟨some d, .alloc T, ty, pos, after, none⟩).run P w = .ok (.value (.pointer (some ⟨w.heap.size, 0, none⟩))) (w.alloc (.cells zs.toArray T)) := by
    simp [execOp, Instr.alloc, zeroValue, typeInfo, hi, hz, newVar, newRow, hc]
  rw [if_pos (by simp [Region.wanted])]
  refine opR (not_defer hrun) ?_
  unfold Oper.wp
  rw [hrun, Oper.upon_value]
  refine hK w.heap.size _ _ ⟨h.base, fun s b' e ys hs => (h.of s _ hs).1, fun s b' e m d hs => (h.of s _ hs).1⟩ ((Below.refl B w).alloc h.base _) (St.put ?_ hdn rfl)
  exact (h.grow (Grow.alloc w (.cells zs.toArray T))).push (t := k) (d := blk w.heap.size T zs) ⟨by simp, heap_alloc_new w _⟩
/-- A store of such a struct over a variable of which only its block is known to have m cells of the type. -/
theorem store_varK {T : TypeId} {p x : Operand} {b s m : Nat} {e : TypeId} {d dv : D} {E' : Env} (hsz : SizeIs P T m) (hp : E.at p = some (.v (.pointer (some ⟨b, 0, none⟩)))) (hx : E.at x = some dv) (hle : Le dv d) (hag : Agg m d) (hb : B ≤ b)
    (hblk : ∀ (κ : Cx) a w, St κ n B E a w → b < w.heap.size ∧ ∃ zs : List Value, zs.length = m ∧ w.heap[b]? = some (.cells zs.toArray e (0, 0))) (hs : Surv B e b d) (hl : LeftS B e b E' E) : Eff P n B ops ⟨none, .store T p x, ty, pos, after, none⟩ E ((s, varK b e m d) :: E') := by
  intro κ a w K Q h hK
  have hp' : a.eval p = _ := h.at_ p _ hp
  have hd := hle.of (h.at_ x _ hx)
  obtain ⟨cs, hx', hm, h1⟩ := hag _ _ _ hd
  obtain ⟨hlt, zs, hz, hh⟩ := hblk κ a w h
  have hrun : (execOp a.eval ⟨none, .store T p x, ty, pos, after, none⟩).run P w = .ok .skip (w.setRow b cs.toArray) := by
    have := run_storeVar_row (P := P) w b e T zs.toArray cs.toArray hh (by simpa [SizeIs, hm] using hsz) (by simpa [hm] using hz) (by simpa using h1)
    simp [execOp, hp', hx', Instr.storeAt, Instr.sureAddr, aggV, this]
  rw [if_pos (by simp [Region.wanted])]
  refine opR (by nofun) ?_
  unfold Oper.wp
  rw [hrun, Oper.upon_skip]
  have hwr := Wrote.setRow hb hh cs.toArray
  rw [hx'] at hd
  exact hK _ _ (hwr.below h.base) ((hl.st h hwr).push (d := varK b e m d) ⟨by simpa using hlt, cs, hm, h1, setRow_heap w b _ _ e _ hh, hs _ _ _ hwr hd⟩)
theorem eff_storeK {T : TypeId} {p x : Operand} {b s m : Nat} {e : TypeId} {zs : List Value} {d dv : D} {E' : Env} (hsz : SizeIs P T m) (hp : E.at p = some (.v (.pointer (some ⟨b, 0, none⟩)))) (hx : E.at x = some dv) (hle : Le dv d) (hag : Agg m d) (hb : B ≤ b)
    (hblk : E.look s = some (blk b e zs)) (hz : zs.length = m) (hs : Surv B e b d) (hl : LeftS B e b E' E) : Eff P n B ops ⟨none, .store T p x, ty, pos, after, none⟩ E ((s, varK b e m d) :: E') :=
  store_varK hsz hp hx hle hag hb (fun κ a w h => ⟨(h.of s _ hblk).1, zs, hz, (h.of s _ hblk).2⟩) hs hl
theorem eff_storeKK {T : TypeId} {p x : Operand} {b s m : Nat} {e : TypeId} {d₀ d dv : D} {E' : Env} (hsz : SizeIs P T m) (hp : E.at p = some (.v (.pointer (some ⟨b, 0, none⟩)))) (hx : E.at x = some dv) (hle : Le dv d) (hag : Agg m d) (hb : B ≤ b)
    (hblk : E.look s = some (varK b e m d₀)) (hs : Surv B e b d) (hl : LeftS B e b E' E) : Eff P n B ops ⟨none, .store T p x, ty, pos, after, none⟩ E ((s, varK b e m d) :: E') :=
  store_varK hsz hp hx hle hag hb (fun κ a w h => by obtain ⟨h1, zs, h2, _, h3, _⟩ := h.of s _ hblk; exact ⟨h1, zs, h2, h3⟩) hs hl
end
section
variable {P : Program} {B : Nat} {E : Env} {dst : Option Tmp} {ty : TypeId} {pos : String} {after : Array Edge} {guard : Option (Nat × Bool)}
theorem ok_loadVK {T : TypeId} {td : TypeDesc} {x : Operand} {b s m : Nat} {e : TypeId} {d : D} (hsl : vbase ≤ s) (ht : P.underlying T = some td) (hp : (match td with | .struct _ | .array _ _ => true | _ => false) = true) (hsz : SizeIs P T m)
    (hx : E.at x = some (.v (.pointer (some ⟨b, 0, none⟩)))) (hblk : E.look s = some (varK b e m d)) : OpOk P B ⟨dst, .load T x, ty, pos, after, guard⟩ E d := fun ρ w _ hv hρ => by
  have h1 : ρ x = _ := hρ x (by simp [Op.operands]) _ hx
  obtain ⟨hlt, cs, h2, h3, hh, h5⟩ := hv s _ hsl hblk
  exact out_val (x := aggV cs) (w' := w) (by simp [execOp, h1, Instr.loadAt, Instr.sureAddr, load_cell (xs := cs) ht hp (hsz.of h2) hh]) ⟨Grow.refl w, h5⟩
end
/-! New variables of drawn regions. -/
section
variable {P : Program} {n B : Nat} {ops : Array Oper} {E : Env} {ty : TypeId} {pos : String} {after : Array Edge}
end
section
variable {P : Program} {w₀ : World} {n : Nat} {c : Code} {E : Env} {Q : Exit → Act → World → Prop}
/-- Back at the function's own base. -/
theorem A.lower {w₁ : World} (hg : Grow w₀ w₁) (h : A κ P w₀ n c E Q) : A κ P w₁ n c E Q := fun a w g hs => h a w (Grow.trans hg g) ⟨Nat.le_trans hg.size hs.base, hs.defers, hs.size, hs.of⟩
/-- Code that comes to an environment told beforehand, in whatever way; then the rest. -/
def ToEnv (κ : Cx) (w₀ : World) (n : Nat) (E₂ : Env) (a : Act) (w : World) : Prop := Below w₀.heap.size w₀ w ∧ St κ n w₀.heap.size E₂ a w
theorem End.toEnv {E₂ : Env} (h : SubL E₂ E) : End κ w₀ n E (ToEnv κ w₀ n E₂) := fun _ _ g hs => ⟨g, hs.subL h⟩
theorem A.seqTo {x y : Code} (E₂ : Env) (h1 : A κ P w₀ n x E (Exit.then (ToEnv κ w₀ n E₂) Q)) (h2 : A κ P w₀ n y E₂ Q) : A κ P w₀ n (x.seq y) E Q := A.seq fun a w g hs => wpIn_mono (h1 a w g hs) fun e a' w' hq => by
  cases e with
  | normal => exact h2 a' w' hq.1 hq.2
  | exit id => exact hq
  | goto l => exact hq
  | ret => exact hq
  | panic ch => exact hq
  | outgrown => exact hq
end
/-! ### Ends -/
section
variable {P : Program} {n : Nat} {w₀ : World} {E : Env}
theorem End.varK1 {fn : Func} {r s b m : Nat} {T e : TypeId} {td : TypeDesc} {d d' : D} (hr : fn.results = #[.cell r T]) (ht : P.underlying T = some td) (hp : (match td with | .struct _ | .array _ _ => true | _ => false) = true) (hsz : SizeIs P T m)
    (h1 : E.look r = some (.v (.pointer (some ⟨b, 0, none⟩)))) (h2 : E.look s = some (varK b e m d)) (hl : Le d d') : End Cx.top w₀ n E (BP P fn (PostOf w₀ d') .ret) := fun a w g hs => by
  have h3 : a.tmps[r]?.getD undef = .pointer (some ⟨b, 0, none⟩) := by rw [← Array.getD_eq_getD_getElem?]; exact hs.of r _ h1
  obtain ⟨hlt, cs, k2, k3, hh, k5⟩ := hs.of s _ h2
  exact BP.ret hs.defers ⟨aggV cs, by simp [results, hr, h3, asAddr, load_cell (xs := cs) ht hp (hsz.of k2) hh], _, rfl, g, hl.of (w := w) k5⟩
theorem End.varK2 {fn : Func} {r s b m r' : Nat} {T e : TypeId} {td : TypeDesc} {d d' f f' : D} (hr : fn.results = #[.cell r T, .tmp r']) (ht : P.underlying T = some td) (hp : (match td with | .struct _ | .array _ _ => true | _ => false) = true) (hsz : SizeIs P T m)
    (h1 : E.look r = some (.v (.pointer (some ⟨b, 0, none⟩)))) (h2 : E.look s = some (varK b e m d)) (hl : Le d d') (h4 : E.look r' = some f) (hl' : Le f f') : End Cx.top w₀ n E (BP P fn (PostOf w₀ (tup [d', f'])) .ret) := fun a w g hs => by
  have h3 : a.tmps[r]?.getD undef = .pointer (some ⟨b, 0, none⟩) := by rw [← Array.getD_eq_getD_getElem?]; exact hs.of r _ h1
  obtain ⟨hlt, cs, k2, k3, hh, k5⟩ := hs.of s _ h2
  refine BP.ret hs.defers ⟨.tuple #[aggV cs, a.tmps.getD r' undef], by simp [results, hr, h3, asAddr, load_cell (xs := cs) ht hp (hsz.of k2) hh], _, rfl, g, [aggV cs, a.tmps.getD r' undef], rfl, rfl, fun j d u hd hu => ?_⟩
  match j, hd, hu with
  | 0, hd, hu => simp only [List.getElem?_cons_zero, Option.some.injEq] at hd hu; subst hd; subst hu; exact hl.of (w := w) k5
  | 1, hd, hu => simp only [List.getElem?_cons_succ, List.getElem?_cons_zero, Option.some.injEq] at hd hu; subst hd; subst hu; exact hl'.of (hs.of r' f h4)
  | j + 2, hd, _ => simp at hd
end
theorem tup_v {x y : Value} {d e : D} (h1 : Le (.v x) d) (h2 : Le (.v y) e) : Le (.v (.tuple #[x, y])) (tup [d, e]) := fun B w u hu => by
  refine ⟨[x, y], hu, rfl, fun j d u hd hu => ?_⟩
  match j, hd, hu with
  | 0, hd, hu => simp at hd hu; subst hd; subst hu; exact h1 _ _ _ rfl
  | 1, hd, hu => simp at hd hu; subst hd; subst hu; exact h2 _ _ _ rfl
  | j + 2, hd, _ => simp at hd
end Go.Proofs.Ytggijkmlmklneaa
namespace Go.Proofs.Ytggijkmlmklneaa
open Go Go.RowKit
set_option linter.unusedVariables false
set_option linter.unusedSimpArgs false
variable {κ : Cx}
/-! ### Rows of a type -/
theorem RowX.keepB {lo : Nat} {e : TypeId} {B : Nat} {w w' : World} {A : Option Addr} {xs : List Value} (h : RowX lo e B w A xs) (g : Below B w w') : RowX lo e B w' A xs := h.other (Nat.le_refl _) fun b _ _ _ hb _ => g.block b hb
theorem RowX.upB {lo : Nat} {e : TypeId} {B B' : Nat} {w : World} {A : Option Addr} {xs : List Value} (h : RowX lo e B w A xs) (g : B ≤ B') : RowX lo e B' w A xs := h.other g fun _ _ _ _ _ _ => rfl
theorem RowX.wrote {lo : Nat} {e : TypeId} {B T g : Nat} {w w' : World} {A : Option Addr} {xs : List Value} (h : RowX lo e w.heap.size w A xs) (k : Wrote B T g w w') (hne : e ≠ T) : RowX lo e w'.heap.size w' A xs :=
  h.other k.size fun b cur fr _ hb hh => k.other b hb fun hbg => by subst hbg; exact hne (k.row _ _ _ hh)
theorem RowX.blk {lo b : Nat} {e : TypeId} {B : Nat} {w : World} {cs : Array Value} {fr : Nat × Nat} {xs : List Value} (hlo : lo ≤ b) (hb : b < B) (hh : w.heap[b]? = some (.cells cs e fr)) (hx : ∀ (j : Nat) (u : Value), xs[j]? = some u → cs[j]? = some u) : RowX lo e B w (some ⟨b, 0, none⟩) xs := fun j u hu =>
  ⟨_, rfl, hlo, hb, ⟨cs, fr, hh⟩, by rw [add_lit0, Nat.zero_add]; simp [World.cell?, hh, hx j u hu]⟩
/-- A slice of n elements whose cells, of type e, read as xs. -/
def rowXD (e : TypeId) (n : Nat) (xs : List Value) : D :=
  .p (fun B w x => ∃ A q, x = .slice A n q ∧ RowX 0 e B w A xs) (fun _ _ _ _ g ⟨A, q, h1, h2⟩ => ⟨A, q, h1, h2.keepB g⟩) (fun _ _ _ _ g ⟨A, q, h1, h2⟩ => ⟨A, q, h1, h2.upB g⟩)
def rowT (e : TypeId) (h : List Con) : D := rowXD e (h.length + 1) (rowC h)
theorem Surv.rowX {B T g n : Nat} {e : TypeId} {xs : List Value} (h : e ≠ T) : Surv B T g (rowXD e n xs) := fun w w' x k ⟨A, q, h1, h2⟩ => ⟨A, q, h1, h2.wrote k h⟩
theorem Surv.rowT {B T g : Nat} {e : TypeId} {h : List Con} (hne : e ≠ T) : Surv B T g (Go.Proofs.Ytggijkmlmklneaa.rowT e h) := Surv.rowX hne
theorem Surv.rows {B T g : Nat} {tv : TypeId} {S : Dk} (h : tv ≠ T) : ∀ d ∈ S.map (Go.Proofs.Ytggijkmlmklneaa.rowT tv), Surv B T g d := fun d hd => by
  obtain ⟨x, _, rfl⟩ := List.mem_map.1 hd
  exact Surv.rowT h
section
variable {P : Program} {w₀ : World} {n : Nat} {c : Code} {E : Env} {Q : Exit → Act → World → Prop}
end
section
variable {P : Program} {B : Nat} {E : Env} {dst : Option Tmp} {ty : TypeId} {pos : String} {after : Array Edge} {guard : Option (Nat × Bool)}
/-- append of a slice of structs to nil. -/
theorem ok_appendNil {t e : TypeId} {z : Value} {sz nb m : Nat} {x : Operand} {f : D} {ys : List Value} (ht : P.underlying t = some (.slice e)) (hinfo : InfoP P e z sz nb) (hsz : 0 < sz) (hnb : nb ≤ 64) (hz1 : z.cells.size = sz)
    (hx : E.at x = some f) (hf : Le f (rowD m ys)) (h1 : ys.all (·.oneCell') = true) (hl : ys.length = m * sz) (hk : m ≤ 1099511627776) :
    OpOk P B ⟨dst, .call { callee := .builtin .append, args := #[.const (.slice none 0 0), x], argTypes := #[t, t] }, ty, pos, after, guard⟩ E (ownP B e sz m ys) := fun ρ w hB hv hρ => by
  have h0 : ρ (.const (.slice none 0 0)) = .slice none 0 0 := hρ (.const (.slice none 0 0)) (by simp [Op.operands, Call.operands]) _ rfl
  obtain ⟨A, c, hxe, hrow⟩ := hf.of (hρ x (by simp [Op.operands, Call.operands]) _ hx)
  obtain ⟨v', w', hrun, h3, h4⟩ := append_ownP (B := w.heap.size) (ty := ty) (k := 0) (xs := []) (v := .slice none 0 0) ht hinfo hsz hnb hz1 ⟨by simp, .inl ⟨rfl, rfl⟩⟩ hxe hrow h1 hl (by omega) (Nat.le_refl _)
  rw [Nat.zero_add, List.nil_append] at h3
  have h5 : w'.ownsRow B e sz v' m ys := ⟨h3.1, h3.2.imp id (by rintro ⟨g, cap, cur, h6, h7, h8⟩; exact ⟨g, cap, cur, h6, by omega, h8⟩)⟩
  exact out_val (x := v') (w' := w') (by simp [execOp, resolve, invoke, builtin, h0, hrun]) ⟨h4, h5, lt_of_row h5⟩
end
section
variable {P : Program} {n B : Nat} {ops : Array Oper} {E : Env} {ty : TypeId} {pos : String} {after : Array Edge}
end
/-! ### Changes as plain data -/
structure OpT where
  k : UInt8
  s : UInt8
  b : UInt8
  l : List UInt8
def opD (o : OpT) : D := tlD [byteV o.k, byteV o.s, byteV o.b] (byt o.l)
theorem Agg.op {o : OpT} : Agg 4 (opD o) := Agg.tl rfl rfl
/-! ### What is counted -/
end Go.Proofs.Ytggijkmlmklneaa
namespace Go.Proofs.Ytggijkmlmklneaa
open Go Go.RowKit
set_option linter.unusedVariables false
set_option linter.unusedSimpArgs false
variable {κ : Cx}
section
variable {P : Program} {B : Nat} {E : Env} {dst : Option Tmp} {ty : TypeId} {pos : String} {after : Array Edge} {guard : Option (Nat × Bool)}
end
section
variable {P : Program} {n B : Nat} {ops : Array Oper} {E : Env} {ty : TypeId} {pos : String} {after : Array Edge}
end
section
variable {P : Program} {n : Nat} {w₀ : World} {E : Env}
end
end Go.Proofs.Ytggijkmlmklneaa
namespace Go.Proofs.Ytggijkmlmklneaa
open Go Go.RowKit
set_option linter.unusedVariables false
set_option linter.unusedSimpArgs false
section
variable {P : Program} {B : Nat} {E : Env} {dst : Option Tmp} {ty : TypeId} {pos : String} {after : Array Edge} {guard : Option (Nat × Bool)}
theorem ok_neBool {t t' : TypeId} {x y : Operand} {a b : Bool} (ht : P.underlying t = some .bool) (hx : E.at x = some (.v (.bool a))) (hy : E.at y = some (.v (.bool b))) : OpOk P B ⟨dst, .binOp .neq t x y t', ty, pos, after, guard⟩ E (.v (.bool (!(a == b)))) := fun ρ w _ _ hρ => by
  have h1 : ρ x = .bool a := hρ x (by simp [Op.operands]) _ hx
  have h2 : ρ y = .bool b := hρ y (by simp [Op.operands]) _ hy
  have h3 := run_equalIn_bool' (P := P) w 9999 t a b ht
  exact out_val (w' := w) (by simp [execOp, h1, h2, eqGuard, binOp, Op.equal, Op.maxDepth, h3]) ⟨Grow.refl w, rfl⟩
/-- A part of an element: its first cells. -/
theorem ok_loadElemT {T : TypeId} {td : TypeDesc} {x : Operand} {us : List Value} (n : Nat) (ht : P.underlying T = some td) (hp : (match td with | .struct _ | .array _ _ => true | _ => false) = true) (hsz : SizeIs P T n) (hn : n ≤ us.length) (hx : E.at x = some (elemP us)) :
    OpOk P B ⟨dst, .load T x, ty, pos, after, guard⟩ E (.v (aggV (us.take n))) := fun ρ w _ _ hρ => by
  obtain ⟨ad, h1, _, h3⟩ := hρ x (by simp [Op.operands]) _ hx
  have hagg : (isAgg T).run P w = .ok true w := by
    unfold isAgg
    simp only [Sem.run_bind, run_underlying ht, Result.andThen_ok]
    cases td <;> simp_all
  have hl : (us.take n).length = n := by simp [hn]
  have hc := run_loadCells_list (P := P) w ad (us.take n) (fun j u hu => by
    rw [List.getElem?_take] at hu
    split at hu
    · exact h3 j u hu
    · cases hu)
  rw [hl] at hc
  obtain ⟨info, hinfo, hs⟩ := hsz.get
  exact out_val (x := aggV (us.take n)) (w' := w) (by simp [execOp, h1, Instr.loadAt, Instr.sureAddr, loadVar, hagg, sizeOf, typeInfo, hinfo, hs, hc, aggV]) ⟨Grow.refl w, rfl⟩
/-- The address of an element of a slice that is told exactly. -/
theorem ok_indexVK {t e : TypeId} {z : Value} {sz nb : Nat} {x i : Operand} {b n c : Nat} {k : IntKind} (m : Nat) (ht : P.underlying t = some (.slice e)) (hs : InfoP P e z sz nb) (hx : E.at x = some (.v (.slice (some ⟨b, 0, none⟩) n c))) (hi : E.at i = some (.v (.int k (m : Int)))) (hn : m < n) :
    OpOk P B ⟨dst, .indexAddr t x i, ty, pos, after, guard⟩ E (.v (.pointer (some ⟨b, m * sz, none⟩))) := fun ρ w _ _ hρ => by
  have h1 : ρ x = _ := hρ x (by simp [Op.operands]) _ hx
  have hi' : ρ i = .int k (m : Int) := hρ i (by simp [Op.operands]) _ hi
  obtain ⟨info, hinfo, _, hsize, _⟩ := hs.get
  refine out_val (w' := w) ?_ ⟨Grow.refl w, rfl⟩
  have : (⟨b, 0, none⟩ : Addr).add (m * sz) = ⟨b, m * sz, none⟩ := by unfold Addr.add; split <;> simp_all
  simp [execOp, h1, hi', Instr.indexAt, asIntOf, run_underlying ht, sizeOf, typeInfo, hinfo, hsize, hn, this]
end
section
end
end Go.Proofs.Ytggijkmlmklneaa
namespace Go.Proofs.Ytggijkmlmklneaa
open Go Go.RowKit
set_option linter.unusedVariables false
set_option linter.unusedSimpArgs false
section
variable {P : Program} {B : Nat} {E : Env} {dst : Option Tmp} {ty : TypeId} {pos : String} {after : Array Edge} {guard : Option (Nat × Bool)}
end
section
variable {κ : Cx} {P : Program} {w₀ : World} {n : Nat} {c : Code} {E : Env} {Q : Exit → Act → World → Prop}
end
end Go.Proofs.Ytggijkmlmklneaa
namespace Go.Proofs.Ytggijkmlmklneaa
open Go Go.RowKit
/-- The operation yields v (or stores what is there) and changes nothing. -/
def NopOk (P : Program) (B : Nat) (o : Oper) (E : Env) (v : Value) : Prop := (∀ c, o.op ≠ .defer c) ∧
  ∀ (ρ : Operand → Value) (w : World), B ≤ w.heap.size → (∀ t e, vbase ≤ t → E.look t = some e → e.Of w undef) → (∀ x, x ∈ o.op.operands → ∀ e, E.at x = some e → e.Of w (ρ x)) → ((execOp ρ o).run P w = .ok (.value v) w ∧ o.dst ≠ none) ∨ ((execOp ρ o).run P w = .ok .skip w ∧ o.dst = none)
/-- An environment out of what was known and of what operations have yielded that stand before operation o. -/
inductive FromN (ops : Array Oper) (vals : List Value) (E0 : Env) (o : Oper) : Env → Prop
  | nil : FromN ops vals E0 o []
  | all : FromN ops vals E0 o E0
  | base {t : Nat} {d : D} {E : Env} (h : E0.look t = some d) (hr : FromN ops vals E0 o E) : FromN ops vals E0 o ((t, d) :: E)
  | op {t : Nat} {v : Value} {E : Env} (j : Nat) (he : (o.after.any fun e => Region.binds .any e && e.on == j) = true) (hd : (ops[j]?).bind (·.dst) = some t) (hv : vals[j]? = some v) (hr : FromN ops vals E0 o E) : FromN ops vals E0 o ((t, .v v) :: E)
/-- The same at the region's end. -/
inductive FromE (ops : Array Oper) (vals : List Value) (E0 : Env) : Env → Prop
  | nil : FromE ops vals E0 []
  | all : FromE ops vals E0 E0
  | base {t : Nat} {d : D} {E : Env} (h : E0.look t = some d) (hr : FromE ops vals E0 E) : FromE ops vals E0 ((t, d) :: E)
  | op {t : Nat} {v : Value} {E : Env} (j : Nat) (hd : (ops[j]?).bind (·.dst) = some t) (hv : vals[j]? = some v) (hr : FromE ops vals E0 E) : FromE ops vals E0 ((t, .v v) :: E)
inductive Nops (P : Program) (B : Nat) (ops : Array Oper) (vals : List Value) (E0 : Env) : Nat → List Oper → Prop
  | nil {i : Nat} : Nops P B ops vals E0 i []
  | cons {i : Nat} {o : Oper} {rest : List Oper} {v : Value} (E : Env) (hv : vals[i]? = some v) (hd : o.dst = none ∨ ∃ t, o.dst = some t ∧ (E0.look t = none ∨ E0.look t = some (.v v))) (hf : FromN ops vals E0 o E) (hok : NopOk P B o E v) (hr : Nops P B ops vals E0 (i + 1) rest) : Nops P B ops vals E0 i (o :: rest)
def downsN (ops : Array Oper) : Bool := (List.range ops.size).all fun i => match ops[i]? with
  | none => false
  | some o => o.guard.isNone && o.after.all (fun e => !Region.binds .any e || decide (e.on < i)) && (List.range ops.size).all fun j => match ops[j]? with
    | none => false
    | some q => j == i || o.dst == none || o.dst != q.dst
section
variable {P : Program} {n B : Nat} {ops : Array Oper} {κ : Cx} {Q : Exit → Act → World → Prop} {vals : List Value} {E0 : Env}
theorem Nops.nth {k : Nat} {l : List Oper} (h : Nops P B ops vals E0 k l) : ∀ {i : Nat} {o : Oper}, l[i]? = some o → ∃ E v, vals[k + i]? = some v ∧ (o.dst = none ∨ ∃ t, o.dst = some t ∧ (E0.look t = none ∨ E0.look t = some (.v v))) ∧ FromN ops vals E0 o E ∧ NopOk P B o E v := by
  induction h with
  | nil => intro i o hi; simp at hi
  | @cons k o0 rest v E hv hd hf hok _ ih =>
    intro i o hi
    cases i with
    | zero => simp at hi; subst hi; exact ⟨E, v, hv, hd, hf, hok⟩
    | succ i =>
      obtain ⟨E, v, h1, h2⟩ := ih (i := i) (by simpa using hi)
      exact ⟨E, v, by rw [show k + (i + 1) = k + 1 + i from by omega]; exact h1, h2⟩
theorem downs_get (h : downsN ops = true) {i : Nat} {o : Oper} (hi : ops[i]? = some o) : o.guard = none ∧ (∀ e ∈ o.after, Region.binds .any e = true → e.on < i) ∧ ∀ j q, ops[j]? = some q → j ≠ i → o.dst ≠ none → o.dst ≠ q.dst := by
  have hlt : i < ops.size := (Array.getElem?_eq_some_iff.1 hi).1
  have h1 := List.all_eq_true.1 h i (List.mem_range.2 hlt)
  simp only [hi, Bool.and_eq_true] at h1
  refine ⟨by simpa using h1.1.1, fun e he hb => ?_, fun j q hj hne hnn => ?_⟩
  · have h2 := Array.all_eq_true_iff_forall_mem.1 h1.1.2 e he
    simpa [hb] using h2
  · have h3 := List.all_eq_true.1 h1.2 j (List.mem_range.2 (Array.getElem?_eq_some_iff.1 hj).1)
    simp only [hj, Bool.or_eq_true, beq_iff_eq, bne_iff_ne, ne_eq] at h3
    rcases h3 with (h3 | h3) | h3
    · exact absurd h3 hne
    · exact absurd h3 hnn
    · exact h3
end
/-! ### Such operations -/
section
variable {P : Program} {B : Nat} {E : Env} {d : Tmp} {ty : TypeId} {pos : String} {after : Array Edge} {guard : Option (Nat × Bool)}
end
end Go.Proofs.Ytggijkmlmklneaa
namespace Go.Proofs.Ytggijkmlmklneaa
open Go Go.RowKit
/-- A variable that the region makes: the operation that makes it, its slot, its type, its zero value, the operation that gives it its value. -/
structure VarN where
  a : Nat
  t : Nat
  T : TypeId
  zs : List Value
  s : Nat
  ys : List Value
inductive FromV (ops : Array Oper) (vals : List (Option Value)) (E0 : Env) (o : Oper) : Env → Prop
  | nil : FromV ops vals E0 o []
  | all : FromV ops vals E0 o E0
  | op {t : Nat} {v : Value} {E : Env} (j : Nat) (he : (o.after.any fun e => Region.binds .any e && e.on == j) = true) (hd : (ops[j]?).bind (·.dst) = some t) (hv : vals[j]? = some (some v)) (hr : FromV ops vals E0 o E) : FromV ops vals E0 o ((t, .v v) :: E)
inductive KopOk (P : Program) (ops : Array Oper) (vals : List (Option Value)) (vs : List VarN) (E0 : Env) (i : Nat) : Oper → Prop
  | pure {o : Oper} {t : Nat} {v : Value} (E : Env) (hv : vals[i]? = some (some v)) (hd : o.dst = some t) (h0 : E0.look t = none ∨ E0.look t = some (.v v)) (hf : FromV ops vals E0 o E) (hok : ∀ B', OpOk P B' o E (.v v)) : KopOk P ops vals vs E0 i o
  | alloc {t : Tmp} {T ty : TypeId} {pos : String} {after : Array Edge} {V : VarN} (j : Nat) (hV : vs[j]? = some V) (ha : V.a = i) (hT : V.T = T) (ht : V.t = t) (hz : ZeroIs P T V.zs) (h0 : E0.look t = none) : KopOk P ops vals vs E0 i ⟨some t, .alloc T, ty, pos, after, none⟩
  | store {t T ty : TypeId} {x : Operand} {pos : String} {after : Array Edge} {V : VarN} (j : Nat) (E : Env) (hV : vs[j]? = some V) (hs : V.s = i) (hT : V.T = T) (ht : V.t = t) (he : (after.any fun e => Region.binds .any e && e.on == V.a) = true) (hf : FromV ops vals E0 ⟨none, .store T (.tmp t) x, ty, pos, after, none⟩ E) (hx : E.at x = some (.v (aggV V.ys)))
      (hsz : SizeIs P T V.ys.length) (hl : V.zs.length = V.ys.length) (h1 : V.ys.all (·.oneCell') = true) : KopOk P ops vals vs E0 i ⟨none, .store T (.tmp t) x, ty, pos, after, none⟩
inductive Kops (P : Program) (ops : Array Oper) (vals : List (Option Value)) (vs : List VarN) (E0 : Env) : Nat → List Oper → Prop
  | nil {i : Nat} : Kops P ops vals vs E0 i []
  | cons {i : Nat} {o : Oper} {rest : List Oper} (h : KopOk P ops vals vs E0 i o) (hr : Kops P ops vals vs E0 (i + 1) rest) : Kops P ops vals vs E0 i (o :: rest)
section
variable {P : Program} {n B : Nat} {ops : Array Oper} {κ : Cx} {Q : Exit → Act → World → Prop} {vals : List (Option Value)} {vs : List VarN} {E0 : Env}
theorem Kops.nth {k : Nat} {l : List Oper} (h : Kops P ops vals vs E0 k l) : ∀ {i : Nat} {o : Oper}, l[i]? = some o → KopOk P ops vals vs E0 (k + i) o := by
  induction h with
  | nil => intro i o hi; simp at hi
  | @cons k o0 rest h _ ih =>
    intro i o hi
    cases i with
    | zero => simp at hi; subst hi; exact h
    | succ i =>
      have := ih (i := i) (by simpa using hi)
      rwa [show k + (i + 1) = k + 1 + i from by omega]
structure InvV (κ : Cx) (n B : Nat) (ops : Array Oper) (vals : List (Option Value)) (vs : List VarN) (E0 : Env) (w1 : World) (listed : Array Bool) (a : Act) (w : World) : Prop where
  base : B ≤ w1.heap.size
  bel : Below w1.heap.size w1 w
  defers : a.defers = κ.df
  size : a.tmps.size = n
  facts : ∀ t d, E0.look t = some d → d.OfB w1.heap.size w (a.tmps.getD t undef)
  lsize : listed.size = ops.size
  got : ∀ (i : Nat) (o : Oper) (t : Nat) (v : Value), ops[i]? = some o → listed.getD i false = true → o.dst = some t → vals[i]? = some (some v) → a.tmps.getD t undef = v
  cl : ∀ (j : Nat) (V : VarN), vs[j]? = some V → listed.getD V.s false = true → listed.getD V.a false = true
  var : ∃ bs : Nat → Nat, (∀ (j : Nat) (V : VarN), vs[j]? = some V → listed.getD V.a false = true → w1.heap.size ≤ bs j ∧ bs j < w.heap.size ∧ a.tmps.getD V.t undef = .pointer (some ⟨bs j, 0, none⟩) ∧ w.heap[bs j]? = some (.cells (if listed.getD V.s false = true then V.ys else V.zs).toArray V.T (0, 0))) ∧
    ∀ (j j' : Nat) (V V' : VarN), vs[j]? = some V → vs[j']? = some V' → listed.getD V.a false = true → listed.getD V'.a false = true → j ≠ j' → bs j ≠ bs j'
theorem InvV.st {w1 : World} {listed : Array Bool} {a : Act} {w : World} (I : InvV κ n B ops vals vs E0 w1 listed a w) : St κ n B E0 a w :=
  ⟨Nat.le_trans I.base I.bel.size, I.defers, I.size, fun t d hl => D.OfB.up (I.facts t d hl) I.bel.size⟩
/-! ### The same, operation by operation -/
theorem FromV.more {vals : List (Option Value)} {o : Oper} {E : Env} {pre : List (Option Value)} (hp : ∀ (j : Nat) (v : Option Value), pre[j]? = some v → vals[j]? = some v) (h : FromV ops pre E0 o E) : FromV ops vals E0 o E := by
  induction h with
  | nil => exact .nil
  | all => exact .all
  | op j he hd hv _ ih => exact .op j he hd (hp _ _ hv) ih
/-- From here on; pre is what the operations before have yielded. -/
def KopsK (P : Program) (ops : Array Oper) (vs : List VarN) (E0 : Env) (rest : List Oper) (pre : List (Option Value)) (C : List (Option Value) → Prop) : Prop :=
  ∃ vals : List (Option Value), (∀ (j : Nat) (v : Option Value), pre[j]? = some v → vals[j]? = some v) ∧ Kops P ops vals vs E0 pre.length rest ∧ C vals
theorem pre_snoc {α : Type} {pre vals : List α} {v : α} (h : ∀ (j : Nat) (u : α), (pre ++ [v])[j]? = some u → vals[j]? = some u) : (∀ (j : Nat) (u : α), pre[j]? = some u → vals[j]? = some u) ∧ vals[pre.length]? = some v :=
  ⟨fun j u hu => h j u (by rw [List.getElem?_append_left (List.getElem?_eq_some_iff.1 hu).1]; exact hu), h _ _ (by simp)⟩
theorem KopsK.nil {pre : List (Option Value)} {C : List (Option Value) → Prop} (h : C pre) : KopsK P ops vs E0 [] pre C := ⟨pre, fun _ _ h => h, .nil, h⟩
theorem KopsK.pure {o : Oper} {rest : List Oper} {pre : List (Option Value)} {C : List (Option Value) → Prop} {t : Nat} {v : Value} (E : Env) (hd : o.dst = some t) (h0 : E0.look t = none ∨ E0.look t = some (.v v)) (hf : FromV ops pre E0 o E) (hok : ∀ B', OpOk P B' o E (.v v))
    (hr : KopsK P ops vs E0 rest (pre ++ [some v]) C) : KopsK P ops vs E0 (o :: rest) pre C := by
  obtain ⟨vals, h1, h2, h3⟩ := hr
  obtain ⟨h4, h5⟩ := pre_snoc h1
  exact ⟨vals, h4, .cons (.pure E h5 hd h0 (hf.more h4) hok) (by simpa using h2), h3⟩
theorem KopsK.alloc {rest : List Oper} {pre : List (Option Value)} {C : List (Option Value) → Prop} {t : Tmp} {T ty : TypeId} {pos : String} {after : Array Edge} {V : VarN} (j : Nat) (hV : vs[j]? = some V) (ha : V.a = pre.length) (hT : V.T = T) (ht : V.t = t) (hz : ZeroIs P T V.zs) (h0 : E0.look t = none)
    (hr : KopsK P ops vs E0 rest (pre ++ [none]) C) : KopsK P ops vs E0 (⟨some t, .alloc T, ty, pos, after, none⟩ :: rest) pre C := by
  obtain ⟨vals, h1, h2, h3⟩ := hr
  obtain ⟨h4, _⟩ := pre_snoc h1
  exact ⟨vals, h4, .cons (.alloc j hV ha hT ht hz h0) (by simpa using h2), h3⟩
theorem KopsK.store {rest : List Oper} {pre : List (Option Value)} {C : List (Option Value) → Prop} {t T ty : TypeId} {x : Operand} {pos : String} {after : Array Edge} {V : VarN} (j : Nat) (E : Env) (hV : vs[j]? = some V) (hs : V.s = pre.length) (hT : V.T = T) (ht : V.t = t) (he : (after.any fun e => Region.binds .any e && e.on == V.a) = true)
    (hf : FromV ops pre E0 ⟨none, .store T (.tmp t) x, ty, pos, after, none⟩ E) (hx : E.at x = some (.v (aggV V.ys))) (hsz : SizeIs P T V.ys.length) (hl : V.zs.length = V.ys.length) (h1 : V.ys.all (·.oneCell') = true)
    (hr : KopsK P ops vs E0 rest (pre ++ [none]) C) : KopsK P ops vs E0 (⟨none, .store T (.tmp t) x, ty, pos, after, none⟩ :: rest) pre C := by
  obtain ⟨vals, g1, g2, g3⟩ := hr
  obtain ⟨g4, _⟩ := pre_snoc g1
  exact ⟨vals, g4, .cons (.store j E hV hs hT ht he (hf.more g4) hx hsz hl h1) (by simpa using g2), g3⟩
end
end Go.Proofs.Ytggijkmlmklneaa
namespace Go.Proofs.Ytggijkmlmklneaa
open Go Go.RowKit
/-- A variable that the region makes: the operation that makes it, its slot, its type, its zero value, the operation that gives it its value. -/
structure VarF where
  a : Nat
  t : Nat
  T : TypeId
  zs : List Value
  s : Nat
  m : Nat
  f : D
inductive FromF (ops : Array Oper) (vals : List (Option D)) (E0 : Env) (o : Oper) : Env → Prop
  | nil : FromF ops vals E0 o []
  | all : FromF ops vals E0 o E0
  | op {t : Nat} {v : D} {E : Env} (j : Nat) (he : (o.after.any fun e => Region.binds .any e && e.on == j) = true) (hd : (ops[j]?).bind (·.dst) = some t) (hv : vals[j]? = some (some v)) (hr : FromF ops vals E0 o E) : FromF ops vals E0 o ((t, v) :: E)
inductive FromFW (ops : Array Oper) (vals : List (Option D)) (E0 : Env) : Env → Prop
  | all : FromFW ops vals E0 E0
  | op {t : Nat} {v : D} {E : Env} (j : Nat) (hd : (ops[j]?).bind (·.dst) = some t) (hv : vals[j]? = some (some v)) (hr : FromFW ops vals E0 E) : FromFW ops vals E0 ((t, v) :: E)
/-- Stays true whatever variable of the region is given its value. -/
def SurvF (vs : List VarF) (B : Nat) (d : D) : Prop := ∀ V ∈ vs, ∀ B' g, B ≤ g → Surv B' V.T g d
inductive KofOk (P : Program) (B : Nat) (ops : Array Oper) (vals : List (Option D)) (vs : List VarF) (E0 : Env) (i : Nat) : Oper → Prop
  | pure {o : Oper} {t : Nat} {v : D} (E : Env) (hv : vals[i]? = some (some v)) (hd : o.dst = some t) (h0 : E0.look t = none) (hf : FromF ops vals E0 o E) (hs : SurvF vs B v) (hok : OpOk P B o E v) : KofOk P B ops vals vs E0 i o
  | alloc {t : Tmp} {T ty : TypeId} {pos : String} {after : Array Edge} {V : VarF} (j : Nat) (hV : vs[j]? = some V) (ha : V.a = i) (hT : V.T = T) (ht : V.t = t) (hz : ZeroIs P T V.zs) (h0 : E0.look t = none) : KofOk P B ops vals vs E0 i ⟨some t, .alloc T, ty, pos, after, none⟩
  | store {t T ty : TypeId} {x : Operand} {pos : String} {after : Array Edge} {V : VarF} {dx : D} (j : Nat) (E : Env) (hV : vs[j]? = some V) (hs : V.s = i) (hT : V.T = T) (ht : V.t = t) (he : (after.any fun e => Region.binds .any e && e.on == V.a) = true) (hf : FromF ops vals E0 ⟨none, .store T (.tmp t) x, ty, pos, after, none⟩ E) (hx : E.at x = some dx) (hle : Le dx V.f)
      (hsz : SizeIs P T V.m) (hl : V.zs.length = V.m) (h1 : Agg V.m V.f) : KofOk P B ops vals vs E0 i ⟨none, .store T (.tmp t) x, ty, pos, after, none⟩
inductive Kofs (P : Program) (B : Nat) (ops : Array Oper) (vals : List (Option D)) (vs : List VarF) (E0 : Env) : Nat → List Oper → Prop
  | nil {i : Nat} : Kofs P B ops vals vs E0 i []
  | cons {i : Nat} {o : Oper} {rest : List Oper} (h : KofOk P B ops vals vs E0 i o) (hr : Kofs P B ops vals vs E0 (i + 1) rest) : Kofs P B ops vals vs E0 i (o :: rest)
def varsOkF (ops : Array Oper) (vals : List (Option D)) (vs : List VarF) : Bool := (List.range vs.length).all fun j => match vs[j]? with
  | none => false
  | some V => ((ops[V.a]?).bind (·.dst) == some V.t) && (match vals[V.a]? with | some none => true | _ => false) && (match vals[V.s]? with | some none => true | _ => false) && decide (V.a < ops.size) && decide (V.s < ops.size) && V.a != V.s && (List.range vs.length).all fun j' => match vs[j']? with
    | none => false
    | some V' => j == j' || (V.a != V'.a && V.s != V'.s && V.a != V'.s && V.s != V'.a)
section
variable {P : Program} {n B : Nat} {ops : Array Oper} {κ : Cx} {Q : Exit → Act → World → Prop} {vals : List (Option D)} {vs : List VarF} {E0 : Env}
theorem Kofs.nth {k : Nat} {l : List Oper} (h : Kofs P B ops vals vs E0 k l) : ∀ {i : Nat} {o : Oper}, l[i]? = some o → KofOk P B ops vals vs E0 (k + i) o := by
  induction h with
  | nil => intro i o hi; simp at hi
  | @cons k o0 rest h _ ih =>
    intro i o hi
    cases i with
    | zero => simp at hi; subst hi; exact h
    | succ i =>
      have := ih (i := i) (by simpa using hi)
      rwa [show k + (i + 1) = k + 1 + i from by omega]
theorem varsOkF_get (h : varsOkF ops vals vs = true) {j : Nat} {V : VarF} (hj : vs[j]? = some V) : (ops[V.a]?).bind (·.dst) = some V.t ∧ vals[V.a]? = some none ∧ vals[V.s]? = some none ∧ V.a < ops.size ∧ V.s < ops.size ∧ V.a ≠ V.s ∧ ∀ j' V', vs[j']? = some V' → j ≠ j' → V.a ≠ V'.a ∧ V.s ≠ V'.s ∧ V.a ≠ V'.s ∧ V.s ≠ V'.a := by
  have hlt : j < vs.length := (List.getElem?_eq_some_iff.1 hj).1
  have h1 := List.all_eq_true.1 h j (List.mem_range.2 hlt)
  simp only [hj, Bool.and_eq_true] at h1
  obtain ⟨⟨⟨⟨⟨⟨h2, h3⟩, h4⟩, h5⟩, h6⟩, h7⟩, h8⟩ := h1
  refine ⟨by simpa using h2, ?_, ?_, by simpa using h5, by simpa using h6, by simpa using h7, fun j' V' hj' hne => ?_⟩
  · cases hx : vals[V.a]? with
    | none => rw [hx] at h3; cases h3
    | some x => rw [hx] at h3; cases x with
      | none => rfl
      | some _ => cases h3
  · cases hx : vals[V.s]? with
    | none => rw [hx] at h4; cases h4
    | some x => rw [hx] at h4; cases x with
      | none => rfl
      | some _ => cases h4
  · have h9 := List.all_eq_true.1 h8 j' (List.mem_range.2 (List.getElem?_eq_some_iff.1 hj').1)
    simp only [hj', Bool.or_eq_true, beq_iff_eq, Bool.and_eq_true, bne_iff_ne, ne_eq] at h9
    rcases h9 with h9 | h9
    · exact absurd h9 hne
    · exact ⟨h9.1.1.1, h9.1.1.2, h9.1.2, h9.2⟩
/-- What the variable's block holds: before it was given its value, and behind. -/
def VarF.At (V : VarF) (b : Nat) (w : World) : Bool → Prop
  | true => ∃ cs : List Value, cs.length = V.m ∧ cs.all (·.oneCell') = true ∧ w.heap[b]? = some (.cells cs.toArray V.T (0, 0)) ∧ V.f.Of w (aggV cs)
  | false => w.heap[b]? = some (.cells V.zs.toArray V.T (0, 0))
theorem VarF.At.grow {V : VarF} {b : Nat} {w w' : World} {done : Bool} (h : V.At b w done) (hb : b < w.heap.size) (g : Grow w w') : V.At b w' done := by
  cases done with
  | true => obtain ⟨cs, h1, h2, h3, h4⟩ := h; exact ⟨cs, h1, h2, by rw [g.block _ hb]; exact h3, h4.grow g⟩
  | false => exact (g.block _ hb).trans h
theorem VarF.At.wrote {V : VarF} {b B' T g : Nat} {w w' : World} {done : Bool} (h : V.At b w done) (hne : b ≠ g) (hb : b < w.heap.size) (k : Wrote B' T g w w') (hs : Surv B' T g V.f) : V.At b w' done := by
  cases done with
  | true => obtain ⟨cs, h1, h2, h3, h4⟩ := h; exact ⟨cs, h1, h2, (k.other b hb hne).trans h3, hs _ _ _ k h4⟩
  | false => exact (k.other b hb hne).trans h
structure InvF (κ : Cx) (n B : Nat) (ops : Array Oper) (vals : List (Option D)) (vs : List VarF) (E0 : Env) (w1 : World) (listed : Array Bool) (a : Act) (w : World) : Prop where
  base : B ≤ w1.heap.size
  bel : Below w1.heap.size w1 w
  defers : a.defers = κ.df
  size : a.tmps.size = n
  facts : ∀ t d, E0.look t = some d → d.OfB w1.heap.size w (a.tmps.getD t undef)
  lsize : listed.size = ops.size
  got : ∀ (i : Nat) (o : Oper) (t : Nat) (v : D), ops[i]? = some o → listed.getD i false = true → o.dst = some t → vals[i]? = some (some v) → v.Of w (a.tmps.getD t undef) ∧ SurvF vs B v
  cl : ∀ (j : Nat) (V : VarF), vs[j]? = some V → listed.getD V.s false = true → listed.getD V.a false = true
  var : ∃ bs : Nat → Nat, (∀ (j : Nat) (V : VarF), vs[j]? = some V → listed.getD V.a false = true → w1.heap.size ≤ bs j ∧ bs j < w.heap.size ∧ a.tmps.getD V.t undef = .pointer (some ⟨bs j, 0, none⟩) ∧ V.At (bs j) w (listed.getD V.s false)) ∧
    ∀ (j j' : Nat) (V V' : VarF), vs[j]? = some V → vs[j']? = some V' → listed.getD V.a false = true → listed.getD V'.a false = true → j ≠ j' → bs j ≠ bs j'
theorem InvF.st {w1 : World} {listed : Array Bool} {a : Act} {w : World} (I : InvF κ n B ops vals vs E0 w1 listed a w) : St κ n B E0 a w :=
  ⟨Nat.le_trans I.base I.bel.size, I.defers, I.size, fun t d hl => D.OfB.up (I.facts t d hl) I.bel.size⟩
theorem setF_self {listed : Array Bool} {i : Nat} (h : i < listed.size) : (listed.setIfInBounds i true).getD i false = true := by simp [h]
theorem wp_varsF (hn0 : n ≤ vbase) (hfit : fits n ops = true) (hd : downsN ops = true) (hv : varsOkF ops vals vs = true) (hn : Kofs P B ops vals vs E0 0 ops.toList) (hsv : ∀ V ∈ vs, SurvF vs B V.f) {w1 : World}
    (hQ : ∀ l a' w', InvF κ n B ops vals vs E0 w1 l a' w' → (∀ i, i < ops.size → l.getD i false = true) → Q .normal a' w') :
    ∀ (fuel : Nat) (listed : Array Bool) (a : Act) (w : World), unlisted ops listed ≤ fuel → InvF κ n B ops vals vs E0 w1 listed a w → wpAnyIn (FR κ.rd) 0 P .any ops Q fuel listed a w := by
  have hmin : ∀ (listed : Array Bool), listed.size = ops.size → Region.ready .any ops listed = [] → ∀ i, i < ops.size → listed.getD i false = true := by
    intro listed hl hr i
    induction i using Nat.strongRecOn with
    | _ i ih =>
      intro hi
      rcases hb : listed.getD i false with _ | _
      · exfalso
        have hdi := (downs_get hd (Array.getElem?_eq_getElem hi)).2.1
        have : i ∈ Region.ready .any ops listed := by
          rw [mem_ready]
          refine ⟨?_, ops[i], Array.getElem?_eq_getElem hi, fun e he hbd => ih e.on (hdi e he hbd) (Nat.lt_trans (hdi e he hbd) hi)⟩
          have : i < listed.size := by rw [hl]; exact hi
          simp [this] at hb ⊢
          exact hb
        rw [hr] at this
        cases this
      · rfl
  intro fuel
  induction fuel with
  | zero =>
    intro listed a w hc I
    have hr : Region.ready .any ops listed = [] := by
      rcases hr : Region.ready .any ops listed with _ | ⟨i, l⟩
      · rfl
      · exfalso
        have hi : i ∈ Region.ready .any ops listed := by rw [hr]; exact List.mem_cons_self
        obtain ⟨hu, o, ho, _⟩ := mem_ready.1 hi
        have hpos : 0 < unlisted ops listed := List.countP_pos_iff.2 ⟨i, List.mem_range.2 (Array.getElem?_eq_some_iff.1 ho).1, by simp only [hu]; rfl⟩
        omega
    exact ⟨hr, hQ listed a w I (hmin listed I.lsize hr)⟩
  | succ fuel ih =>
    intro listed a w hc I
    refine ⟨fun hr => hQ listed a w I (hmin listed I.lsize hr), fun i hi => ?_⟩
    obtain ⟨hu, o, ho, hall⟩ := mem_ready.1 hi
    have hlt : i < ops.size := (Array.getElem?_eq_some_iff.1 ho).1
    have hli : i < listed.size := by rw [I.lsize]; exact hlt
    have huf : listed.getD i false = false := by
      have h1 : listed.getD i true = false := hu
      simp [hli] at h1 ⊢
      exact h1
    have hk := hn.nth (i := i) (o := o) (by simpa using ho)
    rw [Nat.zero_add] at hk
    obtain ⟨hg, _, hdis⟩ := downs_get hd ho
    have hst : ∀ {E : Env}, FromF ops vals E0 o E → ∀ t d, E.look t = some d → d.Of w (a.tmps.getD t undef) := fun {E} h => by
      induction h with
      | nil => intro t d hl; cases hl
      | all => exact fun t d hl => D.OfB.up (I.facts t d hl) I.bel.size
      | @op s v E j he hdj hvj _ ih =>
        intro t d hl
        by_cases hts : s = t
        · subst hts; rw [look_here] at hl; injection hl with hl; subst hl
          obtain ⟨e, he1, he2⟩ := Array.any_eq_true'.1 he
          simp only [Bool.and_eq_true, beq_iff_eq] at he2
          have hl := hall e he1 he2.1
          rw [he2.2] at hl
          cases hq : ops[j]? with
          | none => rw [hq] at hdj; cases hdj
          | some q =>
            rw [hq] at hdj
            exact (I.got j q _ _ hq hl hdj hvj).1
        · rw [look_past _ _ hts] at hl; exact ih t d hl
    have hE : ∀ {E : Env}, FromF ops vals E0 o E → St κ n B E a w := fun h => ⟨Nat.le_trans I.base I.bel.size, I.defers, I.size, fun t d hl => hst h t d hl⟩
    refine wpOpR_step ho fun K hK => ?_
    rw [if_pos (by simp [Region.wanted, hg])]
    have hcl : unlisted ops (listed.setIfInBounds i true) ≤ fuel := by
      have : unlisted ops (listed.setIfInBounds i true) < unlisted ops listed := by
        refine countP_lt (x := i) (fun y hy => ?_) (List.mem_range.2 hlt) (by simp only [hu]; rfl) ?_
        · by_cases hyi : i = y
          · subst hyi
            simp [hli] at hy
          · rw [getD_set_ne true hyi] at hy; exact hy
        · simp [hli]
      omega
    have hset : ∀ j, (listed.setIfInBounds i true).getD j false = true → j = i ∨ listed.getD j false = true := fun j hj => by
      by_cases hji : i = j
      · exact .inl hji.symm
      · rw [getD_set_ne false hji] at hj; exact .inr hj
    have hfar : ∀ j, j ≠ i → (listed.setIfInBounds i true).getD j false = listed.getD j false := fun j hj => getD_set_ne false (fun h => hj h.symm)
    obtain ⟨bs, hb1, hb2⟩ := I.var
    cases hk with
    | @pure _ t v E hvi hdt h0 hf hsd hok =>
      have htn : t < n := (fits_mem hfit (o := o) (by simpa using Array.mem_of_getElem? ho)).2 t hdt
      have hnot : ∀ (j : Nat) (V : VarF), vs[j]? = some V → V.a ≠ i ∧ V.s ≠ i ∧ V.t ≠ t := fun j V hj => by
        obtain ⟨h1, h2, h3, _⟩ := varsOkF_get hv hj
        have hai : V.a ≠ i := fun e => by rw [e, hvi] at h2; cases h2
        refine ⟨hai, fun e => (by rw [e, hvi] at h3; cases h3), fun e => ?_⟩
        cases hq : ops[V.a]? with
        | none => rw [hq] at h1; cases h1
        | some q =>
          rw [hq] at h1
          exact hdis V.a q hq hai (by rw [hdt]; simp) (by rw [hdt, show q.dst = some V.t from h1, e])
      have hs := hE hf
      refine wp_of_out hdt ((hok a.eval w hs.base (hs.virt hn0) fun x _ u hu => hs.at_ x _ hu).mono ?_)
      rintro x w' ⟨hgr, hx⟩
      refine hK _ _ (ih _ _ _ hcl ⟨I.base, I.bel.trans (Below.mono hgr I.bel.size), I.defers, by simp [Act.put, I.size], fun s d hs' => ?_, by simp [I.lsize], fun j q s u hj hl hds hvs => ?_, fun j V hj hl => ?_, bs, fun j V hj hl => ?_, fun j j' V V' hj hj' hl hl' => ?_⟩)
      · have hts : t ≠ s := fun e => by subst e; rw [h0] at hs'; cases hs'
        rw [getD_put_past _ _ hts]; exact (I.facts s d hs').keep (Below.mono hgr I.bel.size)
      · by_cases hji : j = i
        · subst hji
          rw [ho] at hj; injection hj with hj; subst hj
          rw [hdt] at hds; injection hds with hds; subst hds
          rw [hvi] at hvs; injection hvs with hvs; injection hvs with hvs; subst hvs
          rw [getD_put_here _ _ (by rw [I.size]; exact htn)]
          exact ⟨hx, hsd⟩
        · rw [hfar _ hji] at hl
          have hne : t ≠ s := fun he => hdis j q hj hji (by rw [hdt]; simp) (by rw [hdt, hds, he])
          rw [getD_put_past _ _ hne]
          obtain ⟨g1, g2⟩ := I.got j q s u hj hl hds hvs
          exact ⟨g1.grow hgr, g2⟩
      · obtain ⟨h1, h2, _⟩ := hnot j V hj
        rw [hfar _ h2] at hl
        rw [hfar _ h1]; exact I.cl j V hj hl
      · obtain ⟨h1, h2, h3⟩ := hnot j V hj
        rw [hfar _ h1] at hl
        obtain ⟨g1, g2, g3, g4⟩ := hb1 j V hj hl
        rw [hfar _ h2]
        exact ⟨g1, Nat.lt_of_lt_of_le g2 hgr.size, by rw [getD_put_past _ _ (fun e => h3 e.symm)]; exact g3, g4.grow g2 hgr⟩
      · rw [hfar _ (hnot j V hj).1] at hl
        rw [hfar _ (hnot j' V' hj').1] at hl'
        exact hb2 j j' V V' hj hj' hl hl'
    | @alloc t T ty pos after V j0 hV ha hT ht hz h0 =>
      subst ha hT ht
      have hds := (varsOkF_get hv hV).2.2.2.2.2.2
      have hns : V.s ≠ V.a := fun e => (varsOkF_get hv hV).2.2.2.2.2.1 e.symm
      have htn : V.t < n := (fits_mem hfit (o := ⟨some V.t, .alloc V.T, ty, pos, after, none⟩) (by simpa using Array.mem_of_getElem? ho)).2 V.t rfl
      have hrun : (execOp a.eval ⟨some V.t, .alloc V.T, ty, pos, after, none⟩).run P w = .ok (.value (.pointer (some ⟨w.heap.size, 0, none⟩))) (w.alloc (.cells V.zs.toArray V.T)) := by
        obtain ⟨i, z, hi, hz, hc⟩ := hz.get
        simp [execOp, Instr.alloc, zeroValue, typeInfo, hi, hz, newVar, newRow, hc]
      refine opR (not_defer hrun) ?_
      unfold Oper.wp
      rw [hrun, Oper.upon_value]
      have hgr : Grow w (w.alloc (.cells V.zs.toArray V.T)) := Grow.alloc w _
      have hlt1 : w.heap.size < (w.alloc (.cells V.zs.toArray V.T)).heap.size := by simp
      have hother : ∀ (j : Nat) (V' : VarF), vs[j]? = some V' → j ≠ j0 → V'.a ≠ V.a ∧ V'.s ≠ V.a ∧ V'.t ≠ V.t := fun j V' hj hne => by
        obtain ⟨h1, h2, h3, h4⟩ := hds j V' hj (fun e => hne e.symm)
        refine ⟨fun e => h1 e.symm, fun e => h3 e.symm, fun e => ?_⟩
        obtain ⟨g1, _⟩ := varsOkF_get hv hj
        cases hq : ops[V'.a]? with
        | none => rw [hq] at g1; cases g1
        | some q =>
          rw [hq] at g1
          exact hdis V'.a q hq (fun e => h1 e.symm) (by simp) (by rw [show q.dst = some V'.t from g1, e])
      have hsu : listed.getD V.s false = false := by
        rcases hb : listed.getD V.s false with _ | _
        · rfl
        · rw [I.cl j0 V hV hb] at huf; cases huf
      refine hK _ _ (ih _ _ _ hcl ⟨I.base, I.bel.trans (Below.mono hgr I.bel.size), I.defers, by simp [Act.put, I.size], fun s d hs' => ?_, by simp [I.lsize], fun j q s u hj hl hds hvs => ?_, fun j V' hj hl => ?_, fun j => if j = j0 then w.heap.size else bs j, fun j V' hj hl => ?_, fun j j' V' V'' hj hj' hl hl' hne => ?_⟩)
      · have hts : V.t ≠ s := fun e => by subst e; rw [h0] at hs'; cases hs'
        rw [getD_put_past _ _ hts]; exact (I.facts s d hs').keep (Below.mono hgr I.bel.size)
      · have hji : j ≠ V.a := fun e => by
          subst e
          rw [(varsOkF_get hv hV).2.1] at hvs; cases hvs
        rw [hfar _ hji] at hl
        have hne : V.t ≠ s := fun he => hdis j q hj hji (by simp) (by rw [hds, he])
        rw [getD_put_past _ _ hne]
        obtain ⟨g1, g2⟩ := I.got j q s u hj hl hds hvs
        exact ⟨g1.grow hgr, g2⟩
      · by_cases hj0 : j = j0
        · subst hj0; rw [hV] at hj; injection hj with hj; subst hj
          exact setF_self hli
        · obtain ⟨h1, h2, _⟩ := hother j V' hj hj0
          rw [hfar _ h2] at hl
          rw [hfar _ h1]; exact I.cl j V' hj hl
      · by_cases hj0 : j = j0
        · subst hj0; rw [hV] at hj; injection hj with hj; subst hj
          dsimp only
          rw [if_pos rfl, hfar _ hns, hsu]
          exact ⟨I.bel.size, hlt1, by rw [getD_put_here _ _ (by rw [I.size]; exact htn)], by simpa [VarF.At] using heap_alloc_new w _⟩
        · obtain ⟨h1, h2, h3⟩ := hother j V' hj hj0
          rw [hfar _ h1] at hl
          obtain ⟨g1, g2, g3, g4⟩ := hb1 j V' hj hl
          dsimp only
          rw [if_neg hj0, hfar _ h2]
          exact ⟨g1, Nat.lt_of_lt_of_le g2 hgr.size, by rw [getD_put_past _ _ (fun e => h3 e.symm)]; exact g3, g4.grow g2 hgr⟩
      · show (if j = j0 then w.heap.size else bs j) ≠ if j' = j0 then w.heap.size else bs j'
        by_cases hj0 : j = j0
        · rw [if_pos hj0, if_neg (fun e => hne (by rw [hj0, e]))]
          rw [hfar _ (hother j' V'' hj' (fun e => hne (by rw [hj0, e]))).1] at hl'
          have := (hb1 j' V'' hj' hl').2.1
          omega
        · rw [if_neg hj0]
          rw [hfar _ (hother j V' hj hj0).1] at hl
          by_cases hj0' : j' = j0
          · rw [if_pos hj0']
            have := (hb1 j V' hj hl).2.1
            omega
          · rw [if_neg hj0']
            rw [hfar _ (hother j' V'' hj' hj0').1] at hl'
            exact hb2 j j' V' V'' hj hj' hl hl' hne
    | @store t T ty x pos after V dx j0 E hV hs hT ht he hf hx hle hsz hl0 hag =>
      subst hs hT ht
      have hds := (varsOkF_get hv hV).2.2.2.2.2.2
      have hna : V.a ≠ V.s := (varsOkF_get hv hV).2.2.2.2.2.1
      have hla : listed.getD V.a false = true := by
        obtain ⟨e, he1, he2⟩ := Array.any_eq_true'.1 he
        simp only [Bool.and_eq_true, beq_iff_eq] at he2
        have hl := hall e he1 he2.1
        rwa [he2.2] at hl
      obtain ⟨g1, g2, g3, g4⟩ := hb1 j0 V hV hla
      rw [huf] at g4
      have g4 : w.heap[bs j0]? = some (.cells V.zs.toArray V.T (0, 0)) := g4
      have hp' : a.eval (.tmp V.t) = .pointer (some ⟨bs j0, 0, none⟩) := g3
      have hfx := hle.of ((hE hf).at_ x _ hx)
      obtain ⟨cs, hx', hcm, h1⟩ := hag _ _ _ hfx
      have hVm : V ∈ vs := List.mem_of_getElem? hV
      have hrun : (execOp a.eval ⟨none, .store V.T (.tmp V.t) x, ty, pos, after, none⟩).run P w = .ok .skip (w.setRow (bs j0) cs.toArray) := by
        have := run_storeVar_row (P := P) w (bs j0) V.T V.T V.zs.toArray cs.toArray g4 (by simpa [SizeIs, hcm] using hsz) (by simpa [hcm] using hl0) (by simpa using h1)
        simp [execOp, hp', hx', Instr.storeAt, Instr.sureAddr, aggV, this]
      refine opR (by nofun) ?_
      unfold Oper.wp
      rw [hrun, Oper.upon_skip]
      have hput : a.put (none : Option Tmp) undef = a := rfl
      try rw [hput]
      have hwr := Wrote.setRow (B := w1.heap.size) g1 g4 cs.toArray
      have hbw : Below w1.heap.size w (w.setRow (bs j0) cs.toArray) := hwr.below I.bel.size
      have hsame : ∀ k, k ≠ bs j0 → (w.setRow (bs j0) cs.toArray).heap[k]? = w.heap[k]? := fun k hk => setRow_other w (bs j0) k cs.toArray hk
      have hhere : (w.setRow (bs j0) cs.toArray).heap[bs j0]? = some (.cells cs.toArray V.T (0, 0)) := by simp [World.setRow, Array.getElem?_modify, g4]
      have hsz' : (w.setRow (bs j0) cs.toArray).heap.size = w.heap.size := by simp [World.setRow]
      have hother : ∀ (j : Nat) (V' : VarF), vs[j]? = some V' → j ≠ j0 → V'.a ≠ V.s ∧ V'.s ≠ V.s := fun j V' hj hne => by
        obtain ⟨h1, h2, h3, h4⟩ := hds j V' hj (fun e => hne e.symm)
        exact ⟨fun e => h4 e.symm, fun e => h2 e.symm⟩
      refine hK _ _ (ih _ _ _ hcl ⟨I.base, I.bel.trans hbw, I.defers, I.size, fun s d hs' => (I.facts s d hs').keep hbw, by simp [I.lsize], fun j q s u hj hl hds hvs => ?_, fun j V' hj hl => ?_, bs, fun j V' hj hl => ?_, fun j j' V' V'' hj hj' hl hl' hne => ?_⟩)
      · have hji : j ≠ V.s := fun e => by
          subst e
          rw [(varsOkF_get hv hV).2.2.1] at hvs; cases hvs
        rw [hfar _ hji] at hl
        obtain ⟨k1, k2⟩ := I.got j q s u hj hl hds hvs
        exact ⟨k2 V hVm w1.heap.size (bs j0) (Nat.le_trans I.base g1) _ _ _ hwr k1, k2⟩
      · by_cases hj0 : j = j0
        · subst hj0; rw [hV] at hj; injection hj with hj; subst hj
          rw [hfar _ hna]; exact hla
        · obtain ⟨h1, h2⟩ := hother j V' hj hj0
          rw [hfar _ h2] at hl
          rw [hfar _ h1]; exact I.cl j V' hj hl
      · by_cases hj0 : j = j0
        · subst hj0; rw [hV] at hj; injection hj with hj; subst hj
          rw [setF_self hli]
          rw [hx'] at hfx
          exact ⟨g1, by rw [hsz']; exact g2, g3, cs, hcm, h1, hhere, hsv V hVm V hVm w1.heap.size _ (Nat.le_trans I.base g1) _ _ _ hwr hfx⟩
        · obtain ⟨h1, h2⟩ := hother j V' hj hj0
          rw [hfar _ h1] at hl
          obtain ⟨k1, k2, k3, k4⟩ := hb1 j V' hj hl
          rw [hfar _ h2]
          exact ⟨k1, by rw [hsz']; exact k2, k3, k4.wrote (hb2 j j0 V' V hj hV hl hla hj0) k2 hwr (hsv V' (List.mem_of_getElem? hj) V hVm w1.heap.size (bs j0) (Nat.le_trans I.base g1))⟩
      · have e1 : ∀ {j : Nat} {V' : VarF}, vs[j]? = some V' → (listed.setIfInBounds V.s true).getD V'.a false = true → listed.getD V'.a false = true := fun {j V'} hj hl => by
          by_cases hj0 : j = j0
          · subst hj0; rw [hV] at hj; injection hj with hj; subst hj; exact hla
          · rwa [hfar _ (hother j V' hj hj0).1] at hl
        exact hb2 j j' V' V'' hj hj' (e1 hj hl) (e1 hj' hl') hne
/-- The environment that the new variables give. -/
def varEnvF (bs : Nat → Nat) : Nat → List VarF → Env → Env
  | _, [], E => E
  | j, V :: r, E => (V.t, .v (.pointer (some ⟨bs j, 0, none⟩))) :: (1000000 + V.t, varK (bs j) V.T V.m V.f) :: varEnvF bs (j + 1) r E
theorem varEnvF_look {bs : Nat → Nat} {E : Env} {t : Nat} {d : D} : ∀ {l : List VarF} {j : Nat}, (varEnvF bs j l E).look t = some d → (∃ k V, l[k]? = some V ∧ ((t = V.t ∧ d = .v (.pointer (some ⟨bs (j + k), 0, none⟩))) ∨ (t = 1000000 + V.t ∧ d = varK (bs (j + k)) V.T V.m V.f))) ∨ E.look t = some d
  | [], _, h => .inr h
  | V :: r, j, h => by
    unfold varEnvF at h
    by_cases h1 : V.t = t
    · subst h1; rw [look_here] at h; injection h with h
      exact .inl ⟨0, V, rfl, .inl ⟨rfl, h.symm⟩⟩
    · rw [look_past _ _ h1] at h
      by_cases h2 : 1000000 + V.t = t
      · subst h2; rw [look_here] at h; injection h with h
        exact .inl ⟨0, V, rfl, .inr ⟨rfl, h.symm⟩⟩
      · rw [look_past _ _ h2] at h
        rcases varEnvF_look h with ⟨k, V', h3, h4⟩ | h3
        · exact .inl ⟨k + 1, V', by simpa using h3, by rw [show j + (k + 1) = j + 1 + k from by omega]; exact h4⟩
        · exact .inr h3
theorem A.regsVF {w₀ : World} {y : Code} {E1 : Env} {id : Nat} (vals : List (Option D)) (vs : List VarF) (hm : P.follows .mixedOrders = true) (hfit : fits n ops = true) (hd : downsN ops = true) (hv : varsOkF ops vals vs = true) (hn : Kofs P w₀.heap.size ops vals vs E0 0 ops.toList) (hsv : ∀ V ∈ vs, SurvF vs w₀.heap.size V.f) (hf : FromFW ops vals E0 E1)
    (h : ∀ bs : Nat → Nat, (∀ j, j < vs.length → NewK w₀.heap.size E0 (bs j)) → (∀ j j', j < vs.length → j' < vs.length → j ≠ j' → bs j ≠ bs j') → A κ P w₀ n y (varEnvF bs 0 vs E1) Q) : A κ P w₀ n (.seq (.region id ops true) y) E0 Q := A.seq fun a w hg hst => by
  have hdr : Below w₀.heap.size w w.drew := (Below.refl _ w).drew
  have hn0 := fits_base hfit
  have hst' := hst.grow (Grow.refl w).drew
  have hfin : ∀ l a' w', InvF κ n w₀.heap.size ops vals vs E0 w.drew l a' w' → (∀ i, i < ops.size → l.getD i false = true) → Exit.then (y.wpIn (FR κ.rd) 0 P Q) Q .normal a' w' := fun l a' w' I hall => by
    have key : ∀ t d, E1.look t = some d → d.Of w' (a'.tmps.getD t undef) := by
      clear h
      induction hf with
      | all => exact I.st.of
      | @op s v E j hdj hvj _ ih =>
        intro t d hl
        by_cases hts : s = t
        · subst hts; rw [look_here] at hl; injection hl with hl; subst hl
          cases hq : ops[j]? with
          | none => rw [hq] at hdj; cases hdj
          | some q =>
            rw [hq] at hdj
            exact (I.got j q _ _ hq (hall j (Array.getElem?_eq_some_iff.1 hq).1) hdj hvj).1
        · rw [look_past _ _ hts] at hl; exact ih t d hl
    obtain ⟨bs, hb1, hb2⟩ := I.var
    have hla : ∀ (j : Nat) (V : VarF), vs[j]? = some V → l.getD V.a false = true := fun j V hj => hall _ (varsOkF_get hv hj).2.2.2.1
    have hls : ∀ (j : Nat) (V : VarF), vs[j]? = some V → l.getD V.s false = true := fun j V hj => hall _ (varsOkF_get hv hj).2.2.2.2.1
    refine h bs (fun j hj => ?_) (fun j j' hj hj' hne => hb2 j j' _ _ (List.getElem?_eq_getElem hj) (List.getElem?_eq_getElem hj') (hla _ _ (List.getElem?_eq_getElem hj)) (hla _ _ (List.getElem?_eq_getElem hj')) hne) a' w' (hg.trans (hdr.trans (Below.mono I.bel I.base))) ⟨Nat.le_trans I.base I.bel.size, I.defers, I.size, fun t d hl => ?_⟩
    · have hk := (hb1 j _ (List.getElem?_eq_getElem hj) (hla _ _ (List.getElem?_eq_getElem hj))).1
      exact ⟨Nat.le_trans I.base hk, fun s b' e xs hs => Nat.lt_of_lt_of_le (hst'.of s _ hs).1 hk, fun s b' e m d hs => Nat.lt_of_lt_of_le (hst'.of s _ hs).1 hk⟩
    · rcases varEnvF_look hl with ⟨k, V, hk, hd'⟩ | hl
      · rw [Nat.zero_add] at hd'
        obtain ⟨g1, g2, g3, g4⟩ := hb1 k V hk (hla k V hk)
        rw [hls k V hk] at g4
        rcases hd' with ⟨rfl, rfl⟩ | ⟨rfl, rfl⟩
        · exact g3
        · exact ⟨g2, g4⟩
      · exact key t d hl
  refine wpIn_region_any hm (wp_varsF hn0 hfit hd hv hn hsv hfin _ _ _ _ ?_ ⟨hst'.base, Below.refl _ _, hst'.defers, hst'.size, fun t d hl => hst'.of t d hl, by simp, fun i o t v hi hl => ?_, fun j V hj hl => ?_, fun _ => 0, fun j V hj hl => ?_, fun j j' V V' hj _ hl => ?_⟩)
  · refine Nat.le_trans List.countP_le_length ?_
    simp
  · simp [(Array.getElem?_eq_some_iff.1 hi).1] at hl
  · simp [(varsOkF_get hv hj).2.2.2.2.1] at hl
  · simp [(varsOkF_get hv hj).2.2.2.1] at hl
  · simp [(varsOkF_get hv hj).2.2.2.1] at hl
/-! ### The same, operation by operation -/
theorem FromF.more {vals : List (Option D)} {o : Oper} {E : Env} {pre : List (Option D)} (hp : ∀ (j : Nat) (v : Option D), pre[j]? = some v → vals[j]? = some v) (h : FromF ops pre E0 o E) : FromF ops vals E0 o E := by
  induction h with
  | nil => exact .nil
  | all => exact .all
  | op j he hd hv _ ih => exact .op j he hd (hp _ _ hv) ih
/-- From here on; pre is what is known of what the operations before have yielded. -/
def KofsK (P : Program) (B : Nat) (ops : Array Oper) (vs : List VarF) (E0 : Env) (rest : List Oper) (pre : List (Option D)) (C : List (Option D) → Prop) : Prop :=
  ∃ vals : List (Option D), (∀ (j : Nat) (v : Option D), pre[j]? = some v → vals[j]? = some v) ∧ Kofs P B ops vals vs E0 pre.length rest ∧ C vals
theorem KofsK.nil {pre : List (Option D)} {C : List (Option D) → Prop} (h : C pre) : KofsK P B ops vs E0 [] pre C := ⟨pre, fun _ _ h => h, .nil, h⟩
theorem KofsK.pure {o : Oper} {rest : List Oper} {pre : List (Option D)} {C : List (Option D) → Prop} {t : Nat} {v : D} (E : Env) (hd : o.dst = some t) (h0 : E0.look t = none) (hf : FromF ops pre E0 o E) (hok : OpOk P B o E v) (hs : SurvF vs B v)
    (hr : KofsK P B ops vs E0 rest (pre ++ [some v]) C) : KofsK P B ops vs E0 (o :: rest) pre C := by
  obtain ⟨vals, h1, h2, h3⟩ := hr
  obtain ⟨h4, h5⟩ := pre_snoc h1
  exact ⟨vals, h4, .cons (.pure E h5 hd h0 (hf.more h4) hs hok) (by simpa using h2), h3⟩
theorem KofsK.alloc {rest : List Oper} {pre : List (Option D)} {C : List (Option D) → Prop} {t : Tmp} {T ty : TypeId} {pos : String} {after : Array Edge} {V : VarF} (j : Nat) (hV : vs[j]? = some V) (ha : V.a = pre.length) (hT : V.T = T) (ht : V.t = t) (hz : ZeroIs P T V.zs) (h0 : E0.look t = none)
    (hr : KofsK P B ops vs E0 rest (pre ++ [none]) C) : KofsK P B ops vs E0 (⟨some t, .alloc T, ty, pos, after, none⟩ :: rest) pre C := by
  obtain ⟨vals, h1, h2, h3⟩ := hr
  obtain ⟨h4, _⟩ := pre_snoc h1
  exact ⟨vals, h4, .cons (.alloc j hV ha hT ht hz h0) (by simpa using h2), h3⟩
theorem KofsK.store {rest : List Oper} {pre : List (Option D)} {C : List (Option D) → Prop} {t T ty : TypeId} {x : Operand} {pos : String} {after : Array Edge} {V : VarF} {dx : D} (j : Nat) (E : Env) (hV : vs[j]? = some V) (hs : V.s = pre.length) (hT : V.T = T) (ht : V.t = t) (he : (after.any fun e => Region.binds .any e && e.on == V.a) = true)
    (hf : FromF ops pre E0 ⟨none, .store T (.tmp t) x, ty, pos, after, none⟩ E) (hx : E.at x = some dx) (hle : Le dx V.f) (hsz : SizeIs P T V.m) (hl : V.zs.length = V.m) (h1 : Agg V.m V.f)
    (hr : KofsK P B ops vs E0 rest (pre ++ [none]) C) : KofsK P B ops vs E0 (⟨none, .store T (.tmp t) x, ty, pos, after, none⟩ :: rest) pre C := by
  obtain ⟨vals, g1, g2, g3⟩ := hr
  obtain ⟨g4, _⟩ := pre_snoc g1
  exact ⟨vals, g4, .cons (.store j E hV hs hT ht he (hf.more g4) hx hle hsz hl h1) (by simpa using g2), g3⟩
theorem SurvF.nil {vs : List VarF} {P : VarF → Prop} (h : vs = []) : ∀ V ∈ vs, P V := fun V hV => by subst h; cases hV
theorem SurvF.cons {V : VarF} {vs : List VarF} {Q : VarF → Prop} (h : Q V) (hr : ∀ W ∈ vs, Q W) : ∀ W ∈ V :: vs, Q W := fun W hW => by
  rcases List.mem_cons.1 hW with rfl | hW
  · exact h
  · exact hr W hW
theorem A.regsF {w₀ : World} {y : Code} {id : Nat} (vs : List VarF) (hm : P.follows .mixedOrders = true) (hfit : fits n ops = true) (hd : downsN ops = true) (hsv : ∀ V ∈ vs, SurvF vs w₀.heap.size V.f)
    (h : KofsK P w₀.heap.size ops vs E0 ops.toList [] fun vals => varsOkF ops vals vs = true ∧ ∃ E1, FromFW ops vals E0 E1 ∧ ∀ bs : Nat → Nat, (∀ j, j < vs.length → NewK w₀.heap.size E0 (bs j)) → (∀ j j', j < vs.length → j' < vs.length → j ≠ j' → bs j ≠ bs j') → A κ P w₀ n y (varEnvF bs 0 vs E1) Q) : A κ P w₀ n (.seq (.region id ops true) y) E0 Q := by
  obtain ⟨vals, _, h2, h3, E1, h4, h5⟩ := h
  exact A.regsVF vals vs hm hfit hd h3 h2 hsv h4 h5
end
end Go.Proofs.Ytggijkmlmklneaa
namespace Go.Proofs.Ytggijkmlmklneaa
open Go Go.RowKit
set_option linter.unusedVariables false
set_option linter.unusedSimpArgs false
variable {κ : Cx}
section
variable {P : Program} {B : Nat} {E : Env} {dst : Option Tmp} {ty : TypeId} {pos : String} {after : Array Edge} {guard : Option (Nat × Bool)}
/-- An argument that is told exactly, by what is known of its last cell on memory. -/
theorem OpOk.tell {o : Oper} {t k : Nat} {pre : List Value} {v : Value} {f d : D} {cs : List Value} (htv : t < vbase) (ht : E.look t = some (.v (aggV cs))) (hcs : cs = pre ++ [v]) (hv1 : v.oneCell' = true) (hkv : vbase ≤ k) (hk : E.look k = some (valM v f)) (h : OpOk P B o ((t, tlD pre f) :: E) d) : OpOk P B o E d := fun ρ w hB hv hρ => by
  refine h ρ w hB (fun s e hs hl => ?_) fun x hx e he => ?_
  · have hne : t ≠ s := by omega
    rw [look_past _ _ hne] at hl
    exact hv s e hs hl
  · cases x with
    | tmp s =>
      by_cases hts : t = s
      · subst hts
        simp only [Env.at] at he
        rw [look_here] at he; injection he with he; subst he
        have h1 : ρ (.tmp t) = aggV cs := hρ (.tmp t) hx _ ht
        exact ⟨v, hv1, by rw [h1, hcs], hv k _ hkv hk⟩
      · simp only [Env.at] at he
        rw [look_past _ _ hts] at he
        exact hρ (.tmp s) hx e he
    | const c => exact hρ (.const c) hx e he
    | global g => exact hρ (.global g) hx e he
    | func f => exact hρ (.func f) hx e he
end
section
variable {P : Program} {n B : Nat} {ops : Array Oper} {E : Env} {ty : TypeId} {pos : String} {after : Array Edge}
end
section
variable {P : Program} {w₀ : World} {n : Nat} {c : Code} {E : Env} {Q : Exit → Act → World → Prop}
end
end Go.Proofs.Ytggijkmlmklneaa
namespace Go.Proofs.Ytggijkmlmklneaa
open Go Go.RowKit
variable {κ : Cx}

theorem vL {k : Nat} (h : Nat.ble vbase k = true) : vbase ≤ k := Nat.le_of_ble_eq_true h
/-! ### Several blocks are written -/
/-- At most the blocks that gs names (each with its cells' type) have changed of what was there. -/
structure WroteL (gs : List (TypeId × Nat)) (w w' : World) : Prop where
  os : w'.os = w.os
  tape : w'.tape = w.tape
  output : w'.output = w.output
  size : w.heap.size ≤ w'.heap.size
  lt : ∀ p ∈ gs, p.2 < w.heap.size
  cel : ∀ p ∈ gs, ∀ o, w.heap[p.2]? = some o → ∃ cs fr, o = .cells cs p.1 fr
  other : ∀ k, k < w.heap.size → (∀ p ∈ gs, k ≠ p.2) → w'.heap[k]? = w.heap[k]?
theorem WroteL.refl {gs : List (TypeId × Nat)} {w : World} (h : ∀ p ∈ gs, p.2 < w.heap.size) (hc : ∀ p ∈ gs, ∀ o, w.heap[p.2]? = some o → ∃ cs fr, o = .cells cs p.1 fr) : WroteL gs w w :=
  ⟨rfl, rfl, rfl, Nat.le_refl _, h, hc, fun _ _ _ => rfl⟩
/-- A fact that survives a write of each of them survives that of all. -/
theorem WroteL.keep {B : Nat} {d : D} : ∀ {gs : List (TypeId × Nat)}, (∀ p ∈ gs, B ≤ p.2) → (∀ p ∈ gs, Surv B p.1 p.2 d) → ∀ {w w' : World} {x : Value}, WroteL gs w w' → d.Of w x → d.Of w' x
  | [], _, _, w, w', x, h, hx => D.Of.grow hx ⟨h.os, h.tape, h.output, h.size, fun k hk => h.other k hk (fun _ hp => by cases hp)⟩
  | p :: gs, hB, hs, w, w', x, h, hx => by
    have hlt := h.lt p List.mem_cons_self
    have hlt' : p.2 < w'.heap.size := Nat.lt_of_lt_of_le hlt h.size
    obtain ⟨wm, e1, e2, e3, e4, hat⟩ : ∃ wm : World, wm.os = w'.os ∧ wm.tape = w'.tape ∧ wm.output = w'.output ∧ wm.heap.size = w'.heap.size ∧ ∀ k, wm.heap[k]? = if k = p.2 then w.heap[k]? else w'.heap[k]? :=
      ⟨{ w' with heap := w'.heap.setIfInBounds p.2 w.heap[p.2] }, rfl, rfl, rfl, by simp, fun k => by
        show (w'.heap.setIfInBounds p.2 w.heap[p.2])[k]? = _
        split
        · rename_i hk; subst hk; simp [hlt', hlt]
        · rename_i hk; exact Array.getElem?_setIfInBounds_ne (fun e => hk e.symm)⟩
    have h1 : WroteL gs w wm := ⟨e1.trans h.os, e2.trans h.tape, e3.trans h.output, by rw [e4]; exact h.size, fun q hq => h.lt q (List.mem_cons_of_mem _ hq), fun q hq => h.cel q (List.mem_cons_of_mem _ hq), fun k hk hne => by
      rw [hat]
      split
      · rfl
      · rename_i hkp
        exact h.other k hk fun q hq => by
          rcases List.mem_cons.1 hq with rfl | hq
          · exact hkp
          · exact hne q hq⟩
    have h2 := WroteL.keep (fun q hq => hB q (List.mem_cons_of_mem _ hq)) (fun q hq => hs q (List.mem_cons_of_mem _ hq)) h1 hx
    refine hs p List.mem_cons_self wm w' x ⟨hB p List.mem_cons_self, e1.symm, e2.symm, e3.symm, Nat.le_of_eq e4, fun o ho => ?_, fun k hk hne => ?_⟩ h2
    · rw [hat, if_pos rfl] at ho
      exact h.cel p List.mem_cons_self o ho
    · rw [hat, if_neg hne]
theorem WroteL.below {gs : List (TypeId × Nat)} {B : Nat} {w w' : World} (h : WroteL gs w w') (hB : ∀ p ∈ gs, B ≤ p.2) (hw : B ≤ w.heap.size) : Below B w w' :=
  ⟨h.os, h.tape, h.output, h.size, fun k hk => h.other k (by omega) fun p hp => by have := hB p hp; omega⟩
theorem WroteL.trans {gs : List (TypeId × Nat)} {a b c : World} (h : WroteL gs a b) (k : WroteL gs b c) : WroteL gs a c :=
  ⟨k.os.trans h.os, k.tape.trans h.tape, k.output.trans h.output, Nat.le_trans h.size k.size, h.lt, h.cel, fun j hj hne => (k.other j (Nat.lt_of_lt_of_le hj h.size) hne).trans (h.other j hj hne)⟩
/-- Since the world w₁ nothing that was there has changed but the blocks that gs names. -/
def wroteL (gs : List (TypeId × Nat)) (w₁ : World) : D :=
  .p (fun B w _ => w₁.heap.size ≤ B ∧ WroteL gs w₁ w) (fun _ _ _ _ h ⟨h1, h2⟩ => ⟨h1, ⟨h.os.trans h2.os, h.tape.trans h2.tape, h.output.trans h2.output, Nat.le_trans h2.size h.size, h2.lt, h2.cel, fun k hk hne => (h.block k (Nat.lt_of_lt_of_le hk h1)).trans (h2.other k hk hne)⟩⟩)
    (fun _ _ _ _ h ⟨h1, h2⟩ => ⟨Nat.le_trans h1 h, h2⟩)
theorem Surv.wroteL {B T g : Nat} {gs : List (TypeId × Nat)} {w₁ : World} (hg : ∃ p ∈ gs, p.2 = g) : Surv B T g (wroteL gs w₁) := fun _ _ _ k ⟨h1, h2⟩ => by
  obtain ⟨p, hp, rfl⟩ := hg
  exact ⟨Nat.le_trans h1 k.size, ⟨k.os.trans h2.os, k.tape.trans h2.tape, k.output.trans h2.output, Nat.le_trans h2.size k.size, h2.lt, h2.cel, fun j hj hne => (k.other j (Nat.lt_of_lt_of_le hj h1) (hne p hp)).trans (h2.other j hj hne)⟩⟩
theorem Surv.wroteLN {B T b : Nat} {gs : List (TypeId × Nat)} {w₁ : World} (h : w₁.heap.size ≤ b) : Surv B T b (Go.Proofs.Ytggijkmlmklneaa.wroteL gs w₁) := fun _ _ _ k ⟨h1, h2⟩ =>
  ⟨Nat.le_trans h1 k.size, ⟨k.os.trans h2.os, k.tape.trans h2.tape, k.output.trans h2.output, Nat.le_trans h2.size k.size, h2.lt, h2.cel, fun j hj hne => (k.other j (Nat.lt_of_lt_of_le hj h1) (by omega)).trans (h2.other j hj hne)⟩⟩
/-- What is left of the environment behind it. -/
def LeftL (B : Nat) (gs : List (TypeId × Nat)) (E' E : Env) : Prop := ∀ q ∈ E', E.look q.1 = some q.2 ∧ ∀ p ∈ gs, Surv B p.1 p.2 q.2
theorem LeftL.one {B T g : Nat} {E' E : Env} (h : LeftS B T g E' E) : LeftL B [(T, g)] E' E := fun q hq => ⟨(h q hq).1, fun p hp => by
  rcases List.mem_cons.1 hp with rfl | hp
  · exact (h q hq).2
  · cases hp⟩
theorem LeftL.cons {B T g : Nat} {gs : List (TypeId × Nat)} {E' E : Env} (h : LeftS B T g E' E) (hr : LeftL B gs E' E) : LeftL B ((T, g) :: gs) E' E := fun q hq => ⟨(h q hq).1, fun p hp => by
  rcases List.mem_cons.1 hp with rfl | hp
  · exact (h q hq).2
  · exact (hr q hq).2 p hp⟩
theorem LeftL.st {n B : Nat} {gs : List (TypeId × Nat)} {E E' : Env} {a : Act} {w w' : World} (hl : LeftL B gs E' E) (hB : ∀ p ∈ gs, B ≤ p.2) (h : St κ n B E a w) (k : WroteL gs w w') : St κ n B E' a w' :=
  ⟨Nat.le_trans h.base k.size, h.defers, h.size, fun t d hd => by
    obtain ⟨h1, h2⟩ := hl _ (look_mem hd)
    exact k.keep hB h2 (h.of t d h1)⟩

theorem look_append {E₁ E₂ : Env} {t : Nat} {d : D} (h : (E₁ ++ E₂).look t = some d) : E₁.look t = some d ∨ E₂.look t = some d := by
  induction E₁ with
  | nil => exact .inr h
  | cons p r ih =>
    obtain ⟨s, e⟩ := p
    by_cases hs : s = t
    · subst hs
      rw [List.cons_append, look_here] at h
      exact .inl (by rw [look_here]; exact h)
    · rw [List.cons_append, look_past _ _ hs] at h
      rw [look_past _ _ hs]
      exact ih h

/-- They are there, with cells of the types named. -/
def selfL (gs : List (TypeId × Nat)) : D :=
  .p (fun B w _ => ∀ p ∈ gs, p.2 < B ∧ ∃ cs fr, w.heap[p.2]? = some (.cells cs p.1 fr)) (fun _ _ _ _ g h p hp => ⟨(h p hp).1, by rw [g.block _ (h p hp).1]; exact (h p hp).2⟩) (fun _ _ _ _ g h p hp => ⟨Nat.lt_of_lt_of_le (h p hp).1 g, (h p hp).2⟩)
/-! ### Functions that do so -/
/-- A contract at base B: called with the values us where the memory's facts M hold, it returns u i, leaves the facts M' i, and changes of what was there at most what gs names; of i it is told G (over how much there was). -/
structure FnL (P : Program) (f : FuncId) (B : Nat) (gs : List (TypeId × Nat)) (us : List Value) (M : Env) (G : Nat → Nat → Prop) (u : Nat → Value) (M' : Nat → Env) : Prop where
  body : ∃ fn, P.funcs[f]? = some fn ∧ (fn.name == "runtime.NumGoroutine") = false ∧ fn.body.isNone = false
  calls : ∀ w : World, B ≤ w.heap.size → (∀ p ∈ M, p.2.Of w undef) → WroteL gs w w →
    Calls P f us.toArray w fun e w' => ∃ i, G w.heap.size i ∧ e = .returned (u i) ∧ WroteL gs w w' ∧ ∀ p ∈ M' i, p.2.Of w' undef
def PL (gs : List (TypeId × Nat)) (w₁ : World) (G : Nat → Nat → Prop) (u : Nat → Value) (M' : Nat → Env) : Ending → World → Prop :=
  fun e w' => ∃ i, G w₁.heap.size i ∧ e = .returned (u i) ∧ WroteL gs w₁ w' ∧ ∀ p ∈ M' i, p.2.Of w' undef
theorem FnL.of {P : Program} {n : Nat} {f : FuncId} {fn : Func} {c : Code} {B : Nat} {gs : List (TypeId × Nat)} {us : List Value} {M : Env} {G : Nat → Nat → Prop} {u : Nat → Value} {M' : Nat → Env} {kw ks : Nat}
    (hf : P.funcs[f]? = some fn) (hb : fn.body = some c) (hname : (fn.name == "runtime.NumGoroutine") = false) (hn : fn.ntmps = n) (hds : us.length ≤ n) (hnv : n ≤ vbase) (hMb : ∀ p ∈ M, vbase ≤ p.1) (hkw : vbase ≤ kw) (hks : vbase ≤ ks) (args : Env) (hargs : ∀ p ∈ args, ∃ v, p.2 = .v v ∧ us[p.1]? = some v)
    (h : ∀ w₀ w₁ : World, w₀.heap.size = B → B ≤ w₁.heap.size → A Cx.top P w₀ n c (args ++ ((kw, wroteL gs w₁) :: (ks, selfL gs) :: M)) (BP P fn (PL gs w₁ G u M'))) : FnL P f B gs us M G u M' := by
  refine ⟨⟨fn, hf, hname, by rw [hb]; rfl⟩, fun w hB hM hgs => ?_⟩
  have hsz := cutW_size (w := w) (g := B) hB
  refine callsIn_FR.1 (callsIn_of_wp_marks (F := FR none) (n := 0) hf hb trivial (h (cutW w B) w hsz hB _ w (cutW_below hB) ⟨by rw [hsz]; exact hB, rfl, ?_, fun t e he => ?_⟩))
  · simp [hn]; omega
  · show e.Of w ((us.toArray ++ Array.replicate (fn.ntmps - us.toArray.size) undef).getD t undef)
    have hund : vbase ≤ t → (us.toArray ++ Array.replicate (fn.ntmps - us.toArray.size) undef).getD t undef = undef := fun ht => by
      rw [Array.getD_eq_getD_getElem?, Array.getElem?_eq_none (by simp [hn]; omega)]; rfl
    rcases List.mem_append.1 (look_mem he) with hm | hm
    · obtain ⟨v, h1, h2⟩ := hargs _ hm
      simp only at h1 h2
      have hj : t < us.length := (List.getElem?_eq_some_iff.1 h2).1
      rw [Array.getD_eq_getD_getElem?, Array.getElem?_append_left (by simpa using hj)]
      subst h1
      simp [h2]; rfl
    · rcases List.mem_cons.1 hm with h1 | hm
      · injection h1 with h1 h2; subst h1; subst h2
        exact ⟨Nat.le_refl _, hgs⟩
      · rcases List.mem_cons.1 hm with h1 | hm
        · injection h1 with h1 h2; subst h1; subst h2
          exact fun p hp => ⟨hgs.lt p hp, by
            have h3 := Array.getElem?_eq_getElem (hgs.lt p hp)
            obtain ⟨cs, fr, h4⟩ := hgs.cel p hp _ h3
            exact ⟨cs, fr, by rw [h3, h4]⟩⟩
        · have h1 := hMb _ hm
          rw [hund h1]
          exact hM _ hm
section
variable {P : Program} {n B : Nat} {ops : Array Oper} {E : Env} {ty : TypeId} {pos : String} {after : Array Edge}
/-- The number of a new block in such a function. -/
def NewL (B : Nat) (E : Env) (b : Nat) : Prop := B ≤ b ∧ (∀ s b' e xs, E.look s = some (blk b' e xs) → b' < b) ∧ ∀ s gs w₁, E.look s = some (wroteL gs w₁) → w₁.heap.size ≤ b
theorem subL_M {M : Env} (h : Sub M E) (hb : ∀ p ∈ M, vbase ≤ p.1) : ∀ p ∈ M, ∃ k, vbase ≤ k ∧ E.look k = some p.2 := fun p hp => ⟨p.1, hb p hp, h p hp⟩
theorem vbL_nil : ∀ p ∈ ([] : Env), vbase ≤ p.1 := fun _ h => by cases h
theorem vbL_cons {M : Env} {t : Nat} {d : D} (h : vbase ≤ t) (hr : ∀ p ∈ M, vbase ≤ p.1) : ∀ p ∈ (t, d) :: M, vbase ≤ p.1 := fun p hp => by
  rcases List.mem_cons.1 hp with rfl | hp
  · exact h
  · exact hr p hp
/-- The blocks are known by name. -/
def GsL (B : Nat) (gs : List (TypeId × Nat)) (E : Env) : Prop := ∀ p ∈ gs, B ≤ p.2 ∧ ∃ k xs, E.look k = some (blk p.2 p.1 xs)
theorem gsL_nil : GsL B [] E := fun _ h => by cases h
theorem gsL_cons {gs : List (TypeId × Nat)} {T : TypeId} {g k : Nat} {xs : List Value} (hB : B ≤ g) (hk : E.look k = some (blk g T xs)) (hr : GsL B gs E) : GsL B ((T, g) :: gs) E := fun p hp => by
  rcases List.mem_cons.1 hp with rfl | hp
  · exact ⟨hB, k, xs, hk⟩
  · exact hr p hp
theorem GsL.self {gs : List (TypeId × Nat)} (h : GsL B gs E) {a : Act} {w : World} (hs : St κ n B E a w) : WroteL gs w w :=
  WroteL.refl (fun p hp => by obtain ⟨_, k, xs, h4⟩ := h p hp; exact (hs.of k _ h4).1) fun p hp o ho => by
    obtain ⟨_, k, xs, h4⟩ := h p hp
    have h5 := (hs.of k _ h4).2
    rw [h5] at ho; injection ho with ho; exact ⟨_, _, ho.symm⟩
/-- A call of a function value that holds what us lists; it is called with vs. -/
theorem eff_callL {f : FuncId} {gs : List (TypeId × Nat)} {us vs : List Value} {M : Env} {G : Nat → Nat → Prop} {u : Nat → Value} {M' : Nat → Env} {dst : Nat} {x : Operand} {args : Array Operand} {argTypes : Array TypeId} {E' : Env}
    (hf : FnL P f B gs (vs ++ us) M G u M') (hx : E.at x = some (.v (.func (.func f) #[] us.toArray))) (ha : Args E (vs.map D.v) args.toList) (hM : ∀ p ∈ M, ∃ k, vbase ≤ k ∧ E.look k = some p.2) (hMb : ∀ i, ∀ p ∈ M' i, vbase ≤ p.1)
    (hgB : ∀ p ∈ gs, B ≤ p.2) (hgs : ∀ (κ : Cx) (a : Act) (w : World), St κ n B E a w → WroteL gs w w) (hn : n ≤ vbase) (hdst : dst < n) (hl : LeftL B gs E' E) :
    EffG P n B ops ⟨some dst, .call { callee := .value x, args := args, argTypes := argTypes }, ty, pos, after, none⟩ E (fun i => ∃ m, B ≤ m ∧ (∀ s b' e xs, E.look s = some (blk b' e xs) → b' < m) ∧ (∀ s gs w₁, E.look s = some (wroteL gs w₁) → w₁.heap.size ≤ m) ∧ G m i) (fun i => (dst, .v (u i)) :: (M' i ++ E')) := by
  intro κ a w K Q h hK
  obtain ⟨fn, h1, h2, h3⟩ := hf.body
  have hfun : a.eval x = .func (.func f) #[] us.toArray := h.at_ x _ hx
  have hrun : (execOp a.eval ⟨some dst, .call { callee := .value x, args := args, argTypes := argTypes }, ty, pos, after, none⟩).run P w = .ok (.enter f (args.map a.eval ++ us.toArray)) w := by
    have h2' : ¬ fn.name = "runtime.NumGoroutine" := by simpa using h2
    have h3' : ¬ fn.body = none := by intro h; rw [h] at h3; cases h3
    simp [execOp, resolve, Deferred.ofValue, hfun, invoke, callFunc, h1, h2', h3']
  have hund : ∀ k, vbase ≤ k → a.tmps.getD k undef = undef := fun k hk => by
    rw [Array.getD_eq_getD_getElem?, Array.getElem?_eq_none (by rw [h.size]; omega)]; rfl
  have hargs : args.toList.map a.eval = vs := by
    apply List.ext_getElem?
    intro j
    have hlen : args.toList.length = vs.length := by have := ha.length; simpa using this.symm
    rcases Nat.lt_or_ge j vs.length with hj | hj
    · have hxj : args.toList[j]? = some (args.toList[j]'(by omega)) := List.getElem?_eq_getElem (by omega)
      have he : (vs.map D.v)[j]? = some (.v vs[j]) := by simp [hj]
      obtain ⟨e', h4, h5⟩ := ha.nth he hxj
      have h6 : a.eval (args.toList[j]'(by omega)) = vs[j] := h5.of (h.at_ _ _ h4)
      rw [List.getElem?_map, hxj, Option.map_some, h6, List.getElem?_eq_getElem hj]
    · rw [List.getElem?_eq_none (by rw [List.length_map]; omega), List.getElem?_eq_none hj]
  have hcall := hf.calls w h.base (fun p hp => by
    obtain ⟨k, h4, h5⟩ := hM p hp
    have h6 := h.of k _ h5
    rwa [hund k h4] at h6) (hgs κ a w h)
  have harr : (vs ++ us).toArray = args.map a.eval ++ us.toArray := by
    apply Array.ext'
    rw [← hargs]; simp
  rw [harr] at hcall
  rw [if_pos (by simp [Region.wanted])]
  refine opR (by nofun) ?_
  unfold Oper.wp
  rw [hrun, Oper.upon_enter]
  refine Calls.mono hcall ?_
  rintro e w' ⟨i, hG, rfl, hw, hM'⟩
  have hst := hl.st hgB h hw
  refine hK i _ _ ⟨w.heap.size, h.base, fun s b' e ys hs => (h.of s _ hs).1, fun s gs w₁ hs => (h.of s _ hs).2.size, hG⟩ (hw.below hgB h.base) (St.put ⟨hst.base, hst.defers, hst.size, fun t d hd => ?_⟩ hdst rfl)
  rcases look_append hd with h4 | h4
  · have h5 := hM' _ (look_mem h4)
    have h6 : vbase ≤ t := hMb i _ (look_mem h4)
    rw [hund t h6]; exact h5
  · exact hst.of t d h4
/-- The same where nothing new is told: an effect. -/
theorem eff_callL1 {f : FuncId} {gs : List (TypeId × Nat)} {us vs : List Value} {M : Env} {G : Nat → Nat → Prop} {u : Value} {M' : Env} {dst : Nat} {x : Operand} {args : Array Operand} {argTypes : Array TypeId} {E' : Env}
    (hf : FnL P f B gs (vs ++ us) M G (fun _ => u) (fun _ => M')) (hx : E.at x = some (.v (.func (.func f) #[] us.toArray))) (ha : Args E (vs.map D.v) args.toList) (hM : ∀ p ∈ M, ∃ k, vbase ≤ k ∧ E.look k = some p.2) (hMb : ∀ p ∈ M', vbase ≤ p.1)
    (hgs : GsL B gs E) (hn : n ≤ vbase) (hdst : dst < n) (hl : LeftL B gs E' E) :
    Eff P n B ops ⟨some dst, .call { callee := .value x, args := args, argTypes := argTypes }, ty, pos, after, none⟩ E ((dst, .v u) :: (M' ++ E')) := fun κ a w K Q h hK =>
  eff_callL hf hx ha hM (fun _ => hMb) (fun p hp => (hgs p hp).1) (fun _ _ _ h => hgs.self h) hn hdst hl κ a w K Q h fun _ a' w' _ hw hst => hK a' w' hw hst
theorem lookL_nil : ∀ p ∈ ([] : Env), ∃ k, vbase ≤ k ∧ E.look k = some p.2 := fun _ h => by cases h
theorem lookL_cons {M : Env} {t k : Nat} {d : D} (hk : vbase ≤ k) (h : E.look k = some d) (hr : ∀ p ∈ M, ∃ k, vbase ≤ k ∧ E.look k = some p.2) : ∀ p ∈ (t, d) :: M, ∃ k, vbase ≤ k ∧ E.look k = some p.2 := fun p hp => by
  rcases List.mem_cons.1 hp with rfl | hp
  · exact ⟨k, hk, h⟩
  · exact hr p hp
/-- The end of such a function. -/
theorem End.wroteL {w₀ w₁ : World} {fn : Func} {gs : List (TypeId × Nat)} {G : Nat → Nat → Prop} {u : Nat → Value} {M' : Nat → Env} {kw : Nat} {x : Exit} (hex : x = .ret ∨ x = .normal) (hw : E.look kw = some (Go.Proofs.Ytggijkmlmklneaa.wroteL gs w₁)) (i : Nat) (hG : G w₁.heap.size i) (hn : n ≤ vbase)
    (hr : ∀ (a : Act) (w : World), St Cx.top n w₀.heap.size E a w → (results fn a.tmps).run P w = .ok (u i) w) (hM : ∀ p ∈ M' i, ∃ k, vbase ≤ k ∧ E.look k = some p.2) : End Cx.top w₀ n E (BP P fn (PL gs w₁ G u M') x) := fun a w _ hs => by
  have key : LeavesInM (FR none) 0 P fn a.tmps (PL gs w₁ G u M') a.defers .returning w := by
    rw [show a.defers = [] from hs.defers]
    refine ⟨u i, hr a w hs, i, hG, rfl, (hs.of kw _ hw).2, fun p hp => ?_⟩
    obtain ⟨k, h2, h3⟩ := hM p hp
    have h4 := hs.of k _ h3
    rwa [show a.tmps.getD k undef = undef from by
      rw [Array.getD_eq_getD_getElem?, Array.getElem?_eq_none (by rw [hs.size]; omega)]; rfl] at h4
  rcases hex with rfl | rfl
  · exact key
  · exact key
end

/-! ### More ends -/
section
variable {P : Program} {n : Nat} {w₀ : World} {E : Env}
end

theorem slice_bytes {b o n c : Nat} {e : TypeId} {xs : List Value} (l : List UInt8) (hn : n = l.length) (hc : n ≤ c) (hm : c ≤ maxLen) (hl : (xs.drop o).take n = l.map byteV) (B : Nat) (w : World) (hb : b < B) (hh : w.heap[b]? = some (.cells xs.toArray e (0, 0))) : (bytes l c).OfB B w (.slice (some ⟨b, o, none⟩) n c) := by
  subst hn
  refine bytes_mk hc hm fun j u hu => ?_
  rw [← hl, List.getElem?_take] at hu
  split at hu
  · rw [List.getElem?_drop] at hu
    refine ⟨_, rfl, hb, ?_⟩
    rw [add_lit0]
    simp [World.cell?, hh, hu]
  · cases hu
/-! ### Slices of bytes as arrays -/
section
variable {P : Program} {B : Nat} {E : Env} {dst : Option Tmp} {ty : TypeId} {pos : String} {after : Array Edge} {guard : Option (Nat × Bool)}
end
end Go.Proofs.Ytggijkmlmklneaa
namespace Go.Proofs.Ytggijkmlmklneaa
open Go Go.RowKit
variable {κ : Cx}
/-- Where the rest of a slice of room c lies, k elements behind its head. -/
def cutA (c k : Nat) (A : Option Addr) : Option Addr := if c = k then A else A.map (·.add k)
section
variable {P : Program} {B : Nat} {E : Env} {dst : Option Tmp} {ty : TypeId} {pos : String} {after : Array Edge} {guard : Option (Nat × Bool)}
end
section
variable {P : Program} {n B : Nat} {ops : Array Oper} {E : Env} {ty : TypeId} {pos : String} {after : Array Edge}
end
section
variable {P : Program} {n : Nat} {w₀ : World} {E : Env}
theorem RowIn.take {B : Nat} {w : World} {A : Option Addr} {vs : List Value} (h : RowIn B w A vs) (k : Nat) : RowIn B w A (vs.take k) := fun j u hu => by
  rw [List.getElem?_take] at hu
  split at hu
  · exact h j u hu
  · cases hu
theorem RowIn.drop {B : Nat} {w : World} {A : Option Addr} {vs : List Value} (h : RowIn B w A vs) (k : Nat) : RowIn B w (A.map (·.add k)) (vs.drop k) := fun j u hu => by
  rw [List.getElem?_drop] at hu
  obtain ⟨ad, h1, h2, h3⟩ := h _ u hu
  exact ⟨ad.add k, by rw [h1]; rfl, by rw [block_of_add]; exact h2, by rw [add_of_add]; exact h3⟩
/-- What the two parts of such a slice read as. -/
theorem A.cut {c : Code} {Q : Exit → Act → World → Prop} {k₀ k₁ k₂ B' m len i : Nat} {A₀ : Option Addr} {l : List UInt8} (hk : E.look k₀ = some (old B' (valM (.slice A₀ len m) (byt l)))) (hi : i ≤ len)
    (h : A κ P w₀ n c ((k₁, old B' (valM (.slice A₀ i m) (byt (l.take i)))) :: (k₂, old B' (valM (.slice (cutA m i A₀) (len - i) (m - i)) (byt (l.drop i)))) :: E) Q) : A κ P w₀ n c E Q := fun a w g hs => by
  obtain ⟨hB, m', hb⟩ := hs.of k₀ _ hk
  obtain ⟨A₁, h1, h2, h3, h4⟩ := bytes_open (l := l) hb
  injection h1 with h5 h6 h7
  subst h5; subst h6; subst h7
  have e1 : (bytes (l.take i) m).OfB B' w (.slice A₀ i m) := by
    have := bytes_mk (l := l.take i) (c := m) (A := A₀) (B := B') (w := w) (by simp; omega) h3 (by rw [List.map_take]; exact h4.take i)
    rwa [List.length_take, Nat.min_eq_left hi] at this
  have e2 : (bytes (l.drop i) (m - i)).OfB B' w (.slice (cutA m i A₀) (l.length - i) (m - i)) := by
    have := bytes_mk (l := l.drop i) (c := m - i) (A := cutA m i A₀) (B := B') (w := w) (by simp; omega) (by omega) (by
      rw [List.map_drop, cutA]
      split
      · rw [List.drop_eq_nil_of_le (by simp; omega)]; exact RowIn.nil
      · exact h4.drop i)
    rwa [List.length_drop] at this
  exact h a w g ((hs.push (t := k₂) (d := old B' (valM (.slice (cutA m i A₀) (l.length - i) (m - i)) (byt (l.drop i)))) ⟨hB, _, e2⟩).push (t := k₁) (d := old B' (valM (.slice A₀ i m) (byt (l.take i)))) ⟨hB, _, e1⟩)
end
end Go.Proofs.Ytggijkmlmklneaa
namespace Go.Proofs.Ytggijkmlmklneaa
open Go Go.RowKit
set_option maxRecDepth 100000

/-- c where t holds, else 0. -/
def mask (t : Bool) (c : Nat) : Nat := bif t then c else 0
theorem mask_xor2 (t : Bool) (c d : Nat) : mask t (c ^^^ d) = mask t c ^^^ mask t d := by cases t <;> simp [mask]
theorem xor4 (a b c d : Nat) : (a ^^^ b) ^^^ (c ^^^ d) = (a ^^^ c) ^^^ (b ^^^ d) := by
  rw [Nat.xor_assoc, ← Nat.xor_assoc b, Nat.xor_comm b c, Nat.xor_assoc, Nat.xor_assoc]

/-- A map that keeps sums. -/
def Lin (f : Nat → Nat) : Prop := ∀ x y, f (x ^^^ y) = f x ^^^ f y
theorem Lin.zero {f : Nat → Nat} (h : Lin f) : f 0 = 0 := by
  have := h 0 0
  rwa [Nat.xor_self, Nat.xor_self] at this
theorem Lin.mask {f : Nat → Nat} (h : Lin f) (t : Bool) (c : Nat) : f (mask t c) = Ytggijkmlmklneaa.mask t (f c) := by cases t <;> simp [Ytggijkmlmklneaa.mask, h.zero]
theorem Lin.xor {f g : Nat → Nat} (hf : Lin f) (hg : Lin g) : Lin fun x => f x ^^^ g x := fun x y => by show f _ ^^^ g _ = _; rw [hf, hg, xor4]
theorem Lin.at (t : Bool) {f : Nat → Nat} (hf : Lin f) : Lin fun x => Ytggijkmlmklneaa.mask t (f x) := fun x y => by show Ytggijkmlmklneaa.mask t (f _) = _; rw [hf, mask_xor2]
theorem Lin.none : Lin fun _ => 0 := fun _ _ => (Nat.xor_self 0).symm
theorem Lin.id : Lin fun x => x := fun _ _ => rfl

theorem eight : ∀ a < 256, a = mask (a.testBit 0) 1 ^^^ mask (a.testBit 1) 2 ^^^ mask (a.testBit 2) 4 ^^^ mask (a.testBit 3) 8 ^^^ mask (a.testBit 4) 16 ^^^ mask (a.testBit 5) 32 ^^^ mask (a.testBit 6) 64 ^^^ mask (a.testBit 7) 128 := by decide
theorem Lin.ext {f g : Nat → Nat} (hf : Lin f) (hg : Lin g) (h : ∀ i < 8, f (2 ^ i) = g (2 ^ i)) {a : Nat} (ha : a < 256) : f a = g a := by
  have h0 := h 0 (by decide); have h1 := h 1 (by decide); have h2 := h 2 (by decide); have h3 := h 3 (by decide)
  have h4 := h 4 (by decide); have h5 := h 5 (by decide); have h6 := h 6 (by decide); have h7 := h 7 (by decide)
  simp only [Nat.reducePow] at h0 h1 h2 h3 h4 h5 h6 h7
  rw [eight a ha]
  simp only [hf _ _, hg _ _, hf.mask, hg.mask, h0, h1, h2, h3, h4, h5, h6, h7]

/-- An element times x. -/
def xt (a : Nat) : Nat := (2 * a % 256) ^^^ mask (a.testBit 7) 27
def xts (a : Nat) : Nat → Nat
  | 0 => a
  | k + 1 => xt (xts a k)
/-- The sum of the products with the first k terms of b. -/
def gacc (a b : Nat) : Nat → Nat
  | 0 => 0
  | k + 1 => gacc a b k ^^^ mask (b.testBit k) (xts a k)
/-- The product of two elements. -/
def gm (a b : Nat) : Nat := gacc a b 8

/-! ### Inverses -/
/-- The inverses of all elements. -/
def itab : List UInt8 := [0, 1, 141, 246, 203, 82, 123, 209, 232, 79, 41, 192, 176, 225, 229, 199, 116, 180, 170, 75, 153, 43, 96, 95, 88, 63, 253, 204, 255, 64, 238, 178, 58, 110, 90, 241, 85, 77, 168, 201, 193, 10, 152, 21, 48, 68, 162, 194, 44, 69, 146, 108, 243, 57, 102, 66, 242, 53, 32, 111, 119, 187, 89, 25, 29, 254, 55, 103, 45, 49, 245, 105, 167, 100, 171, 19, 84, 37, 233, 9, 237, 92, 5, 202, 76, 36, 135, 191, 24, 62, 34, 240, 81, 236, 97, 23, 22, 94, 175, 211, 73, 166, 54, 67, 244, 71, 145, 223, 51, 147, 33, 59, 121, 183, 151, 133, 16, 181, 186, 60, 182, 112, 208, 6, 161, 250, 129, 130, 131, 126, 127, 128, 150, 115, 190, 86, 155, 158, 149, 217, 247, 2, 185, 164, 222, 106, 50, 109, 216, 138, 132, 114, 42, 20, 159, 136, 249, 220, 137, 154, 251, 124, 46, 195, 143, 184, 101, 72, 38, 200, 18, 74, 206, 231, 210, 98, 12, 224, 31, 239, 17, 117, 120, 113, 165, 142, 118, 61, 189, 188, 134, 87, 11, 40, 47, 163, 218, 212, 228, 15, 169, 39, 83, 4, 27, 252, 172, 230, 122, 7, 174, 99, 197, 219, 226, 234, 148, 139, 196, 213, 157, 248, 144, 107, 177, 13, 214, 235, 198, 14, 207, 173, 8, 78, 215, 227, 93, 80, 30, 179, 91, 35, 56, 52, 104, 70, 3, 140, 221, 156, 125, 160, 205, 26, 65, 28]
def ginv (a : Nat) : Nat := (itab.getD a 0).toNat
/-! ### Powers -/
/-! ### Substitutes -/
def rotl8 (a k : Nat) : Nat := (a * 2 ^ k % 256) ||| (a / 2 ^ (8 - k))
def subI (b : Nat) : Nat := b ^^^ rotl8 b 1 ^^^ rotl8 b 2 ^^^ rotl8 b 3 ^^^ rotl8 b 4 ^^^ 99
def sub8 (a : Nat) : Nat := subI (ginv a)
/-! ### The powers of 3 -/
def l3 : List Nat := [0, 0, 25, 1, 50, 2, 26, 198, 75, 199, 27, 104, 51, 238, 223, 3, 100, 4, 224, 14, 52, 141, 129, 239, 76, 113, 8, 200, 248, 105, 28, 193, 125, 194, 29, 181, 249, 185, 39, 106, 77, 228, 166, 114, 154, 201, 9, 120, 101, 47, 138, 5, 33, 15, 225, 36, 18, 240, 130, 69, 53, 147, 218, 142, 150, 143, 219, 189, 54, 208, 206, 148, 19, 92, 210, 241, 64, 70, 131, 56, 102, 221, 253, 48, 191, 6, 139, 98, 179, 37, 226, 152, 34, 136, 145, 16, 126, 110, 72, 195, 163, 182, 30, 66, 58, 107, 40, 84, 250, 133, 61, 186, 43, 121, 10, 21, 155, 159, 94, 202, 78, 212, 172, 229, 243, 115, 167, 87, 175, 88, 168, 80, 244, 234, 214, 116, 79, 174, 233, 213, 231, 230, 173, 232, 44, 215, 117, 122, 235, 22, 11, 245, 89, 203, 95, 176, 156, 169, 81, 160, 127, 12, 246, 111, 23, 196, 73, 236, 216, 67, 31, 45, 164, 118, 123, 183, 204, 187, 62, 90, 251, 96, 177, 134, 59, 82, 161, 108, 170, 85, 41, 157, 151, 178, 135, 144, 97, 190, 220, 252, 188, 149, 207, 205, 55, 63, 91, 209, 83, 57, 132, 60, 65, 162, 109, 71, 20, 42, 158, 93, 86, 242, 211, 171, 68, 17, 146, 217, 35, 32, 46, 137, 180, 124, 184, 38, 119, 153, 227, 165, 103, 74, 237, 222, 197, 49, 254, 24, 13, 99, 140, 128, 192, 247, 112, 7]
/-! ### The product of the definition -/
end Go.Proofs.Ytggijkmlmklneaa
namespace Go.Proofs.Ytggijkmlmklneaa
open Go Go.RowKit
set_option maxRecDepth 100000
set_option linter.unusedVariables false

/-! ### Rows of bytes -/
/-! ### The transformations -/
abbrev Sta := Nat → Nat
/-- The same 16 bytes. -/
def Eq16 (f g : Sta) : Prop := ∀ i < 16, f i = g i
theorem Eq16.refl (f : Sta) : Eq16 f f := fun _ _ => rfl
theorem Eq16.symm {f g : Sta} (h : Eq16 f g) : Eq16 g f := fun i hi => (h i hi).symm
theorem Eq16.trans {f g h : Sta} (a : Eq16 f g) (b : Eq16 g h) : Eq16 f h := fun i hi => (a i hi).trans (b i hi)
def addS (f k : Sta) : Sta := fun i => f i ^^^ k i
def subS (f : Sta) : Sta := fun i => sub8 (f i)
def rotS (f : Sta) : Sta := fun i => f (4 * ((i / 4 + i % 4) % 4) + i % 4)
/-- A byte of a column, behind. -/
def col (a : Nat → Nat) (r : Nat) : Nat := gm 2 (a (r % 4) ^^^ a ((r + 1) % 4)) ^^^ a ((r + 1) % 4) ^^^ a ((r + 2) % 4) ^^^ a ((r + 3) % 4)
def mixS (f : Sta) : Sta := fun i => col (fun r => f (4 * (i / 4) + r)) (i % 4)
/-! ### The cipher -/
/-- A round key of a schedule, whose bytes stand side by side. -/
def keyS (s : Nat → Nat) (k : Nat) : Sta := fun i => s (16 * k + i)
def encR (s : Nat → Nat) (f : Sta) : Nat → Sta
  | 0 => addS f (keyS s 0)
  | r + 1 => addS (mixS (rotS (subS (encR s f r)))) (keyS s (r + 1))
def enc (s : Nat → Nat) (f : Sta) : Sta := addS (rotS (subS (encR s f 9))) (keyS s 10)
section
variable {s : Nat → Nat} {f g : Sta} (hs : ∀ i, s i < 256)
include hs
end
/-! ### The round keys -/
/-! ### The definition's rows and words -/
/-- A row that is rewritten from its head. -/
def mid (f g : Nat → Nat) (i : Nat) : Nat → Nat := fun j => if j < i then g j else f j
/-! ### The program's rows on their way -/
/-! ### Examples: the kernel goes through them round by round -/
end Go.Proofs.Ytggijkmlmklneaa
namespace Go.Proofs.Ytggijkmlmklneaa
open Go Go.RowKit
theorem kinB {n : Nat} {l : List UInt8} (h : l.length = n) : Kin (fun _ _ => True) (List.replicate n .u8) (l.map byteV) := by
  refine ⟨by simp [h], fun i k hk => ?_⟩
  rw [List.getElem?_replicate] at hk
  split at hk
  · rename_i hi
    injection hk with hk; subst hk
    exact ⟨_, by rw [List.getElem?_map, List.getElem?_eq_getElem (by omega)]; rfl, trivial⟩
  · cases hk
end Go.Proofs.Ytggijkmlmklneaa
namespace Go.Proofs.Ytggijkmlmklneaa
open Go Go.RowKit
set_option linter.unusedVariables false
def zD : List UInt8 := List.replicate 32 0
def recV (x : UInt8) (s c : Nat) (t : List UInt8) : List Value := byteV x :: .int .u32 ((s : Nat) : Int) :: .int .u64 ((c : Nat) : Int) :: t.map byteV
def entV (x : UInt8) (t : List UInt8) : List Value := byteV x :: t.map byteV
def celV (t : List UInt8) (e m : Nat) : List Value := t.map byteV ++ [.int .u64 ((e : Nat) : Int), .int .u64 ((m : Nat) : Int)]
def recL (x : UInt8) (s c : Nat) (t : List UInt8) : List UInt8 := x :: (nonceL s c ++ t)
def entL (x : UInt8) (t : List UInt8) : List UInt8 := x :: t
def BadR (x : UInt8) (s c : Nat) (t : List UInt8) : Prop := 2 < x.toNat ∨ (x.toNat = 0 ∧ ¬ (s = 0 ∧ c = 0 ∧ t = zD))
def BadE (x : UInt8) (t : List UInt8) : Prop := 2 < x.toNat ∨ (x.toNat = 0 ∧ ¬ t = zD)
instance {x : UInt8} {s c : Nat} {t : List UInt8} : Decidable (BadR x s c t) := by unfold BadR; infer_instance
instance {x : UInt8} {t : List UInt8} : Decidable (BadE x t) := by unfold BadE; infer_instance
theorem rec_len (x : UInt8) (s c : Nat) {t : List UInt8} (h : t.length = 32) : (recV x s c t).length = 35 := by simp [recV, h]
theorem ent_len (x : UInt8) {t : List UInt8} (h : t.length = 32) : (entV x t).length = 33 := by simp [entV, h]
theorem cel_len {t : List UInt8} (h : t.length = 32) (e m : Nat) : (celV t e m).length = 34 := by simp [celV, h]
theorem all_byte (l : List UInt8) : (l.map byteV).all (·.oneCell') = true := by simp [List.all_eq_true, byteV, Value.oneCell']
theorem rec_one (x : UInt8) (s c : Nat) (t : List UInt8) : (recV x s c t).all (·.oneCell') = true := by simp only [recV, List.all_cons, all_byte]; rfl
theorem ent_one (x : UInt8) (t : List UInt8) : (entV x t).all (·.oneCell') = true := by simp only [entV, List.all_cons, all_byte]; rfl
theorem cel_one (t : List UInt8) (e m : Nat) : (celV t e m).all (·.oneCell') = true := by simp only [celV, List.all_append, all_byte]; rfl
/-! ### The first byte, and all others together -/
def sumL (l : List UInt8) : Nat := (l.map UInt8.toNat).sum
def rest (l : List UInt8) : Nat := sumL (l.drop 1)
end Go.Proofs.Ytggijkmlmklneaa
namespace Go.Proofs.Ytggijkmlmklneaa
open Go Go.RowKit
variable {κ : Cx}
section
variable {P : Program} {n : Nat} {w₀ : World} {ops : Array Oper} {E : Env} {ty : TypeId} {pos : String} {after : Array Edge}
def YieldsX (P : Program) (N : Nat) (l : Nat) (arg : Nat → D) (J : Nat → World → Prop) {X : Type} (XE : X → Env) : Prop :=
  ∀ (i : Nat) (W : World) (u : Value) (x : X), i < N → J i W → (arg i).Of W u → (∀ p ∈ XE x, p.2.Of W undef) → YieldAt (FR none) 0 P l #[u] W fun e W' => e = .returned (.bool true) ∧ J (i + 1) W' ∧ W.heap.size ≤ W'.heap.size ∧ ∀ p ∈ XE x, p.2.Of W' undef
structure SeqsX (P : Program) (w₀ : World) (N : Nat) (l : Nat) (arg : Nat → D) (V : Nat → Env) (J : Nat → World → Prop) {X : Type} (XE : X → Env) : Prop where
  grow : ∀ i a b, J i a → Grow a b → J i b
  holds : ∀ i W, J i W → Holds w₀ (V i) W
  yields : YieldsX P N l arg J XE
theorem SeqsX.sub {N l : Nat} {arg : Nat → D} {V V' : Nat → Env} {J : Nat → World → Prop} {X : Type} {XE : X → Env} (h : SeqsX P w₀ N l arg V J XE) (hs : ∀ i, ∀ p ∈ V' i, p ∈ V i) : SeqsX P w₀ N l arg V' J XE :=
  ⟨h.grow, fun i W hJ => ⟨(h.holds i W hJ).1, (h.holds i W hJ).2.1, fun p hp => (h.holds i W hJ).2.2 p (hs i p hp)⟩, h.yields⟩
end
end Go.Proofs.Ytggijkmlmklneaa
namespace Go.Proofs.Ytggijkmlmklneaa
open Go Go.RowKit
variable {κ : Cx}

/-! ### Counts -/
/-- What is under level k: the blocks, or the places of the level below. -/
def un (n : Nat) : Nat → Nat
  | 0 => n
  | k + 1 => (un n k + 3) / 4
/-- The level of the root. -/
def hg (n : Nat) : Nat := if n ≤ 4 then 0 else if n ≤ 16 then 1 else if n ≤ 64 then 2 else if n ≤ 256 then 3 else if n ≤ 1024 then 4 else 5
/-- How many places there are below a level. -/
def tot (n : Nat) : Nat → Nat
  | 0 => 0
  | l + 1 => tot n l + un n (l + 1)
/-- The first sector of a level's nodes. -/
def bs (n l : Nat) : Nat := 2 * n + 2 * tot n l
/-! ### A place -/
/-! ### In memory -/
/-! ### Operations -/
theorem FnM.key {P : Program} {f : FuncId} {k : Nat} {e d : D} {ds : List D} (k' : Nat) (h : FnM P f [(k, e)] ds d) : FnM P f [(k', e)] ds d :=
  ⟨h.body, fun vs w hM h1 h2 => h.calls vs w (fun p hp => by simp only [List.mem_cons, List.not_mem_nil, or_false] at hp; subst hp; exact hM (k', e) List.mem_cons_self) h1 h2⟩
/-- From a contract that speaks of a block by name, one that takes a new value over such a block. -/
theorem FnM.new {P : Program} {f : FuncId} {k : Nat} {T : TypeId} {d : D} {val : Nat → Value} {xs : List Value} {ds : List D} (h : ∀ b, FnM P f [(k, blk b T xs)] (.v (val b) :: ds) d) : Fn P f (newD 0 T val xs :: ds) d :=
  ⟨(h 0).body, fun vs w hl hv => by
    cases vs with
    | nil => simp at hl
    | cons v vs =>
      obtain ⟨b, h1, _, h3, h4⟩ := hv 0 _ v rfl rfl
      subst h1
      refine (h b).calls (val b :: vs) w (fun p hp => ?_) hl fun j e u he hu => ?_
      · simp only [List.mem_cons, List.not_mem_nil, or_false] at hp; subst hp; exact ⟨h3, h4⟩
      · cases j with
        | zero => simp only [List.getElem?_cons_zero, Option.some.injEq] at he hu; subst he; subst hu; rfl
        | succ j => exact hv (j + 1) e u (by simpa using he) hu⟩
section
variable {P : Program} {B : Nat} {E : Env} {dst : Option Tmp} {ty : TypeId} {pos : String} {after : Array Edge} {guard : Option (Nat × Bool)}
end
theorem wrap_eq {a : Int} {m : Nat} (h : a = (m : Int)) (hm : m < 9223372036854775808) : Value.int .i64 (IntKind.i64.wrap a) = nI m := by rw [h, wrapN_i64 hm]
end Go.Proofs.Ytggijkmlmklneaa
namespace Go.Proofs.Ytggijkmlmklneaa
open Go Go.RowKit
set_option linter.unusedVariables false
set_option linter.unusedSimpArgs false
variable {κ : Cx}
/-! ### Rows of parts of one size -/
section
variable {α β : Type} {v : α → List β} {k : Nat}
theorem flat_length {L : List α} (h : ∀ a ∈ L, (v a).length = k) : (L.flatMap v).length = L.length * k := by
  induction L with
  | nil => simp
  | cons a L ih =>
    rw [List.flatMap_cons, List.length_append, ih (fun x hx => h x (List.mem_cons_of_mem _ hx)), h a List.mem_cons_self, List.length_cons, Nat.succ_mul, Nat.add_comm]
theorem flat_drop {L : List α} (h : ∀ a ∈ L, (v a).length = k) (i : Nat) : (L.flatMap v).drop (i * k) = (L.drop i).flatMap v := by
  induction i generalizing L with
  | zero => simp
  | succ i ih =>
    cases L with
    | nil => simp
    | cons a L =>
      rw [List.flatMap_cons, List.drop_succ_cons, ← ih (fun x hx => h x (List.mem_cons_of_mem _ hx)), List.drop_append, h a List.mem_cons_self, Nat.succ_mul, List.drop_eq_nil_of_le (by rw [h a List.mem_cons_self]; omega), List.nil_append]
      congr 1; omega
theorem flatM_at {L : List α} (h : ∀ a ∈ L, (v a).length = k) {i : Nat} (hi : i < L.length) : ((L.flatMap v).drop (i * k)).take k = v L[i] := by
  rw [flat_drop h, List.drop_eq_getElem_cons hi, List.flatMap_cons]
  exact List.take_left' (h _ (List.getElem_mem hi))
theorem flat_getD {L : List α} (h : ∀ a ∈ L, (v a).length = k) {i : Nat} (hi : i < L.length) (z : α) : ((L.flatMap v).drop (i * k)).take k = v (L.getD i z) := by
  rw [flatM_at h hi]; simp [hi]
theorem flat_set {L : List α} (h : ∀ a ∈ L, (v a).length = k) {i : Nat} (hi : i < L.length) {a : α} (ha : (v a).length = k) : (L.flatMap v).take (i * k) ++ v a ++ (L.flatMap v).drop (i * k + k) = (L.set i a).flatMap v := by
  induction i generalizing L with
  | zero =>
    cases L with
    | nil => cases hi
    | cons b L =>
      simp only [Nat.zero_mul, List.take_zero, List.nil_append, Nat.zero_add, List.set_cons_zero, List.flatMap_cons]
      rw [List.drop_left' (h b List.mem_cons_self)]
  | succ i ih =>
    cases L with
    | nil => cases hi
    | cons b L =>
      have hb := h b List.mem_cons_self
      rw [List.set_cons_succ, List.flatMap_cons, List.flatMap_cons, ← ih (fun x hx => h x (List.mem_cons_of_mem _ hx)) (by simpa using hi), Nat.succ_mul, List.take_append, List.drop_append, List.take_of_length_le (by omega), List.drop_eq_nil_of_le (by omega), hb,
        show i * k + k - k = i * k from by omega, show i * k + k + k - k = i * k + k from by omega]
      simp only [List.append_assoc, List.nil_append]
theorem rmid_at {pre suf : List β} {L : List α} (h : ∀ a ∈ L, (v a).length = k) {i o : Nat} (ho : pre.length = o) (hi : i < L.length) (z : α) : ((pre ++ (L.flatMap v ++ suf)).drop (o + i * k)).take k = v (L.getD i z) := by
  have hl := flat_length h
  have hle : i * k + k ≤ L.length * k := by rw [← Nat.succ_mul]; exact Nat.mul_le_mul_right _ hi
  rw [← List.drop_drop, List.drop_left' ho, List.drop_append, Nat.sub_eq_zero_of_le (by omega), List.drop_zero, List.take_append_of_le_length (by rw [List.length_drop]; omega), flat_getD h hi z]
theorem getD_mem4 {L : List α} (h : L.length = 4) {i : Nat} (hi : i < 4) (z : α) : L.getD i z ∈ L := by
  rw [List.getD_eq_getElem?_getD, List.getElem?_eq_getElem (by omega)]
  exact List.getElem_mem _
end
/-! ### Records and entries as parts -/
structure RecT where
  x : UInt8
  s : Nat
  c : Nat
  t : List UInt8
structure EntT where
  x : UInt8
  t : List UInt8
namespace RecT
def zero : RecT := ⟨0, 0, 0, zD⟩
def v (r : RecT) : List Value := recV r.x r.s r.c r.t
def l (r : RecT) : List UInt8 := recL r.x r.s r.c r.t
structure Fit (r : RecT) : Prop where
  t : r.t.length = 32
  s : r.s < 4294967296
  c : r.c < 18446744073709551616
def Z (r : RecT) : Prop := r.x.toNat = 0 ∧ r.s = 0 ∧ r.c = 0 ∧ r.t = zD
theorem zero_fit : zero.Fit := ⟨rfl, by decide, by decide⟩
theorem Fit.len {r : RecT} (h : r.Fit) : r.v.length = 35 := rec_len _ _ _ h.t
theorem one (r : RecT) : r.v.all (·.oneCell') = true := rec_one _ _ _ _
instance : DecidablePred Z := fun r => by unfold Z; infer_instance
end RecT
namespace EntT
def zero : EntT := ⟨0, zD⟩
def v (r : EntT) : List Value := entV r.x r.t
def l (r : EntT) : List UInt8 := entL r.x r.t
structure Fit (r : EntT) : Prop where
  t : r.t.length = 32
def Z (r : EntT) : Prop := r.x.toNat = 0 ∧ r.t = zD
theorem zero_fit : zero.Fit := ⟨rfl⟩
theorem Fit.len {r : EntT} (h : r.Fit) : r.v.length = 33 := ent_len _ h.t
theorem one (r : EntT) : r.v.all (·.oneCell') = true := ent_one _ _
instance : DecidablePred Z := fun r => by unfold Z; infer_instance
end EntT
abbrev recsV (R : List RecT) : List Value := R.flatMap RecT.v
abbrev entsV (R : List EntT) : List Value := R.flatMap EntT.v
theorem RecT.lens {R : List RecT} (h : ∀ r ∈ R, r.Fit) : ∀ r ∈ R, r.v.length = 35 := fun r hr => (h r hr).len
theorem EntT.lens {R : List EntT} (h : ∀ r ∈ R, r.Fit) : ∀ r ∈ R, r.v.length = 33 := fun r hr => (h r hr).len
theorem RecT.all1 (R : List RecT) : (recsV R).all (·.oneCell') = true := by
  rw [List.all_flatMap]; simp only [List.all_eq_true]; exact fun r _ => List.all_eq_true.1 r.one
theorem EntT.all1 (R : List EntT) : (entsV R).all (·.oneCell') = true := by
  rw [List.all_flatMap]; simp only [List.all_eq_true]; exact fun r _ => List.all_eq_true.1 r.one
/-! ### Nodes -/
structure NodT where
  l : UInt8
  j : Nat
  R : List RecT
  E : List EntT
def nodV (l : UInt8) (j : Nat) (R : List RecT) (E : List EntT) : List Value := [byteV l, .int .u32 ((j : Nat) : Int)] ++ (recsV R ++ entsV E)
namespace NodT
def v (x : NodT) : List Value := nodV x.l x.j x.R x.E
def r (x : NodT) (i : Nat) : RecT := x.R.getD i RecT.zero
def e (x : NodT) (i : Nat) : EntT := x.E.getD i EntT.zero
structure Fit (x : NodT) : Prop where
  j : x.j < 4294967296
  lr : x.R.length = 4
  le : x.E.length = 4
  fr : ∀ r ∈ x.R, r.Fit
  fe : ∀ r ∈ x.E, r.Fit
section
variable {x : NodT}
theorem Fit.r (h : x.Fit) (i : Nat) : (x.r i).Fit := by
  unfold NodT.r
  by_cases hi : i < 4
  · exact h.fr _ (getD_mem4 h.lr hi _)
  · rw [List.getD_eq_getElem?_getD, List.getElem?_eq_none (by have := h.lr; omega)]; exact RecT.zero_fit
theorem Fit.e (h : x.Fit) (i : Nat) : (x.e i).Fit := by
  unfold NodT.e
  by_cases hi : i < 4
  · exact h.fe _ (getD_mem4 h.le hi _)
  · rw [List.getD_eq_getElem?_getD, List.getElem?_eq_none (by have := h.le; omega)]; exact EntT.zero_fit
theorem Fit.lenR (h : x.Fit) : (recsV x.R).length = 140 := by rw [recsV, flat_length (RecT.lens h.fr), h.lr]
theorem Fit.lenE (h : x.Fit) : (entsV x.E).length = 132 := by rw [entsV, flat_length (EntT.lens h.fe), h.le]
theorem Fit.len (h : x.Fit) : x.v.length = 274 := by unfold NodT.v nodV; rw [List.length_append, List.length_append, h.lenR, h.lenE]; rfl
theorem one (x : NodT) : x.v.all (·.oneCell') = true := by
  unfold NodT.v nodV
  rw [List.all_append, List.all_append, RecT.all1, EntT.all1]; rfl
end
/-! The error of a node. -/
/-! The bytes of a node. -/
def sz (n : Nat) : Nat := if n = 0 then 185 else 137
end NodT
/-! ### Bytes written so far -/
/-! ### Numbers -/
/-! ### Contracts that read tables, whose result is told over the heap's size at the call -/
structure FnMB (P : Program) (f : FuncId) (M : Env) (ds : List D) (d : Nat → D) : Prop where
  body : ∃ fn, P.funcs[f]? = some fn ∧ (fn.name == "runtime.NumGoroutine") = false ∧ fn.body.isNone = false
  calls : ∀ (vs : List Value) (w : World), (∀ p ∈ M, p.2.Of w undef) → vs.length = ds.length → (∀ (j : Nat) (e : D) (u : Value), ds[j]? = some e → vs[j]? = some u → e.Of w u) → Calls P f vs.toArray w (PostOf w (d w.heap.size))
theorem FnMB.fn {P : Program} {f : FuncId} {M : Env} {ds : List D} {d : Nat → D} {d' : D} (h : FnMB P f M ds d) (hd : ∀ B, Le (d B) d') : FnM P f M ds d' :=
  ⟨h.body, fun vs w h0 h1 h2 => (h.calls vs w h0 h1 h2).mono fun _ _ ⟨x, he, g, hx⟩ => ⟨x, he, g, (hd _).of hx⟩⟩
theorem FnMB.of {P : Program} {n : Nat} {f : FuncId} {fn : Func} {c : Code} {M : Env} {ds : List D} {d : Nat → D} (hf : P.funcs[f]? = some fn) (hb : fn.body = some c) (hname : (fn.name == "runtime.NumGoroutine") = false) (hn : fn.ntmps = n) (hds : ds.length ≤ n) (hnv : n ≤ vbase) (E : World → Env)
    (hE : ∀ w, StartM w.heap.size ds M (E w)) (h : ∀ w₀, (∀ p ∈ M, p.2.Of w₀ undef) → A Cx.top P w₀ n c (E w₀) (BP P fn (PostOf w₀ (d w₀.heap.size)))) : FnMB P f M ds d := by
  refine ⟨⟨fn, hf, hname, by rw [hb]; rfl⟩, fun vs w hM hl hv => callsIn_FR.1 (callsIn_of_wp_marks (F := FR none) (n := 0) hf hb trivial (h w hM _ w (Below.refl _ _) ⟨Nat.le_refl _, rfl, ?_, fun t e he => ?_⟩))⟩
  · simp [hl, hn]; omega
  · show e.Of w ((vs.toArray ++ Array.replicate (fn.ntmps - vs.toArray.size) undef).getD t undef)
    rcases hE w _ (look_mem he) with ⟨hm, ht⟩ | ⟨d', hd', hor⟩
    · have h1 := hM _ hm
      rwa [Array.getD_eq_getD_getElem?, Array.getElem?_eq_none (by simp [hl, hn]; simp only at ht; omega)]
    · have hlt : t < vs.length := by have := (List.getElem?_eq_some_iff.1 hd').1; simp at this; omega
      have hget : (vs.toArray ++ Array.replicate (fn.ntmps - vs.toArray.size) undef).getD t undef = vs[t] := by
        rw [Array.getD_eq_getD_getElem?, Array.getElem?_append_left (by simpa using hlt)]
        simp [hlt]
      rw [hget]
      have h1 := hv t d' vs[t] hd' (List.getElem?_eq_getElem hlt)
      rcases hor with h2 | h2
      · simp only at h2; rw [h2]; exact h1
      · simp only at h2; rw [h2]; exact ⟨Nat.le_refl _, h1⟩
section
variable {P : Program} {B : Nat} {E : Env} {dst : Option Tmp} {ty : TypeId} {pos : String} {after : Array Edge} {guard : Option (Nat × Bool)}
end
/-! ### Variables of a function that writes several blocks -/
section
variable {P : Program} {n B : Nat} {ops : Array Oper} {E : Env} {ty : TypeId} {pos : String} {after : Array Edge}
theorem eff_newL {o : Oper} {d k : Nat} {T : TypeId} {xs : List Value} (hd : o.dst = some d) (hg : o.guard = none)
    (hrun : ∀ (κ : Cx) a w, St κ n B E a w → (execOp a.eval o).run P w = .ok (.value (.pointer (some ⟨w.heap.size, 0, none⟩))) (w.alloc (.cells xs.toArray T))) (hdn : d < n) :
    EffG P n B ops o E (NewL B E) (fun b => (d, .v (.pointer (some ⟨b, 0, none⟩))) :: (k, blk b T xs) :: E) := by
  intro κ a w K Q h hK
  rw [if_pos (by simp [Region.wanted, hg])]
  refine opR (not_defer (hrun κ a w h)) ?_
  unfold Oper.wp
  rw [hrun κ a w h, Oper.upon_value, hd]
  have hbel : Below B w (w.alloc (.cells xs.toArray T)) := (Below.refl B w).alloc h.base _
  have hst := h.grow (Grow.alloc w (.cells xs.toArray T))
  refine hK w.heap.size _ _ ⟨h.base, fun s b' e ys hs => (h.of s _ hs).1, fun s gs w₁ hs => (h.of s _ hs).2.size⟩ hbel (St.put (hst.push ?_) hdn rfl)
  exact ⟨by simp, heap_alloc_new w _⟩
theorem eff_allocL {T : TypeId} {zs : List Value} {d k : Nat} (hz : ZeroIs P T zs) (hdn : d < n) :
    EffG P n B ops ⟨some d, .alloc T, ty, pos, after, none⟩ E (NewL B E) (fun b => (d, .v (.pointer (some ⟨b, 0, none⟩))) :: (k, blk b T zs) :: E) :=
  eff_newL rfl rfl (fun _ a w _ => by
    obtain ⟨i, z, hi, hz, hc⟩ := hz.get
    simp [execOp, Instr.alloc, zeroValue, typeInfo, hi, hz, newVar, newRow, hc]) hdn
theorem eff_boxL {T : TypeId} {x : Operand} {xs : List Value} {d k : Nat} (hx : E.at x = some (.v (aggV xs))) (hdn : d < n) :
    EffG P n B ops ⟨some d, .box T x, ty, pos, after, none⟩ E (NewL B E) (fun b => (d, .v (.pointer (some ⟨b, 0, none⟩))) :: (k, blk b T xs) :: E) :=
  eff_newL rfl rfl (fun _ a w h => by
    have h1 : a.eval x = aggV xs := h.at_ x _ hx
    simp [execOp, Instr.box, newVar, newRow, h1, aggV, Value.cells]) hdn
end
/-! ### A drawn region whose operations may come up late, at a function's end -/
section
variable {P : Program} {n B : Nat} {ops : Array Oper} {Q : Exit → Act → World → Prop}
theorem A.regL0 {w₀ : World} {E : Env} {id : Nat} (p : Nat) (late : List Nat) (hm : P.follows .mixedOrders = true) (hf : fits n ops = true) (htied : tied ops = true) (hlate : lateOk ops p late = true) (Z : Env)
    (h : RunK P w₀.heap.size ops (ops.toList.take p) E (fun E₁ => ∀ S ∈ subs late, ∃ m, LateT P n w₀.heap.size ops (fun E₃ => SubL Z E₃) p m S E₁)) (hz : End κ w₀ n Z (Q .normal)) : A κ P w₀ n (.region id ops true) E Q := fun a w hg hst => by
  obtain ⟨E₁, hr, hC⟩ := h
  obtain ⟨ds, ht⟩ := hr.trace
  have hd : Below w₀.heap.size w w.drew := (Below.refl _ w).drew
  have hst0 : St κ n w₀.heap.size E a w.drew := hst.grow (Grow.refl w).drew
  refine wpIn_region_any hm (wp_segL htied hf hlate ht hst0 (fun S hS fuel a' w' hfu g h' => ?_) _ _ a w.drew ?_ (start_inv (Nat.zero_le _) htied (by simp) (fun i hi => by simp [hi]) hst0))
  · obtain ⟨m, hmu, E₀, hsub, hkeep, o, ho, E₂, he, hn⟩ := hC S hS
    have h0 : St κ n w₀.heap.size E₀ a' w' := ⟨h'.base, h'.defers, h'.size, fun t e he => by
      have hm := look_mem he
      exact h'.of t e (look_without (List.all_eq_true.1 hkeep t (List.mem_map.2 ⟨_, hm, rfl⟩)) (hsub _ hm))⟩
    refine wpOpR_step ho fun K hK => he κ a' w' K _ h0 fun a'' w'' g' h'' => hK _ _ (wp_anyE (hn.mono (k := fuel) (by omega)) h'' fun E3 a3 w3 hC3 g3 h3 => ?_)
    exact hz a3 w3 (Below.trans hg (Below.trans hd (Below.trans (Below.mono g hst.base) (Below.trans g' g3)))) (h3.subL hC3)
  · refine Nat.le_trans List.countP_le_length ?_
    simp
end
end Go.Proofs.Ytggijkmlmklneaa
