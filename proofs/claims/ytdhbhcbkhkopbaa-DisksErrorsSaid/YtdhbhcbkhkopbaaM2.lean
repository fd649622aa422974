/-
  OWN TEXTS of this seat, put together, part 2: Calls, More, Any, Hold, Keep, Chain, Pair, Use, PredF, Ledg, Parts, Nonce, LedL, Late, Disk, Text, RangeX, Shape, C14a, Disk2, C14b.
-/
import Derived.Test.YtdhbhcbkhkopbaaM1
import Derived.Lib.SliceRun
import Derived.Test.YtdhbhcbkhkopbaaProg
namespace Go.Proofs.Ytdhbhcbkhkopbaa
open Go Go.RowKit
variable {κ : Cx}

/-- A contract: block g, whose cells are xs, is left with the cells ys, and u is returned; M tells of other memory. -/
structure FnWR (P : Program) (f : FuncId) (M : Env) (T g : Nat) (xs ys : List Value) (ds : List D) (u : Value) : Prop where
  body : ∃ fn, P.funcs[f]? = some fn ∧ (fn.name == "runtime.NumGoroutine") = false ∧ fn.body.isNone = false
  calls : ∀ (vs : List Value) (w : World), vs.length = ds.length → (∀ (j : Nat) (e : D) (u : Value), ds[j]? = some e → vs[j]? = some u → e.Of w u) → (∀ p ∈ M, p.2.Of w undef) → g < w.heap.size → w.heap[g]? = some (.cells xs.toArray T (0, 0)) →
    Calls P f vs.toArray w fun e w' => e = .returned u ∧ Wrote g T g w w' ∧ w'.heap[g]? = some (.cells ys.toArray T (0, 0))
section
variable {P : Program} {n B : Nat} {ops : Array Oper} {E : Env} {ty : TypeId} {pos : String} {after : Array Edge}
theorem FnWR.of {f : FuncId} {fn : Func} {c : Code} {M : Env} {T g kb kw : Nat} {xs ys us : List Value} {u : Value} (hf : P.funcs[f]? = some fn) (hb : fn.body = some c) (hname : (fn.name == "runtime.NumGoroutine") = false) (hn : fn.ntmps = n) (hds : us.length ≤ n) (hnv : n ≤ vbase)
    (hMb : ∀ p ∈ M, vbase ≤ p.1) (hkb : vbase ≤ kb) (hkw : vbase ≤ kw) (args : Env) (hargs : ∀ p ∈ args, ∃ v, p.2 = .v v ∧ us[p.1]? = some v)
    (h : ∀ w₀ w₁ : World, w₀.heap.size = g → A Cx.top P w₀ n c (args ++ ((kb, blk g T xs) :: (kw, wroteD T g w₁) :: M)) (BP P fn fun e w' => e = .returned u ∧ Wrote g T g w₁ w' ∧ w'.heap[g]? = some (.cells ys.toArray T (0, 0)))) :
    FnWR P f M T g xs ys (us.map D.v) u := by
  refine ⟨⟨fn, hf, hname, by rw [hb]; rfl⟩, fun vs w hl hv hM hlt hh => ?_⟩
  have hvs : vs = us := by
    apply List.ext_getElem?
    intro j
    simp only [List.length_map] at hl
    rcases Nat.lt_or_ge j us.length with hj | hj
    · have h1 := hv j (.v us[j]) vs[j] (by simp [hj]) (List.getElem?_eq_getElem (by omega))
      rw [List.getElem?_eq_getElem hj, List.getElem?_eq_getElem (by omega)]
      exact congrArg some h1
    · rw [List.getElem?_eq_none hj, List.getElem?_eq_none (by omega)]
  subst hvs
  have hsz := cutW_size (w := w) (g := g) (Nat.le_of_lt hlt)
  refine callsIn_FR.1 (callsIn_of_wp_marks (F := FR none) (n := 0) hf hb trivial (h (cutW w g) w hsz _ w (cutW_below (Nat.le_of_lt hlt)) ⟨by rw [hsz]; omega, rfl, ?_, fun t e he => ?_⟩))
  · simp [hn]; omega
  · show e.Of w ((vs.toArray ++ Array.replicate (fn.ntmps - vs.toArray.size) undef).getD t undef)
    have hund : vbase ≤ t → (vs.toArray ++ Array.replicate (fn.ntmps - vs.toArray.size) undef).getD t undef = undef := fun ht => by
      rw [Array.getD_eq_getD_getElem?, Array.getElem?_eq_none (by simp [hn]; omega)]; rfl
    rcases List.mem_append.1 (look_mem he) with hm | hm
    · obtain ⟨v, h1, h2⟩ := hargs _ hm
      simp only at h1 h2
      have hj : t < vs.length := (List.getElem?_eq_some_iff.1 h2).1
      rw [Array.getD_eq_getD_getElem?, Array.getElem?_append_left (by simpa using hj)]
      subst h1
      simp [h2]; rfl
    · rcases List.mem_cons.1 hm with h1 | hm
      · injection h1 with h1 h2; subst h1; subst h2
        exact ⟨hlt, hh⟩
      · rcases List.mem_cons.1 hm with h1 | hm
        · injection h1 with h1 h2; subst h1; subst h2
          exact ⟨Nat.le_refl _, Nat.le_refl _, rfl, rfl, rfl, Nat.le_refl _, fun o ho => by rw [hh] at ho; injection ho with ho; exact ⟨_, _, ho.symm⟩, fun _ _ _ => rfl⟩
        · have h1 := hMb _ hm
          rw [hund h1]
          exact hM _ hm
end

/-! ### Function values that hold two variables of several cells -/
section
variable {P : Program} {n : Nat} {w₀ : World} {E : Env}
/-- A slice that came in gets a name: of its value something is known in memory. -/
def valM (v : Value) (d : D) : D := .p (fun B w _ => d.OfB B w v) (fun _ _ _ _ g h => h.keep g) (fun _ _ _ _ g h => h.up g)
end
section
variable {P : Program} {B : Nat} {E : Env} {dst : Option Tmp} {ty : TypeId} {pos : String} {after : Array Edge} {guard : Option (Nat × Bool)}
/-- What a value means in memory that is known. -/
theorem OpOk.fact {o : Oper} {v : Value} {d : D} {s b : Nat} {e : TypeId} {xs : List Value} (h : OpOk P B o E (.v v)) (hs : vbase ≤ s) (hk : E.look s = some (blk b e xs)) (hd : ∀ B w, b < B → w.heap[b]? = some (.cells xs.toArray e (0, 0)) → d.OfB B w v) : OpOk P B o E d := fun ρ w hB hv hρ => by
  refine (h ρ w hB hv hρ).mono fun x w' hx => ⟨hx.1, ?_⟩
  obtain ⟨h1, h2⟩ := (hv s _ hs hk : (blk b e xs).Of w undef)
  have h3 : (blk b e xs).Of w' undef := D.Of.grow (d := blk b e xs) ⟨h1, h2⟩ hx.1
  obtain ⟨h4, h5⟩ := h3
  rw [show x = v from hx.2]
  exact hd _ _ h4 h5
end
end Go.Proofs.Ytdhbhcbkhkopbaa
namespace Go.Proofs.Ytdhbhcbkhkopbaa
open Go Go.RowKit
section
variable {P : Program} {B : Nat} {E : Env} {dst : Option Tmp} {ty : TypeId} {pos : String} {after : Array Edge} {guard : Option (Nat × Bool)}
end
end Go.Proofs.Ytdhbhcbkhkopbaa
namespace Go.Proofs.Ytdhbhcbkhkopbaa
open Go Go.RowKit
section
variable {P : Program} {n B : Nat} {ops : Array Oper} {C : Env → Prop} {κ : Cx} {Q : Exit → Act → World → Prop}
/-- What is to be shown from here on, in every order. -/
def AnyT (P : Program) (n B : Nat) (ops : Array Oper) (C : Env → Prop) : Nat → Array Bool → Env → Prop
  | 0, listed, E => Region.ready .any ops listed = [] ∧ C E
  | fuel + 1, listed, E => (Region.ready .any ops listed = [] ∧ C E) ∨ (Region.ready .any ops listed ≠ [] ∧ ∀ i ∈ Region.ready .any ops listed, ∃ o, ops[i]? = some o ∧ ∃ (ι : Type) (G : ι → Prop) (E₂ : ι → Env), EffG P n B ops o E G E₂ ∧ ∀ j, G j → AnyT P n B ops C fuel (listed.setIfInBounds i true) (E₂ j))
/-- One operation after the other. -/
def NextT (P : Program) (n B : Nat) (ops : Array Oper) (C : Env → Prop) (fuel : Nat) (listed : Array Bool) (E : Env) : List Nat → Prop
  | [] => True
  | i :: r => (∃ o, ops[i]? = some o ∧ ∃ (ι : Type) (G : ι → Prop) (E₂ : ι → Env), EffG P n B ops o E G E₂ ∧ ∀ j, G j → AnyT P n B ops C fuel (listed.setIfInBounds i true) (E₂ j)) ∧ NextT P n B ops C fuel listed E r
theorem NextT.all {fuel : Nat} {listed : Array Bool} {E : Env} : ∀ {is : List Nat}, NextT P n B ops C fuel listed E is → ∀ i ∈ is, ∃ o, ops[i]? = some o ∧ ∃ (ι : Type) (G : ι → Prop) (E₂ : ι → Env), EffG P n B ops o E G E₂ ∧ ∀ j, G j → AnyT P n B ops C fuel (listed.setIfInBounds i true) (E₂ j)
  | [], _, i, hi => by cases hi
  | k :: r, h, i, hi => by
    rcases List.mem_cons.1 hi with rfl | hi
    · exact h.1
    · exact NextT.all h.2 i hi
theorem AnyT.last {fuel : Nat} {listed : Array Bool} {E : Env} (hr : Region.ready .any ops listed = []) (hC : C E) : AnyT P n B ops C fuel listed E := by
  cases fuel with
  | zero => exact ⟨hr, hC⟩
  | succ fuel => exact .inl ⟨hr, hC⟩
theorem AnyT.step {fuel : Nat} {listed : Array Bool} {E : Env} (i : Nat) (is : List Nat) (hr : Region.ready .any ops listed = i :: is) (h : NextT P n B ops C fuel listed E (i :: is)) : AnyT P n B ops C (fuel + 1) listed E :=
  .inr ⟨by rw [hr]; simp, by rw [hr]; exact h.all⟩
/-- An operation that changes nothing. -/
theorem NextT.pure {fuel : Nat} {listed : Array Bool} {E : Env} {i t : Nat} {d : D} {o : Oper} {r : List Nat} (hf : fits n ops = true) (ho : ops[i]? = some o) (ht : o.dst = some t) (hg : o.guard = none) (hok : OpOk P B o E d) (h : AnyT P n B ops C fuel (listed.setIfInBounds i true) ((t, d) :: E)) (hr : NextT P n B ops C fuel listed E r) :
    NextT P n B ops C fuel listed E (i :: r) := by
  refine ⟨⟨o, ho, Unit, fun _ => True, fun _ => (t, d) :: E, fun κ a w K Q hs hK => ?_, fun _ _ => h⟩, hr⟩
  have hfo := fits_mem hf (o := o) (by simpa using Array.mem_of_getElem? ho)
  exact good_wp hs.base (hs.virt (fits_base hf)) ht (.inl ⟨by simp [GuardIs, hg], hok⟩) (fun s e _ he => hs.of s e he) (fun s hs' => by rw [hs.size]; exact hfo.1 s hs') fun x w' g hx => hK () _ _ trivial (Below.mono g hs.base) ((hs.grow g).put (hfo.2 t ht) hx)
/-- An operation that changes memory. -/
theorem NextT.eff {fuel : Nat} {listed : Array Bool} {E E' : Env} {i : Nat} {o : Oper} {r : List Nat} (ho : ops[i]? = some o) (he : Eff P n B ops o E E') (h : AnyT P n B ops C fuel (listed.setIfInBounds i true) E') (hr : NextT P n B ops C fuel listed E r) :
    NextT P n B ops C fuel listed E (i :: r) := ⟨⟨o, ho, Unit, fun _ => True, fun _ => E', he.g, fun _ _ => h⟩, hr⟩
theorem wp_anyE : ∀ {fuel : Nat} {listed : Array Bool} {E : Env} {a : Act} {w : World}, AnyT P n B ops C fuel listed E → St κ n B E a w → (∀ E' a' w', C E' → Below B w w' → St κ n B E' a' w' → Q .normal a' w') → wpAnyIn (FR κ.rd) 0 P .any ops Q fuel listed a w
  | 0, _, _, _, w, ⟨hr, hC⟩, hs, hQ => ⟨hr, hQ _ _ _ hC (Below.refl B w) hs⟩
  | fuel + 1, _, _, _, w, .inl ⟨hr, hC⟩, hs, hQ => ⟨fun _ => hQ _ _ _ hC (Below.refl B w) hs, fun i hi => by rw [hr] at hi; cases hi⟩
  | fuel + 1, _, _, _, w, .inr ⟨hne, h⟩, hs, hQ => ⟨fun hr => absurd hr hne, fun i hi => by
    obtain ⟨o, ho, ι, G, E₂, he, hn⟩ := h i hi
    exact wpOpR_step ho fun K hK => he κ _ _ K Q hs fun j a' w' hj g' h' => hK _ _ (wp_anyE (hn j hj) h' fun E' a3 w3 hC g3 h3 => hQ E' a3 w3 hC (g'.trans g3) h3)⟩
end
end Go.Proofs.Ytdhbhcbkhkopbaa
namespace Go.Proofs.Ytdhbhcbkhkopbaa
open Go Go.RowKit
variable {κ : Cx}

/-! ### Slices of values that are known -/
def vlist (us : List Value) (c : Nat) : D := list (us.map D.v) c
def vlst (us : List Value) : D := lst (us.map D.v)
theorem le_vlst (us : List Value) (c : Nat) : Le (vlist us c) (vlst us) := le_lst _ c
theorem vlist_mk {us : List Value} {c B : Nat} {w : World} {A : Option Addr} (h1 : us.length ≤ c) (h2 : c ≤ maxLen) (h : RowIn B w A us) : (vlist us c).OfB B w (.slice A us.length c) :=
  ⟨A, us, by simp, by simpa using h1, h2, by simp, h, fun j d u hd hu => by
    simp only [List.getElem?_map, hu, Option.map_some, Option.some.injEq] at hd
    subst hd; rfl⟩
/-! ### Structs whose first field is told by a fact -/
def hdD (f : D) (rest : List Value) : D :=
  .p (fun B w x => ∃ v : Value, v.oneCell' = true ∧ x = aggV (v :: rest) ∧ f.OfB B w v) (fun _ _ _ _ g ⟨v, h1, h2, h3⟩ => ⟨v, h1, h2, h3.keep g⟩) (fun _ _ _ _ g ⟨v, h1, h2, h3⟩ => ⟨v, h1, h2, h3.up g⟩)
section
variable {P : Program} {w₀ : World} {n : Nat} {c : Code} {E : Env} {Q : Exit → Act → World → Prop}
end
section
variable {P : Program} {B : Nat} {E : Env} {o : Oper}
theorem OpOk.valO {v : Value} {f : D} {k B' : Nat} (h : OpOk P B o E (.v v)) (hk : vbase ≤ k) (hl : E.look k = some (old B' (valM v f))) : OpOk P B o E (old B' f) := fun ρ w hB hv hρ => by
  refine (h ρ w hB hv hρ).mono fun x w' hx => ⟨hx.1, ?_⟩
  have h2 : (old B' (valM v f)).Of w' undef := D.Of.grow (hv k _ hk hl) hx.1
  rw [show x = v from hx.2]
  exact h2
theorem OpOk.valP {v : Value} {f : D} {k : Nat} (h : OpOk P B o E (.v v)) (hk : vbase ≤ k) (hl : E.look k = some (valM v f)) : OpOk P B o E f := fun ρ w hB hv hρ => by
  refine (h ρ w hB hv hρ).mono fun x w' hx => ⟨hx.1, ?_⟩
  have h2 : (valM v f).Of w' undef := D.Of.grow (hv k _ hk hl) hx.1
  rw [show x = v from hx.2]
  exact h2
variable {dst : Option Tmp} {ty : TypeId} {pos : String} {after : Array Edge} {guard : Option (Nat × Bool)}
theorem ok_extractV {x : Operand} {i : Nat} {xs : List Value} {u : Value} (hx : E.at x = some (.v (.tuple xs.toArray))) (hi : xs[i]? = some u) : OpOk P B ⟨dst, .extract x i, ty, pos, after, guard⟩ E (.v u) := fun ρ w _ _ hρ => by
  have h1 : ρ x = .tuple xs.toArray := hρ x (by simp [Op.operands]) _ hx
  exact out_val (x := u) (w' := w) (by simp [execOp, h1, Instr.extract, hi]) ⟨Grow.refl w, rfl⟩
end

/-! ### New blocks, named where they are made -/
def newD (base : Nat) (e : TypeId) (val : Nat → Value) (xs : List Value) : D :=
  .p (fun B w x => ∃ b, x = val b ∧ base ≤ b ∧ b < B ∧ w.heap[b]? = some (.cells xs.toArray e (0, 0)))
    (fun _ _ _ _ g ⟨b, h1, h2, h3, h4⟩ => ⟨b, h1, h2, h3, (g.block b h3).trans h4⟩) (fun _ _ _ _ g ⟨b, h1, h2, h3, h4⟩ => ⟨b, h1, h2, by omega, h4⟩)
theorem fresh_newD {B : Nat} {e : TypeId} {xs : List Value} {n : Nat} : Le (fresh B e xs n) (newD B e (fun b => .slice (some ⟨b, 0, none⟩) n xs.length) xs) := fun _ _ _ ⟨b, h1, h2, h3, h4⟩ => ⟨b, h1, h2, h3, h4⟩
theorem eff_name {P : Program} {n B : Nat} {ops : Array Oper} {E : Env} {o : Oper} {d k : Nat} {e : TypeId} {val : Nat → Value} {xs : List Value} (ht : o.dst = some d) (hg : o.guard = none) (hok : ∀ B', OpOk P B' o E (newD B' e val xs)) (hdn : d < n) (hnv : n ≤ vbase) :
    EffG P n B ops o E (NewB B E) (fun b => (d, .v (val b)) :: (k, blk b e xs) :: E) := by
  intro κ a w K Q h hK
  rw [if_pos (by simp [Region.wanted, hg])]
  refine wp_of_out ht ((hok w.heap.size a.eval w (Nat.le_refl _) (h.virt hnv) fun x _ u hu => h.at_ x _ hu).mono ?_)
  rintro x w' ⟨hgr, b, rfl, hb, hlt, hh⟩
  refine hK b _ _ ⟨Nat.le_trans h.base hb, fun s b' e ys hs => Nat.lt_of_lt_of_le (h.of s _ hs).1 hb⟩ (Below.mono hgr h.base) (St.put ?_ hdn rfl)
  exact (h.grow hgr).push (t := k) (d := blk b e xs) ⟨hlt, hh⟩
theorem eff_nameF {P : Program} {n B : Nat} {ops : Array Oper} {E : Env} {o : Oper} {d k m : Nat} {e : TypeId} {xs : List Value} {c : Nat} (hc : xs.length = c) (ht : o.dst = some d) (hg : o.guard = none) (hok : ∀ B', OpOk P B' o E (fresh B' e xs m)) (hdn : d < n) (hnv : n ≤ vbase) :
    EffG P n B ops o E (NewB B E) (fun b => (d, .v (.slice (some ⟨b, 0, none⟩) m c)) :: (k, blk b e xs) :: E) := hc ▸ eff_name ht hg (fun B' => (hok B').le fresh_newD) hdn hnv

/-! ### Ends -/
section
variable {P : Program} {n : Nat} {w₀ : World} {E : Env}
theorem load_cell {w : World} {b : Nat} {e T : TypeId} {td : TypeDesc} {xs : List Value} (ht : P.underlying T = some td) (hp : (match td with | .struct _ | .array _ _ => true | _ => false) = true) (hsz : SizeIs P T xs.length) (hh : w.heap[b]? = some (.cells xs.toArray e (0, 0))) :
    (loadVar T ⟨b, 0, none⟩).run P w = .ok (aggV xs) w := by
  have := run_loadVar_row (P := P) w b e T xs.toArray (0, 0) td hh ht hp (by simpa [SizeIs] using hsz)
  simpa [aggV] using this
theorem End.newT {fn : Func} {r s b g kg r' : Nat} {T e' e : TypeId} {td : TypeDesc} {ys zs xs : List Value} {v' : Value} {val : Nat → Value} (hr : fn.results = #[.cell r T, .tmp r']) (ht : P.underlying T = some td) (hp : (match td with | .struct _ | .array _ _ => true | _ => false) = true) (hsz : SizeIs P T ys.length)
    (h1 : E.look r = some (.v (.pointer (some ⟨b, 0, none⟩)))) (h2 : E.look s = some (blk b e' ys)) (h5 : E.look r' = some (.v v')) (h4 : E.look kg = some (blk g e zs)) (hg : w₀.heap.size ≤ g) (hv : val g = .tuple #[aggV ys, v']) (hz : zs = xs) :
    End Cx.top w₀ n E (BP P fn (PostOf w₀ (newD w₀.heap.size e val xs)) .ret) := fun a w gr hs => by
  subst hz
  have h3 : a.tmps[r]?.getD undef = .pointer (some ⟨b, 0, none⟩) := by rw [← Array.getD_eq_getD_getElem?]; exact hs.of r _ h1
  have h6 : a.tmps[r']?.getD undef = v' := by rw [← Array.getD_eq_getD_getElem?]; exact hs.of r' _ h5
  obtain ⟨_, hh⟩ := hs.of s _ h2
  obtain ⟨hl', hh'⟩ := hs.of kg _ h4
  exact BP.ret hs.defers ⟨.tuple #[aggV ys, v'], by simp [results, hr, h3, h6, asAddr, load_cell ht hp hsz hh], _, rfl, gr, g, hv.symm, hg, hl', hh'⟩
theorem End.cellV {fn : Func} {r s b r' : Nat} {T e' : TypeId} {td : TypeDesc} {ys : List Value} {v' : Value} (hr : fn.results = #[.cell r T, .tmp r']) (ht : P.underlying T = some td) (hp : (match td with | .struct _ | .array _ _ => true | _ => false) = true) (hsz : SizeIs P T ys.length)
    (h1 : E.look r = some (.v (.pointer (some ⟨b, 0, none⟩)))) (h2 : E.look s = some (blk b e' ys)) (h5 : E.look r' = some (.v v')) : End Cx.top w₀ n E (BP P fn (PostOf w₀ (.v (.tuple #[aggV ys, v']))) .ret) := fun a w gr hs => by
  have h3 : a.tmps[r]?.getD undef = .pointer (some ⟨b, 0, none⟩) := by rw [← Array.getD_eq_getD_getElem?]; exact hs.of r _ h1
  have h6 : a.tmps[r']?.getD undef = v' := by rw [← Array.getD_eq_getD_getElem?]; exact hs.of r' _ h5
  obtain ⟨_, hh⟩ := hs.of s _ h2
  exact BP.ret hs.defers ⟨.tuple #[aggV ys, v'], by simp [results, hr, h3, h6, asAddr, load_cell ht hp hsz hh], _, rfl, gr, rfl⟩
/-- Two values, both known. -/
theorem End.ret2V {fn : Func} {r s : Nat} {u v : Value} (hr : fn.results = #[.tmp r, .tmp s]) (h1 : E.look r = some (.v u)) (h2 : E.look s = some (.v v)) : End Cx.top w₀ n E (BP P fn (PostOf w₀ (.v (.tuple #[u, v]))) .ret) := fun a w gr hs => by
  have h3 : a.tmps[r]?.getD undef = u := by rw [← Array.getD_eq_getD_getElem?]; exact hs.of r _ h1
  have h4 : a.tmps[s]?.getD undef = v := by rw [← Array.getD_eq_getD_getElem?]; exact hs.of s _ h2
  exact BP.ret hs.defers ⟨.tuple #[u, v], by simp [results, hr, h3, h4], _, rfl, gr, rfl⟩
end

/-! ### copy, clear -/
section
variable {P : Program} {n B : Nat} {ops : Array Oper} {E : Env} {ty : TypeId} {pos : String} {after : Array Edge}
end
end Go.Proofs.Ytdhbhcbkhkopbaa
namespace Go.Proofs.Ytdhbhcbkhkopbaa
open Go Go.RowKit
variable {κ : Cx}
theorem own_oneC {B' B n : Nat} {e : TypeId} {xs : List Value} {w : World} {v : Value} (h : (own B e n xs).OfB B' w v) : v.oneCell' = true := by
  obtain ⟨⟨_, h2⟩, _⟩ := h
  rcases h2 with ⟨rfl, _⟩ | ⟨g, cap, cur, rfl, _⟩ <;> rfl
theorem St.oneM {n B : Nat} {E : Env} {a : Act} {w : World} {k B' m : Nat} {v : Value} {e : TypeId} {xs : List Value} (h : St κ n B E a w) (hk : E.look k = some (ownM B' v e m xs)) : v.oneCell' = true := own_oneC (h.of k _ hk)
theorem own_vlst {B n : Nat} {e : TypeId} {xs : List Value} (hn : n = xs.length) : Le (own B e n xs) (vlst xs) := own_le hn
section
variable {P : Program} {B : Nat} {E : Env} {o : Oper}
theorem OpOk.valOwn {v : Value} {k B' m : Nat} {e : TypeId} {xs : List Value} (h : OpOk P B o E (.v v)) (hk : vbase ≤ k) (hl : E.look k = some (ownM B' v e m xs)) : OpOk P B o E (own B' e m xs) := fun ρ w hB hv hρ => by
  refine (h ρ w hB hv hρ).mono fun x w' hx => ⟨hx.1, ?_⟩
  have h2 : (ownM B' v e m xs).Of w' undef := D.Of.grow (hv k _ hk hl) hx.1
  rw [show x = v from hx.2]
  exact h2
end
section
variable {P : Program} {n : Nat} {w₀ : World} {E : Env}
theorem A.oneM {c : Code} {Q : Exit → Act → World → Prop} {k B' m : Nat} {v : Value} {e : TypeId} {xs : List Value} (hk : E.look k = some (ownM B' v e m xs)) (h : v.oneCell' = true → A κ P w₀ n c E Q) : A κ P w₀ n c E Q := fun a w g hs => h (own_oneC (hs.of k _ hk)) a w g hs
end
/-! ### A row with room behind it, named where it is made -/
/-! ### Variables -/
theorem Surv.hd {B T g : Nat} {f : D} {rest : List Value} (h : Surv B T g f) : Surv B T g (hdD f rest) := fun w w' _ k ⟨v, h1, h2, h3⟩ => ⟨v, h1, h2, h w w' v k h3⟩
theorem Surv.valM {B T g : Nat} {f : D} {v : Value} (h : Surv B T g f) : Surv B T g (Go.Proofs.Ytdhbhcbkhkopbaa.valM v f) := fun w w' _ k hx => h w w' v k hx
section
variable {P : Program} {n B : Nat} {ops : Array Oper} {E : Env} {ty : TypeId} {pos : String} {after : Array Edge}
end
/-- Some value. -/
def anyD : D := .p (fun _ _ _ => True) (fun _ _ _ _ _ _ => trivial) (fun _ _ _ _ _ _ => trivial)
theorem Surv.any {B T g : Nat} : Surv B T g anyD := fun _ _ _ _ _ => trivial
end Go.Proofs.Ytdhbhcbkhkopbaa
namespace Go.Proofs.Ytdhbhcbkhkopbaa
open Go Go.RowKit
variable {κ : Cx}

def RelX (eff : Bool) (B : Nat) (w w' : World) : Prop := if eff then Below B w w' else Grow w w'
theorem RelX.below {eff : Bool} {B : Nat} {w w' : World} (h : RelX eff B w w') (hB : B ≤ w.heap.size) : Below B w w' := by
  cases eff with
  | true => exact h
  | false => exact Below.mono (show Grow w w' from h) hB
def OpOkX (eff : Bool) (P : Program) (B : Nat) (o : Oper) (E : Env) (d : D) : Prop :=
  ∀ (ρ : Operand → Value) (w : World), B ≤ w.heap.size → (∀ t e, vbase ≤ t → E.look t = some e → e.Of w undef) → (∀ x, x ∈ o.op.operands → ∀ e, E.at x = some e → e.Of w (ρ x)) → Out P o ρ w fun x w' => RelX eff B w w' ∧ d.Of w' x
def GoodX (eff : Bool) (P : Program) (B : Nat) (ops : Array Oper) (o : Oper) (E : Env) (d : D) : Prop :=
  (GuardIs ops E o true ∧ OpOkX eff P B o E d) ∨ (GuardIs ops E o false ∧ d = .v undef)
/-- Of an operation: does it change memory, does what is told of its value stay true whatever happens above the base, and which operation makes it untrue. -/
structure Mk where
  eff : Bool
  stab : Bool
  kill : Option Nat
section
variable {P : Program} {B : Nat} {ops : Array Oper} {Q : Exit → Act → World → Prop}
inductive TraceX (P : Program) (B : Nat) (ops : Array Oper) : List Oper → Env → List Mk → List D → Env → Prop
  | nil {E : Env} : TraceX P B ops [] E [] [] E
  | cons {o : Oper} {rest : List Oper} {E E' : Env} {t : Nat} {d : D} {ds : List D} {m : Mk} {ms : List Mk} (ht : o.dst = some t) (hg : GoodX m.eff P B ops o E d) (hs : m.stab = true → Stays B d) (hr : TraceX P B ops rest ((t, d) :: E) ms ds E') : TraceX P B ops (o :: rest) E (m :: ms) (d :: ds) E'
theorem TraceX.nth {rest : List Oper} {E E' : Env} {ms : List Mk} {ds : List D} (h : TraceX P B ops rest E ms ds E') : ∀ {i : Nat} {o : Oper}, rest[i]? = some o →
    ∃ t d Ei m, o.dst = some t ∧ ds[i]? = some d ∧ ms[i]? = some m ∧ GoodX m.eff P B ops o Ei d ∧ (m.stab = true → Stays B d) ∧ ∀ s e, Ei.look s = some e →
      (∃ j o', j < i ∧ rest[j]? = some o' ∧ o'.dst = some s ∧ ds[j]? = some e) ∨ ((∀ j o', j < i → rest[j]? = some o' → o'.dst ≠ some s) ∧ E.look s = some e) := by
  induction h with
  | nil => intro i o hi; simp at hi
  | @cons o0 rest E E' t0 d0 ds m0 ms ht hg hs hr ih =>
    intro i o hi
    cases i with
    | zero =>
      simp at hi; subst hi
      exact ⟨t0, d0, E, m0, ht, rfl, rfl, hg, hs, fun s e he => .inr ⟨fun j _ hj => by omega, he⟩⟩
    | succ i =>
      obtain ⟨t, d, Ei, m, h1, h2, h2', h3, h3', h4⟩ := ih (i := i) (by simpa using hi)
      refine ⟨t, d, Ei, m, h1, by simpa using h2, by simpa using h2', h3, h3', fun s e he => ?_⟩
      rcases h4 s e he with ⟨j, o', hj, ho', hd, hds⟩ | ⟨hno, hl⟩
      · exact .inl ⟨j + 1, o', by omega, by simpa using ho', hd, by simpa using hds⟩
      · by_cases hs : t0 = s
        · subst hs
          rw [look_here] at hl
          exact .inl ⟨0, o0, by omega, rfl, ht, by simpa using hl⟩
        · rw [look_past _ _ hs] at hl
          refine .inr ⟨fun j o' hj ho' => ?_, hl⟩
          cases j with
          | zero => simp at ho'; subst ho'; rw [ht]; intro h; injection h with h; exact hs h
          | succ j => exact hno j o' (by omega) (by simpa using ho')
theorem TraceX.last {rest : List Oper} {E E' : Env} {ms : List Mk} {ds : List D} (h : TraceX P B ops rest E ms ds E') : ∀ s e, E'.look s = some e →
      (∃ (j : Nat) (o' : Oper), rest[j]? = some o' ∧ o'.dst = some s ∧ ds[j]? = some e) ∨ ((∀ (j : Nat) (o' : Oper), rest[j]? = some o' → o'.dst ≠ some s) ∧ E.look s = some e) := by
  induction h with
  | nil => intro s e he; exact .inr ⟨fun j _ hj => by simp at hj, he⟩
  | @cons o0 rest E E' t0 d0 ds m0 ms ht hg hs hr ih =>
    intro s e he
    rcases ih s e he with ⟨j, o', ho', hd, hds⟩ | ⟨hno, hl⟩
    · exact .inl ⟨j + 1, o', by simpa using ho', hd, by simpa using hds⟩
    · by_cases hs : t0 = s
      · subst hs
        rw [look_here] at hl
        exact .inl ⟨0, o0, rfl, ht, by simpa using hl⟩
      · rw [look_past _ _ hs] at hl
        refine .inr ⟨fun j o' ho' => ?_, hl⟩
        cases j with
        | zero => simp at ho'; subst ho'; rw [ht]; intro h; injection h with h; exact hs h
        | succ j => exact hno j o' (by simpa using ho')
/-- The region gone through in the order of the text. -/
def RunX (P : Program) (B : Nat) (ops : Array Oper) (rest : List Oper) (E : Env) (ms : List Mk) (C : Env → Prop) : Prop := ∃ ds E', TraceX P B ops rest E ms ds E' ∧ C E'
variable {E : Env} {C : Env → Prop} {o : Oper} {rest : List Oper} {t : Nat} {d : D} {ms : List Mk}
theorem RunX.nil (h : C E) : RunX P B ops [] E [] C := ⟨[], E, .nil, h⟩
theorem OpOk.x (h : OpOk P B o E d) : OpOkX false P B o E d := fun ρ w hB hv hρ => (h ρ w hB hv hρ).mono fun _ _ hx => ⟨hx.1, hx.2⟩
theorem RunX.step {st : Bool} {kl : Option Nat} (ht : o.dst = some t) (hg : o.guard = none) (h : OpOk P B o E d) (hs : st = true → Stays B d) (hr : RunX P B ops rest ((t, d) :: E) ms C) : RunX P B ops (o :: rest) E (⟨false, st, kl⟩ :: ms) C := by
  obtain ⟨ds, E', h1, h2⟩ := hr
  exact ⟨_, E', .cons ht (.inl ⟨by simp [GuardIs, hg], h.x⟩) hs h1, h2⟩
theorem RunX.eff {st : Bool} {kl : Option Nat} (ht : o.dst = some t) (hg : o.guard = none) (h : OpOkX true P B o E d) (hs : st = true → Stays B d) (hr : RunX P B ops rest ((t, d) :: E) ms C) : RunX P B ops (o :: rest) E (⟨true, st, kl⟩ :: ms) C := by
  obtain ⟨ds, E', h1, h2⟩ := hr
  exact ⟨_, E', .cons ht (.inl ⟨by simp [GuardIs, hg], h⟩) hs h1, h2⟩
theorem RunX.as (x : Value) {y : Value} (h : y = x) (hr : RunX P B ops rest ((t, .v x) :: E) ms C) : RunX P B ops rest ((t, .v y) :: E) ms C := h ▸ hr
theorem RunX.last {E'' : Env} {C : Env → Prop} {dead : List Nat} (hs : Sub E'' E) (hd : (E''.map (·.1)).all (fun k => !dead.contains k) = true) (h : C E'') : RunX P B ops [] E [] (fun E' => ∃ E'', Sub E'' E' ∧ (∀ p ∈ E'', p.1 ∉ dead) ∧ C E'') :=
  RunX.nil ⟨E'', hs, fun p hp hm => by
    have := List.all_eq_true.1 hd p.1 (List.mem_map_of_mem hp)
    simp [hm] at this, h⟩
def StaysL (B : Nat) (E : Env) : Prop := ∀ p ∈ E, Stays B p.2
theorem StaysL.nil : StaysL B [] := fun _ h => by cases h
theorem StaysL.cons {k : Nat} {d : D} {E : Env} (h : Stays B d) (hr : StaysL B E) : StaysL B ((k, d) :: E) := fun p hp => by
  rcases List.mem_cons.1 hp with rfl | hp
  · exact h
  · exact hr p hp
end
section
variable {P : Program} {B : Nat} {E : Env} {dst : Option Tmp} {ty : TypeId} {pos : String} {after : Array Edge} {guard : Option (Nat × Bool)}
end
end Go.Proofs.Ytdhbhcbkhkopbaa
namespace Go.Proofs.Ytdhbhcbkhkopbaa
open Go Go.RowKit
variable {κ : Cx}
def ownP (base : Nat) (e : TypeId) (sz n : Nat) (xs : List Value) : D :=
  .p (fun B w x => w.ownsRow base e sz x n xs ∧ ∀ g, x.ownBlock = some g → g < B)
    (fun B w w' x g ⟨h1, h2⟩ => ⟨by
      obtain ⟨h3, h4⟩ := h1
      refine ⟨h3, h4.imp id ?_⟩
      rintro ⟨k, cap, cur, rfl, hk, hh, hr⟩
      exact ⟨k, cap, cur, rfl, hk, (g.block k (h2 k (by simp [Value.ownBlock]))).trans hh, hr⟩, h2⟩)
    (fun _ _ _ _ g ⟨h1, h2⟩ => ⟨h1, fun k hk => Nat.lt_of_lt_of_le (h2 k hk) g⟩)
theorem Surv.ownP {B T g base sz n : Nat} {e : TypeId} {xs : List Value} (h : e ≠ T) : Surv B T g (Go.Proofs.Ytdhbhcbkhkopbaa.ownP base e sz n xs) := fun w w' x k ⟨h1, h2⟩ => by
  obtain ⟨h3, h4⟩ := h1
  refine ⟨⟨h3, h4.imp id ?_⟩, fun j hj => Nat.lt_of_lt_of_le (h2 j hj) k.size⟩
  rintro ⟨j, cap, cur, rfl, hj, hh, hr⟩
  refine ⟨j, cap, cur, rfl, hj, ?_, hr⟩
  by_cases hjg : j = g
  · subst hjg; exact absurd (k.row _ _ _ hh) h
  · rw [k.other j (h2 j (by simp [Value.ownBlock])) hjg]; exact hh
def InfoP (P : Program) (e : TypeId) (z : Value) (sz nb : Nat) : Prop := (P.info? e).map (fun i => (i.zero, i.size, i.bytes)) = some (some z, sz, nb)
theorem InfoP.get {P : Program} {e : TypeId} {z : Value} {sz nb : Nat} (h : InfoP P e z sz nb) : ∃ i, P.info? e = some i ∧ i.zero = some z ∧ i.size = sz ∧ i.bytes = nb := by
  unfold InfoP at h
  cases hi : P.info? e with
  | none => rw [hi] at h; cases h
  | some i =>
    rw [hi] at h
    simp only [Option.map_some, Option.some.injEq, Prod.mk.injEq] at h
    exact ⟨i, rfl, h.1, h.2.1, h.2.2⟩
/-- The cells at an address. -/
def elemP (us : List Value) : D :=
  .p (fun B w x => ∃ ad : Addr, x = .pointer (some ad) ∧ ad.block < B ∧ ∀ (j : Nat) (u : Value), us[j]? = some u → w.cell? (ad.add j) = some u)
    (fun _ _ _ _ g ⟨ad, h1, h2, h3⟩ => ⟨ad, h1, h2, fun j u hu => (g.cell (by rw [block_of_add]; exact h2)).trans (h3 j u hu)⟩) (fun _ _ _ _ g ⟨ad, h1, h2, h3⟩ => ⟨ad, h1, by omega, h3⟩)
/-- A slice of one struct. -/
def oneP (us : List Value) : D :=
  .p (fun B w x => ∃ ad : Addr, x = .slice (some ad) 1 1 ∧ ad.block < B ∧ ∀ (j : Nat) (u : Value), us[j]? = some u → w.cell? (ad.add j) = some u)
    (fun _ _ _ _ g ⟨ad, h1, h2, h3⟩ => ⟨ad, h1, h2, fun j u hu => (g.cell (by rw [block_of_add]; exact h2)).trans (h3 j u hu)⟩) (fun _ _ _ _ g ⟨ad, h1, h2, h3⟩ => ⟨ad, h1, by omega, h3⟩)
section
variable {P : Program} {B : Nat} {E : Env} {dst : Option Tmp} {ty : TypeId} {pos : String} {after : Array Edge} {guard : Option (Nat × Bool)}
theorem ok_loadElemP {T : TypeId} {td : TypeDesc} {x : Operand} {us : List Value} (ht : P.underlying T = some td) (hp : (match td with | .struct _ | .array _ _ => true | _ => false) = true) (hsz : SizeIs P T us.length) (hx : E.at x = some (elemP us)) :
    OpOk P B ⟨dst, .load T x, ty, pos, after, guard⟩ E (.v (aggV us)) := fun ρ w _ _ hρ => by
  obtain ⟨ad, h1, _, h3⟩ := hρ x (by simp [Op.operands]) _ hx
  have hagg : (isAgg T).run P w = .ok true w := by
    unfold isAgg
    simp only [Sem.run_bind, run_underlying ht, Result.andThen_ok]
    cases td <;> simp_all
  have hc := run_loadCells_list (P := P) w ad us h3
  obtain ⟨info, hinfo, hs⟩ := hsz.get
  exact out_val (x := aggV us) (w' := w) (by simp [execOp, h1, Instr.loadAt, Instr.sureAddr, loadVar, hagg, sizeOf, typeInfo, hinfo, hs, hc, aggV]) ⟨Grow.refl w, rfl⟩
theorem ok_build1P {t e : TypeId} {z : Value} {nb : Nat} {x : Operand} {u₁ u₂ : Value} (ht : P.underlying t = some (.slice e)) (hs : InfoP P e z 2 nb) (hz : z.cells.size = 2) (hx : E.at x = some (.v (aggV [u₁, u₂]))) :
    OpOk P B ⟨dst, .buildSlice t 1 #[(0, x)], ty, pos, after, guard⟩ E (oneP [u₁, u₂]) := fun ρ w _ _ hρ => by
  obtain ⟨i, hi, hzv, hsize, _⟩ := hs.get
  have h1 : ρ x = aggV [u₁, u₂] := hρ x (by simp [Op.operands]) _ hx
  have hfill : Instr.fill (fun j => some (j * i.size, i.size)) ((Array.range (1 * i.size)).map (z.cells[· % z.cells.size]!)) [(0, ρ x)] = some #[u₁, u₂] := by
    rw [hsize, h1, hz]
    have h2 : ((Array.range (1 * 2)).map fun y => z.cells[y % 2]!) = #[z.cells[0]!, z.cells[1]!] := by
      rw [show Array.range (1 * 2) = #[0, 1] from by decide]
      simp
    rw [h2]
    simp [Instr.fill, aggV, Value.cells]
  have hr := run_buildSlice (P := P) w t e 1 #[(0, ρ x)] #[u₁, u₂] i z ht hi hzv (by rw [hsize]; decide) (by rw [hsize]; decide) (by simpa using hfill)
  refine out_val (x := .slice (some ⟨w.heap.size, 0, none⟩) 1 1) (w' := w.alloc (.cells #[u₁, u₂] e)) (by simp [execOp, hr]) ⟨Grow.alloc w _, _, rfl, by simp, fun j u hu => ?_⟩
  have hh : (w.alloc (.cells #[u₁, u₂] e)).heap[w.heap.size]? = some (.cells #[u₁, u₂] e (0, 0)) := heap_alloc_new w _
  rw [show (⟨w.heap.size, 0, none⟩ : Addr).add j = ⟨w.heap.size, j, none⟩ from by unfold Addr.add; split <;> simp_all]
  simp only [World.cell?, hh]
  simpa using hu
end
section
variable {P : Program} {n B : Nat} {ops : Array Oper} {E : Env} {ty : TypeId} {pos : String} {after : Array Edge}
theorem eff_appendP {t e : TypeId} {z : Value} {nb sz : Nat} {r x : Operand} {k dst : Nat} {xs us : List Value} {E' : Env} (ht : P.underlying t = some (.slice e)) (hinfo : InfoP P e z sz nb) (hsz : 0 < sz) (hnb : nb ≤ 64) (hz1 : z.cells.size = sz)
    (hr : E.at r = some (ownP B e sz k xs)) (hx : E.at x = some (oneP us)) (hu : us.length = sz) (h1 : us.all (·.oneCell') = true) (hk : k ≤ 1099511627776) (hdst : dst < n) (hl : ∀ g, B ≤ g → LeftS B e g E' E) :
    Eff P n B ops ⟨some dst, .call { callee := .builtin .append, args := #[r, x], argTypes := #[t, t] }, ty, pos, after, none⟩ E ((dst, ownP B e sz (k + 1) (xs ++ us)) :: E') := by
  obtain ⟨i, hi, hz, hs, hby⟩ := hinfo.get
  intro κ a w K Q h hK
  obtain ⟨hown, hob⟩ := h.at_ r _ hr
  obtain ⟨ad, hxe, _, hcell⟩ := h.at_ x _ hx
  have hbb : (k + 1) * i.bytes ≤ (k + 1) * 64 := Nat.mul_le_mul_left _ (by omega)
  obtain ⟨v', w', hrun, h3, h4, _, h5⟩ := run_append_own_at (P := P) w B t ty e i z sz i.bytes ht hi hz hs rfl hz1 hsz (a.eval r) k xs hown ad 1 1 us (by omega) hcell (fun u hu => List.all_eq_true.1 h1 u hu) (by simp only [maxLen]; omega) (by omega) h.base
  have hexec : (execOp a.eval ⟨some dst, .call { callee := .builtin .append, args := #[r, x], argTypes := #[t, t] }, ty, pos, after, none⟩).run P w = .ok (.value v') w' := by
    simp [execOp, resolve, invoke, builtin, hxe, hrun]
  rw [if_pos (by simp [Region.wanted])]
  refine opR (by nofun) ?_
  unfold Oper.wp
  rw [hexec, Oper.upon_value]
  have hbase : ∀ g, (a.eval r).ownBlock = some g → B ≤ g := fun g hg => by
    rcases hown.2 with ⟨hv, _⟩ | ⟨g', cap, cur, hv, hb, _⟩
    · rw [hv] at hg; simp [Value.ownBlock] at hg
    · rw [hv] at hg; simp [Value.ownBlock] at hg; omega
  have hbel : Below B w w' := (Below.refl B w).grown h4 h.base hbase
  have hlt : ∀ g, v'.ownBlock = some g → g < w'.heap.size := fun g hg => by
    rcases h3.2 with ⟨hv, _⟩ | ⟨g', cap, cur, hv, _, hh, _⟩
    · rw [hv] at hg; simp [Value.ownBlock] at hg
    · rw [hv] at hg; simp [Value.ownBlock] at hg; subst hg
      rcases Nat.lt_or_ge g' w'.heap.size with h | h
      · exact h
      · rw [Array.getElem?_eq_none h] at hh; cases hh
  have hwr : ∃ g, B ≤ g ∧ Wrote B e g w w' := by
    rcases hown.2 with ⟨hv, _⟩ | ⟨g', cap, cur, hv, hb, hh, _⟩
    · refine ⟨w.heap.size, h.base, h.base, h4.os, h4.tape, h4.output, h4.size, fun o hx => ?_, fun k hk _ => h4.block k hk (by rw [hv]; simp [Value.ownBlock])⟩
      rw [Array.getElem?_eq_none (Nat.le_refl _)] at hx; cases hx
    · refine ⟨g', hb, hb, h4.os, h4.tape, h4.output, h4.size, fun o hx => ?_, fun k hk hne => h4.block k hk (by rw [hv]; simp [Value.ownBlock]; omega)⟩
      rw [hh] at hx; injection hx with hx; exact ⟨_, _, hx.symm⟩
  obtain ⟨g, hg, hwr⟩ := hwr
  exact hK _ _ hbel (((hl g hg).st h hwr).put hdst ⟨h3, hlt⟩)

/-! ### New variables in drawn regions -/
end
theorem A.dup {P : Program} {w₀ : World} {n : Nat} {c : Code} {E : Env} {Q : Exit → Act → World → Prop} {k k' : Nat} {d : D} (hk : E.look k = some d) (hd : ∀ B w x y, d.OfB B w x → d.OfB B w y) (h : A κ P w₀ n c ((k', d) :: E) Q) : A κ P w₀ n c E Q := fun a w g hs => h a w g (hs.push (t := k') (d := d) (hd _ _ _ _ (hs.of k _ hk)))
end Go.Proofs.Ytdhbhcbkhkopbaa
namespace Go.Proofs.Ytdhbhcbkhkopbaa
open Go Go.RowKit
set_option linter.unusedVariables false
set_option linter.unusedSimpArgs false
variable {κ : Cx}
/-- The cells that stand from an address on. -/
def memR (A : Option Addr) (xs : List Value) : D :=
  .p (fun B w _ => RowIn B w A xs) (fun _ _ _ _ g h j u hu => by obtain ⟨ad, h1, h2, h3⟩ := h j u hu; exact ⟨ad, h1, h2, (g.cell (by rw [block_of_add]; exact h2)).trans h3⟩)
    (fun _ _ _ _ g h j u hu => by obtain ⟨ad, h1, h2, h3⟩ := h j u hu; exact ⟨ad, h1, Nat.lt_of_lt_of_le h2 g, h3⟩)
/-- A slice of n elements whose cells read as xs. -/
def rowD (n : Nat) (xs : List Value) : D :=
  .p (fun B w x => ∃ A c, x = .slice A n c ∧ RowIn B w A xs) (fun _ _ _ _ g ⟨A, c, h1, h2⟩ => ⟨A, c, h1, D.OfB.keep (d := memR A xs) (x := undef) h2 g⟩) (fun _ _ _ _ g ⟨A, c, h1, h2⟩ => ⟨A, c, h1, D.OfB.up (d := memR A xs) (x := undef) h2 g⟩)
section
variable {P : Program} {n : Nat} {E : Env} {w₀ : World} {c : Code} {Q : Exit → Act → World → Prop}
end
section
variable {P : Program} {B : Nat} {E : Env} {dst : Option Tmp} {ty : TypeId} {pos : String} {after : Array Edge} {guard : Option (Nat × Bool)}
theorem fill_go (us : List Value) : ∀ (ds pre : List Value), ds.length = us.length → ((us.zipIdx pre.length).foldl (fun cs (x : Value × Nat) => cs.setIfInBounds (0 + x.2) x.1) (pre ++ ds).toArray) = (pre ++ us).toArray := by
  induction us with
  | nil => intro ds pre h; cases ds with
    | nil => rfl
    | cons => cases h
  | cons u us ih =>
    intro ds pre h
    cases ds with
    | nil => cases h
    | cons d ds =>
      rw [List.zipIdx_cons, List.foldl_cons]
      have := ih ds (pre ++ [u]) (by simpa using h)
      rw [show ((pre ++ d :: ds).toArray.setIfInBounds (0 + pre.length) u) = ((pre ++ [u]) ++ ds).toArray from by
        rw [Nat.zero_add, List.setIfInBounds_toArray, List.set_append_right _ _ (Nat.le_refl _)]; simp]
      rw [show pre.length + 1 = (pre ++ [u]).length from by simp, this]; simp
end
section
variable {P : Program} {n B : Nat} {ops : Array Oper} {E : Env} {ty : TypeId} {pos : String} {after : Array Edge}
end
end Go.Proofs.Ytdhbhcbkhkopbaa
namespace Go.Proofs.Ytdhbhcbkhkopbaa
open Go Go.RowKit
set_option linter.unusedSimpArgs false
set_option linter.unusedVariables false
variable {κ : Cx}
/-- The facts M on memory stand in the environment, each at some number. -/
def MHas (E : Env) (M : Env) : Prop := ∀ q ∈ M, ∃ k d, vbase ≤ k ∧ E.look k = some d ∧ Le d q.2
theorem MHas.nil {E : Env} : MHas E [] := fun _ h => by cases h
theorem MHas.cons {E M : Env} {t : Nat} {d' : D} (k : Nat) {d : D} (hk : vbase ≤ k) (hE : E.look k = some d) (hl : Le d d') (hr : MHas E M) : MHas E ((t, d') :: M) := fun q hq => by
  rcases List.mem_cons.1 hq with rfl | hq
  · exact ⟨k, d, hk, hE, hl⟩
  · exact hr q hq
section
variable {P : Program} {B : Nat} {E : Env} {dst : Option Tmp} {ty : TypeId} {pos : String} {after : Array Edge} {guard : Option (Nat × Bool)}
end
section
variable {P : Program} {B : Nat} {E : Env}
end
end Go.Proofs.Ytdhbhcbkhkopbaa
namespace Go.Proofs.Ytdhbhcbkhkopbaa
open Go Go.RowKit
set_option linter.unusedSimpArgs false
set_option linter.unusedVariables false
structure Us where
  key : List UInt8
  s : Nat
  c : Nat
  f : Nat
  l : Nat
deriving DecidableEq
instance : Inhabited Us := ⟨⟨[], 0, 0, 0, 0⟩⟩
def Us.Fit (u : Us) : Prop := u.key.length = 16 ∧ u.s < 4294967296 ∧ u.c < 18446744073709551616 ∧ u.f < 4294967296 ∧ u.l < 4294967296
def Fits (us : List Us) : Prop := ∀ u ∈ us, u.Fit
theorem Fits.cons {u : Us} {us : List Us} (h : Fits (u :: us)) : u.Fit ∧ Fits us := ⟨h u (by simp), fun v hv => h v (by simp [hv])⟩
theorem Fits.append {us vs : List Us} (h : Fits us) (k : Fits vs) : Fits (us ++ vs) := fun u hu => (List.mem_append.1 hu).elim (h u) (k u)
theorem Fits.get {us : List Us} {i : Nat} (h : Fits us) (hi : i < us.length) : us[i].Fit := h _ (List.getElem_mem hi)
/-! ### Clashes -/
def ovB (s c f l s' c' f' l' : Nat) : Bool := decide (s = s' ∧ c = c') && decide (max f f' ≤ min l l')
def Us.ok (u : Us) : Bool := decide (u.f ≤ u.l)
def clB (a b : Us) : Bool := decide (a.key = b.key) && ovB a.s a.c a.f a.l b.s b.c b.f b.l
def stOf (u : Us) : List UInt8 × Nat × Nat := (u.key, u.s, u.c)
theorem clB_iff {a b : Us} : clB a b = true ↔ stOf a = stOf b ∧ max a.f b.f ≤ min a.l b.l := by
  simp only [clB, ovB, stOf, Bool.and_eq_true, decide_eq_true_eq, Prod.mk.injEq]
  constructor
  · rintro ⟨h1, ⟨h2, h3⟩, h4⟩; exact ⟨⟨h1, h2, h3⟩, h4⟩
  · rintro ⟨⟨h1, h2, h3⟩, h4⟩; exact ⟨h1, ⟨h2, h3⟩, h4⟩
/-- Use j clashes with one before it. -/
def cAt (us : List Us) (j : Nat) : Bool := (List.range j).any fun i => clB us[i]! us[j]!
theorem cAt_iff {us : List Us} {j : Nat} : cAt us j = true ↔ ∃ i, i < j ∧ clB us[i]! us[j]! = true := by simp [cAt]
/-- Among the uses up to j two clash. -/
def cUp (us : List Us) (j : Nat) : Bool := (List.range (j + 1)).any (cAt us)
theorem cUp_iff {us : List Us} {j : Nat} : cUp us j = true ↔ ∃ i k, i < k ∧ k ≤ j ∧ clB us[i]! us[k]! = true := by
  simp only [cUp, List.any_eq_true, List.mem_range, cAt_iff]
  constructor
  · rintro ⟨k, hk, i, hi, h⟩; exact ⟨i, k, hi, by omega, h⟩
  · rintro ⟨i, k, hi, hk, h⟩; exact ⟨k, by omega, i, hi, h⟩
/-! ### Lists of the uses of one key stream -/
/-- The walk through a list: those beyond j are passed over; does one clash with the last that was not? -/
def repG (us : List Us) (j : Nat) : Option Nat → List Nat → Bool
  | _, [] => false
  | b, i :: r => if j < i then repG us j b r else match b with
    | none => repG us j (some i) r
    | some k => if clB us[k]! us[i]! then true else repG us j (some i) r
def Sorted (us : List Us) (L : List Nat) : Prop := L.Pairwise fun a b => us[a]!.f ≤ us[b]!.f
theorem repG_sound (us : List Us) (j : Nat) : ∀ (L : List Nat) (b : Option Nat), repG us j b L = true → ∃ x y, (x ∈ L ∨ b = some x) ∧ y ∈ L ∧ y ≤ j ∧ clB us[x]! us[y]! = true ∧ (∀ k, b = some k → x = k ∨ (x ∈ L ∧ x ≤ j)) ∧ (b = none → x ≤ j) ∧ [x, y].Sublist (b.toList ++ L)
  | [], b, h => by simp [repG] at h
  | i :: r, b, h => by
    unfold repG at h
    split at h
    · obtain ⟨x, y, h1, h2, h3, h4, h5, h6, h7⟩ := repG_sound us j r b h
      refine ⟨x, y, h1.imp (fun h => List.mem_cons_of_mem _ h) id, List.mem_cons_of_mem _ h2, h3, h4, fun k hk => (h5 k hk).imp id fun h => ⟨List.mem_cons_of_mem _ h.1, h.2⟩, h6, ?_⟩
      exact h7.trans (List.Sublist.append (List.Sublist.refl _) (List.sublist_cons_self _ _))
    · rename_i hij
      cases b with
      | none =>
        obtain ⟨x, y, h1, h2, h3, h4, h5, h6, h7⟩ := repG_sound us j r (some i) h
        refine ⟨x, y, .inl ?_, List.mem_cons_of_mem _ h2, h3, h4, (fun k hk => by cases hk), fun _ => ?_, by simpa using h7⟩
        · rcases h5 i rfl with rfl | h; · simp
          · exact List.mem_cons_of_mem _ h.1
        · rcases h5 i rfl with rfl | h; · omega
          · exact h.2
      | some k =>
        simp only at h
        split at h
        · rename_i hc
          exact ⟨k, i, .inr rfl, by simp, by omega, hc, (fun k' hk => .inl (by injection hk)), (fun h => by cases h), by simp⟩
        · obtain ⟨x, y, h1, h2, h3, h4, h5, h6, h7⟩ := repG_sound us j r (some i) h
          refine ⟨x, y, .inl ?_, List.mem_cons_of_mem _ h2, h3, h4, fun k' _ => .inr ?_, fun h => (by cases h), ?_⟩
          · rcases h5 i rfl with rfl | h; · simp
            · exact List.mem_cons_of_mem _ h.1
          · rcases h5 i rfl with rfl | h
            · exact ⟨by simp, by omega⟩
            · exact ⟨List.mem_cons_of_mem _ h.1, h.2⟩
          · exact h7.trans (by simp)
theorem cl_step {a b c : Us} (h1 : clB a c = true) (h2 : stOf a = stOf b) (h3 : b.ok = true) (h4 : a.f ≤ b.f) (h5 : b.f ≤ c.f) : clB a b = true := by
  rw [clB_iff] at h1 ⊢
  have h3 : b.f ≤ b.l := by simpa [Us.ok] using h3
  exact ⟨h2, by omega⟩
theorem repG_full (us : List Us) (hv : ∀ u ∈ us, u.ok = true) (j : Nat) : ∀ (L : List Nat) (b : Option Nat), Sorted us (b.toList ++ L) → (∀ x ∈ b.toList ++ L, x < us.length) → (∀ x ∈ b.toList ++ L, ∀ y ∈ b.toList ++ L, stOf us[x]! = stOf us[y]!) →
    (∀ k, b = some k → k ≤ j) → ∀ x y, [x, y].Sublist (b.toList ++ L) → x ≤ j → y ≤ j → clB us[x]! us[y]! = true → repG us j b L = true
  | [], b, _, _, _, _, x, y, h, _, _, _ => by
    have := h.length_le
    cases b <;> simp at this
  | i :: r, b, hs, hl, hst, hb, x, y, h, hx, hy, hc => by
    unfold repG
    split
    · rename_i hij
      have drop : ∀ {z : Nat}, z ∈ b.toList ++ r → z ∈ b.toList ++ i :: r := fun hz => by
        rcases List.mem_append.1 hz with h | h
        · exact List.mem_append_left _ h
        · exact List.mem_append_right _ (List.mem_cons_of_mem _ h)
      refine repG_full us hv j r b (hs.sublist (List.Sublist.append (List.Sublist.refl _) (List.sublist_cons_self _ _))) (fun z hz => hl z (drop hz)) (fun z hz z' hz' => hst z (drop hz) z' (drop hz')) hb x y ?_ hx hy hc
      cases b with
      | none =>
        simp only [Option.toList_none, List.nil_append] at h ⊢
        cases h with
        | cons _ h => exact h
        | cons_cons _ h => omega
      | some k =>
        simp only [Option.toList_some, List.singleton_append] at h ⊢
        cases h with
        | cons _ h =>
          cases h with
          | cons _ h => exact h.cons _
          | cons_cons _ h => omega
        | cons_cons _ h =>
          cases h with
          | cons _ h => exact h.cons_cons _
          | cons_cons _ h => omega
    · rename_i hij
      cases b with
      | none => exact repG_full us hv j r (some i) (by simpa using hs) (by simpa using hl) (by simpa using hst) (fun k hk => by injection hk with hk; omega) x y (by simpa using h) hx hy hc
      | some k =>
        simp only
        split
        · rfl
        · rename_i hki
          simp only [Option.toList_some, List.singleton_append] at hs hl hst h
          refine repG_full us hv j r (some i) (List.pairwise_cons.1 hs).2 (fun z hz => hl z (List.mem_cons_of_mem _ hz)) (fun z hz z' hz' => hst z (List.mem_cons_of_mem _ hz) z' (List.mem_cons_of_mem _ hz')) (fun k hk => by injection hk with hk; omega) x y ?_ hx hy hc
          simp only [Option.toList_some, List.singleton_append]
          cases h with
          | cons _ h => exact h
          | cons_cons _ h =>
            exfalso
            have hyi : y = i ∨ y ∈ r := List.mem_cons.1 (List.singleton_sublist.1 h)
            rcases hyi with rfl | hyr
            · exact hki hc
            · apply hki
              have hs' := List.pairwise_cons.1 hs
              have hil : i < us.length := hl i (by simp)
              refine cl_step hc (hst x List.mem_cons_self i (List.mem_cons_of_mem _ List.mem_cons_self)) ?_ (hs'.1 i (by simp)) ((List.pairwise_cons.1 hs'.2).1 y hyr)
              rw [getElem!_pos us i hil]; exact hv _ (List.getElem_mem hil)
/-- Lists of indices, each of uses of one key stream by their first counters, in which any two uses of one stream stand together. -/
structure Lists (us : List Us) (Ls : List (List Nat)) : Prop where
  sorted : ∀ L ∈ Ls, Sorted us L
  lt : ∀ L ∈ Ls, ∀ x ∈ L, x < us.length
  nodup : ∀ L ∈ Ls, L.Nodup
  one : ∀ L ∈ Ls, ∀ x ∈ L, ∀ y ∈ L, stOf us[x]! = stOf us[y]!
  all : ∀ x y, x < y → y < us.length → stOf us[x]! = stOf us[y]! → ∃ L ∈ Ls, x ∈ L ∧ y ∈ L
theorem pair_sublist {α : Type} : ∀ {L : List α} {x y : α}, x ∈ L → y ∈ L → x ≠ y → [x, y].Sublist L ∨ [y, x].Sublist L
  | a :: L, x, y, hx, hy, h => by
    rcases List.mem_cons.1 hx with hxa | hx1
    · rcases List.mem_cons.1 hy with hya | hy1
      · exact absurd (hxa.trans hya.symm) h
      · rw [hxa]; exact .inl (List.cons_sublist_cons.2 (List.singleton_sublist.2 hy1))
    · rcases List.mem_cons.1 hy with hya | hy1
      · rw [hya]; exact .inr (List.cons_sublist_cons.2 (List.singleton_sublist.2 hx1))
      · exact (pair_sublist hx1 hy1 h).imp (·.cons _) (·.cons _)
theorem clB_comm (a b : Us) : clB a b = clB b a := by
  rw [Bool.eq_iff_iff, clB_iff, clB_iff]
  constructor <;> rintro ⟨h, k⟩ <;> exact ⟨h.symm, by omega⟩
theorem Lists.any {us : List Us} {Ls : List (List Nat)} (h : Lists us Ls) (hv : ∀ u ∈ us, u.ok = true) (j : Nat) (hj : j < us.length) : (Ls.any fun L => repG us j none L) = cUp us j := by
  rw [Bool.eq_iff_iff, List.any_eq_true, cUp_iff]
  constructor
  · rintro ⟨L, hL, hr⟩
    obtain ⟨x, y, h1, h2, h3, h4, h5, h6, h7⟩ := repG_sound us j L none hr
    have hxy : x ≠ y := fun he => by
      subst he
      have := (h.nodup L hL).sublist (by simpa using h7)
      simp at this
    rcases Nat.lt_or_gt_of_ne hxy with hl | hl
    · exact ⟨x, y, hl, h3, h4⟩
    · exact ⟨y, x, hl, h6 rfl, by rw [clB_comm]; exact h4⟩
  · rintro ⟨i, k, hik, hkj, hc⟩
    obtain ⟨L, hL, hi, hk⟩ := h.all i k hik (by omega) (clB_iff.1 hc).1
    refine ⟨L, hL, ?_⟩
    rcases pair_sublist hi hk (by omega) with hs | hs
    · exact repG_full us hv j L none (by simpa using h.sorted L hL) (by simpa using h.lt L hL) (by simpa using h.one L hL) (fun k hk => by cases hk) i k (by simpa using hs) (by omega) hkj hc
    · exact repG_full us hv j L none (by simpa using h.sorted L hL) (by simpa using h.lt L hL) (by simpa using h.one L hL) (fun k hk => by cases hk) k i (by simpa using hs) hkj (by omega) (by rw [clB_comm]; exact hc)
end Go.Proofs.Ytdhbhcbkhkopbaa
namespace Go.Proofs.Ytdhbhcbkhkopbaa
open Go Go.RowKit
set_option linter.unusedVariables false
set_option linter.unusedSimpArgs false
variable {κ : Cx}
/-- The cells xs stand at A, in a block from lo on that holds cells of type e. -/
def RowX (lo : Nat) (e : TypeId) (B : Nat) (w : World) (A : Option Addr) (xs : List Value) : Prop :=
  ∀ (j : Nat) (u : Value), xs[j]? = some u → ∃ ad, A = some ad ∧ lo ≤ ad.block ∧ ad.block < B ∧ (∃ cur fr, w.heap[ad.block]? = some (.cells cur e fr)) ∧ w.cell? (ad.add j) = some u
theorem RowX.row {lo : Nat} {e : TypeId} {B : Nat} {w : World} {A : Option Addr} {xs : List Value} (h : RowX lo e B w A xs) : RowIn B w A xs := fun j u hu => by
  obtain ⟨ad, h1, _, h3, _, h5⟩ := h j u hu
  exact ⟨ad, h1, h3, h5⟩
theorem cell_block {w w' : World} {a : Addr} (h : w'.heap[a.block]? = w.heap[a.block]?) : w'.cell? a = w.cell? a := by unfold World.cell?; rw [h]
theorem RowX.other {lo : Nat} {e : TypeId} {B B' : Nat} {w w' : World} {A : Option Addr} {xs : List Value} (h : RowX lo e B w A xs) (hB : B ≤ B') (hk : ∀ b cur fr, lo ≤ b → b < B → w.heap[b]? = some (.cells cur e fr) → w'.heap[b]? = w.heap[b]?) : RowX lo e B' w' A xs := fun j u hu => by
  obtain ⟨ad, h1, h2, h3, ⟨cur, fr, h4⟩, h5⟩ := h j u hu
  have h6 := hk ad.block cur fr h2 h3 h4
  refine ⟨ad, h1, h2, by omega, ⟨cur, fr, by rw [h6]; exact h4⟩, ?_⟩
  have h7 : w'.cell? (ad.add j) = w.cell? (ad.add j) := cell_block (by rw [block_of_add]; exact h6)
  rw [h7]; exact h5
def natR (L : List Nat) : List Value := L.map fun x : Nat => Value.int .i64 (x : Int)
/-- The lists Ls stand in the slices vs, and these at A. -/
def ListsF (lo : Nat) (eL eI : TypeId) (A : Option Addr) (vs : List Value) (Ls : List (List Nat)) (B : Nat) (w : World) : Prop :=
  RowX lo eL B w A vs ∧ ∀ (k : Nat) (v : Value) (L : List Nat), vs[k]? = some v → Ls[k]? = some L → ∃ A' q, v = .slice A' L.length q ∧ RowX lo eI B w A' (natR L)
theorem ListsF.other {lo : Nat} {eL eI : TypeId} {A : Option Addr} {vs : List Value} {Ls : List (List Nat)} {B B' : Nat} {w w' : World} (h : ListsF lo eL eI A vs Ls B w) (hB : B ≤ B') (hk : ∀ b cur e fr, lo ≤ b → b < B → (e = eL ∨ e = eI) → w.heap[b]? = some (.cells cur e fr) → w'.heap[b]? = w.heap[b]?) : ListsF lo eL eI A vs Ls B' w' :=
  ⟨h.1.other hB fun b cur fr h1 h2 h3 => hk b cur _ fr h1 h2 (.inl rfl) h3, fun k v L hv hL => by
    obtain ⟨A', q, h1, h2⟩ := h.2 k v L hv hL
    exact ⟨A', q, h1, h2.other hB fun b cur fr h1 h2 h3 => hk b cur _ fr h1 h2 (.inr rfl) h3⟩⟩
def listsM (lo : Nat) (eL eI : TypeId) (A : Option Addr) (vs : List Value) (Ls : List (List Nat)) : D :=
  .p (fun B w _ => ListsF lo eL eI A vs Ls B w) (fun B w w' _ g h => h.other (Nat.le_refl _) fun b _ _ _ _ hb _ _ => g.block b hb) (fun B B' w _ g h => h.other g fun _ _ _ _ _ _ _ _ => rfl)
theorem Surv.lists {B T g lo : Nat} {eL eI : TypeId} {A : Option Addr} {vs : List Value} {Ls : List (List Nat)} (h : g < lo ∨ (eL ≠ T ∧ eI ≠ T)) : Surv B T g (listsM lo eL eI A vs Ls) := fun w w' x k hl =>
  ListsF.other hl k.size fun b cur e fr h1 h2 he hh => k.other b h2 fun hbg => by
    subst hbg
    rcases h with h | ⟨h3, h4⟩
    · omega
    · have := k.row _ _ _ hh
      rcases he with rfl | rfl
      · exact h3 this
      · exact h4 this
section
variable {P : Program} {n : Nat} {E : Env} {w₀ : World} {c : Code} {Q : Exit → Act → World → Prop}
end
/-! ### Results whose parts get names -/
section
variable {P : Program} {B : Nat} {E : Env}
end
section
variable {P : Program} {n : Nat} {w₀ : World} {E : Env}
end
end Go.Proofs.Ytdhbhcbkhkopbaa
namespace Go.Proofs.Ytdhbhcbkhkopbaa
open Go Go.RowKit
variable {κ : Cx}
def nonceL (s c : Nat) : List UInt8 := be 4 s ++ be 8 c
section
variable {P : Program} {B : Nat} {E : Env} {dst : Option Tmp} {ty : TypeId} {pos : String} {after : Array Edge} {guard : Option (Nat × Bool)}
theorem ok_lenU {t e : TypeId} {x : Operand} {f : D} {us : List Value} (m : Nat) (ht : P.underlying t = some (.slice e)) (hx : E.at x = some f) (hf : Le f (vlst us)) (hm : us.length = m) :
    OpOk P B ⟨dst, .call { callee := .builtin .len, args := #[x], argTypes := #[t] }, ty, pos, after, guard⟩ E (.v (.int .i64 (m : Int))) := by
  have := ok_len (P := P) (B := B) (dst := dst) (ty := ty) (pos := pos) (after := after) (guard := guard) ht hx hf
  rwa [List.length_map, hm] at this
theorem ok_capU {t e : TypeId} {x : Operand} {f : D} {us : List Value} {c : Nat} (ht : P.underlying t = some (.slice e)) (hx : E.at x = some f) (hf : Le f (vlist us c)) :
    OpOk P B ⟨dst, .call { callee := .builtin .cap, args := #[x], argTypes := #[t] }, ty, pos, after, guard⟩ E (.v (.int .i64 (c : Int))) := ok_cap ht hx hf
theorem ok_indexU {t e : TypeId} {z : Value} {nb : Nat} {x i : Operand} {f : D} {us : List Value} {k : IntKind} {u : Value} (m : Nat) (ht : P.underlying t = some (.slice e)) (hs : InfoIs P e z nb) (hx : E.at x = some f) (hf : Le f (vlst us)) (hi : E.at i = some (.v (.int k (m : Int))))
    (hu : us[m]? = some u) : OpOk P B ⟨dst, .indexAddr t x i, ty, pos, after, guard⟩ E (elem (.v u)) :=
  ok_index ht hs hx hf hi (Int.natCast_nonneg _) (by rw [Int.toNat_natCast, List.getElem?_map, hu]; rfl)
/-- A literal of some fields. -/
def LitS (E : Env) : List (Nat × Value) → List (Nat × Operand) → Prop
  | [], [] => True
  | (i, u) :: us, (j, x) :: ps => i = j ∧ E.at x = some (.v u) ∧ LitS E us ps
  | _, _ => False
theorem LitS.map {ρ : Operand → Value} : ∀ {us : List (Nat × Value)} {ps : List (Nat × Operand)}, LitS E us ps → (∀ x, x ∈ ps.map (·.2) → ∀ v, E.at x = some (.v v) → ρ x = v) → ps.map (fun p => (p.1, ρ p.2)) = us
  | [], [], _, _ => rfl
  | [], _ :: _, h, _ => h.elim
  | _ :: _, [], h, _ => h.elim
  | (i, u) :: us, (j, x) :: ps, ⟨h1, h2, h3⟩, hρ => by
    subst h1
    simp only [List.map_cons, hρ x (by simp) u h2]
    rw [LitS.map h3 fun y hy v hv => hρ y (by simp only [List.map_cons, List.mem_cons]; exact .inr hy) v hv]
theorem ok_litS {t : TypeId} {ps : Array (Nat × Operand)} (us : List (Nat × Value)) (ys : List Value) (hl : LitS E us ps.toList) (hb : P.built t us = some ys.toArray) : OpOk P B ⟨dst, .build t ps, ty, pos, after, guard⟩ E (.v (aggV ys)) :=
  ok_lit us ys (fun _ hρ => hl.map hρ) hb
end
section
variable {P : Program} {n B : Nat} {ops : Array Oper} {E : Env} {ty : TypeId} {pos : String} {after : Array Edge}
end
end Go.Proofs.Ytdhbhcbkhkopbaa
namespace Go.Proofs.Ytdhbhcbkhkopbaa
open Go Go.RowKit
set_option linter.unusedVariables false
set_option linter.unusedSimpArgs false
variable {κ : Cx}
/-! ### Drawn regions with guards whose changes of memory are no barriers -/
section
variable {P : Program} {B : Nat} {ops : Array Oper} {E : Env} {C : Env → Prop} {o : Oper} {rest : List Oper} {t : Nat} {d : D} {ms : List Mk}
theorem RunX.guarded {st : Bool} {kl : Option Nat} {j : Nat} {want : Bool} {s : Nat} (ht : o.dst = some t) (hg : o.guard = some (j, want)) (hj : ((ops[j]?).bind (·.dst)) = some s) (hE : E.look s = some (.v (.bool want))) (h : OpOk P B o E d) (hs : st = true → Stays B d) (hr : RunX P B ops rest ((t, d) :: E) ms C) : RunX P B ops (o :: rest) E (⟨false, st, kl⟩ :: ms) C := by
  obtain ⟨ds, E', h1, h2⟩ := hr
  exact ⟨_, E', .cons ht (.inl ⟨by simp only [GuardIs, hg]; exact ⟨s, hj, .inl ⟨want, hE, by cases want <;> rfl⟩⟩, h.x⟩) hs h1, h2⟩
theorem RunX.skipped {kl : Option Nat} {j : Nat} {want c : Bool} {s : Nat} (ht : o.dst = some t) (hg : o.guard = some (j, want)) (hj : ((ops[j]?).bind (·.dst)) = some s) (hE : E.look s = some (.v (.bool c))) (hc : (c == want) = false) (hr : RunX P B ops rest ((t, .v undef) :: E) ms C) : RunX P B ops (o :: rest) E (⟨false, true, kl⟩ :: ms) C := by
  obtain ⟨ds, E', h1, h2⟩ := hr
  exact ⟨_, E', .cons ht (.inr ⟨by simp only [GuardIs, hg]; exact ⟨s, hj, .inl ⟨c, hE, hc.symm⟩⟩, rfl⟩) (fun _ => Stays.v _ _) h1, h2⟩
theorem RunX.skippedU {kl : Option Nat} {j : Nat} {want : Bool} {s : Nat} (ht : o.dst = some t) (hg : o.guard = some (j, want)) (hj : ((ops[j]?).bind (·.dst)) = some s) (hE : E.look s = some (.v undef)) (hr : RunX P B ops rest ((t, .v undef) :: E) ms C) : RunX P B ops (o :: rest) E (⟨false, true, kl⟩ :: ms) C := by
  obtain ⟨ds, E', h1, h2⟩ := hr
  exact ⟨_, E', .cons ht (.inr ⟨by simp only [GuardIs, hg]; first | exact ⟨s, hj, .inr ⟨hE, trivial⟩⟩ | exact ⟨s, hj, .inr ⟨hE, rfl⟩⟩, rfl⟩) (fun _ => Stays.v _ _) h1, h2⟩
end
/-! ### Rows of structs that are appended to -/
section
variable {P : Program} {B : Nat} {E : Env} {dst : Option Tmp} {ty : TypeId} {pos : String} {after : Array Edge} {guard : Option (Nat × Bool)}
theorem lt_of_row {w : World} {base sz n : Nat} {e : TypeId} {v : Value} {xs : List Value} (h : w.ownsRow base e sz v n xs) : ∀ g, v.ownBlock = some g → g < w.heap.size := fun g hg => by
  rcases h.2 with ⟨hv, _⟩ | ⟨g', cap, cur, hv, _, hh, _⟩
  · rw [hv] at hg; simp [Value.ownBlock] at hg
  · rw [hv] at hg; simp [Value.ownBlock] at hg; subst hg
    rcases Nat.lt_or_ge g' w.heap.size with h | h
    · exact h
    · rw [Array.getElem?_eq_none h] at hh; cases hh
theorem append_ownP {t e : TypeId} {z : Value} {sz nb k m : Nat} {v x : Value} {xs ys : List Value} {w : World} {A : Option Addr} {c : Nat} (ht : P.underlying t = some (.slice e)) (hinfo : InfoP P e z sz nb) (hsz : 0 < sz) (hnb : nb ≤ 64) (hz1 : z.cells.size = sz)
    (hown : w.ownsRow B e sz v k xs) (hxe : x = .slice A m c) (hrow : RowIn w.heap.size w A ys) (h1 : ys.all (·.oneCell') = true) (hl : ys.length = m * sz) (hk : k + m ≤ 1099511627776) (hB : B ≤ w.heap.size) :
    ∃ v' w', (Builtin.append_ #[t, t] ty #[v, x]).run P w = .ok v' w' ∧ w'.ownsRow B e sz v' (k + m) (xs ++ ys) ∧ Below B w w' := by
  obtain ⟨i, hi, hz, hs, hby⟩ := hinfo.get
  subst hxe
  have hbase : ∀ g, v.ownBlock = some g → B ≤ g := fun g hg => by
    rcases hown.2 with ⟨hv, _⟩ | ⟨g', cap, cur, hv, hb, _⟩
    · rw [hv] at hg; simp [Value.ownBlock] at hg
    · rw [hv] at hg; simp [Value.ownBlock] at hg; omega
  cases A with
  | none =>
    have hy : ys = [] := by
      cases ys with
      | nil => rfl
      | cons y ys => obtain ⟨_, h0, _⟩ := hrow 0 y rfl; cases h0
    subst hy
    have h0 : m = 0 := by
      have : m * sz = 0 := by simpa using hl.symm
      rcases Nat.mul_eq_zero.1 this with h | h
      · exact h
      · omega
    subst h0
    refine ⟨v, w, ?_, by simpa using hown, Below.refl _ _⟩
    rcases hown.2 with ⟨hv, hn0⟩ | ⟨g, cap, cur, hv, _, _, hnc, _⟩
    · rw [hv]; simp [Builtin.append_, run_underlying ht, sizeOf, typeInfo, hi, Builtin.lenOf, Builtin.firstCells]
    · rw [hv]; simp [Builtin.append_, run_underlying ht, sizeOf, typeInfo, hi, Builtin.lenOf, Builtin.firstCells, hnc, storeCells]
  | some ad =>
    have hbb : (k + m) * i.bytes ≤ (k + m) * 64 := Nat.mul_le_mul_left _ (by omega)
    obtain ⟨v', w', h2, h3, h4, _, _⟩ := run_append_own_at (P := P) w B t ty e i z sz i.bytes ht hi hz hs rfl hz1 hsz v k xs hown ad m c ys hl (fun j u hu => by obtain ⟨ad', h5, _, h6⟩ := hrow j u hu; injection h5 with h5; subst h5; exact h6) (fun u hu => List.all_eq_true.1 h1 u hu) (by simp only [maxLen]; omega) (by omega) hB
    exact ⟨v', w', h2, h3, (Below.refl B w).grown h4 hB hbase⟩
end
/-! ### Slices without spare capacity -/
section
variable {P : Program} {n : Nat} {E : Env} {w₀ : World} {c : Code} {Q : Exit → Act → World → Prop}
/-- What is known at a later point holds of what was there at that point. -/
def UpTo (w : World) (E' E : Env) : Prop := ∀ p ∈ E', ∃ d, E.look p.1 = some d ∧ (p.2 = d ∨ p.2 = old w.heap.size d ∨ ∃ B₀ d₀, d = old B₀ d₀ ∧ p.2 = old w.heap.size d₀)
theorem UpTo.nil {w : World} {E : Env} : UpTo w [] E := fun _ h => by cases h
theorem UpTo.same {w : World} {E E' : Env} {t : Nat} {d : D} (h : E.look t = some d) (hr : UpTo w E' E) : UpTo w ((t, d) :: E') E := fun p hp => by
  rcases List.mem_cons.1 hp with rfl | hp
  · exact ⟨d, h, .inl rfl⟩
  · exact hr p hp
theorem UpTo.new {w : World} {E E' : Env} {t : Nat} {d : D} (h : E.look t = some d) (hr : UpTo w E' E) : UpTo w ((t, old w.heap.size d) :: E') E := fun p hp => by
  rcases List.mem_cons.1 hp with rfl | hp
  · exact ⟨d, h, .inr (.inl rfl)⟩
  · exact hr p hp
theorem UpTo.old {w : World} {E E' : Env} {t B₀ : Nat} {d : D} (h : E.look t = some (Go.Proofs.Ytdhbhcbkhkopbaa.old B₀ d)) (hr : UpTo w E' E) : UpTo w ((t, Go.Proofs.Ytdhbhcbkhkopbaa.old w.heap.size d) :: E') E := fun p hp => by
  rcases List.mem_cons.1 hp with rfl | hp
  · exact ⟨_, h, .inr (.inr ⟨B₀, d, rfl, rfl⟩)⟩
  · exact hr p hp
/-- The rest of a function, at a base of its own: whatever is there by then is old. -/
theorem A.raise (E' : World → Env) (hE : ∀ w, UpTo w (E' w) E) (h : ∀ w₁, Grow w₀ w₁ → A κ P w₁ n c (E' w₁) Q) : A κ P w₀ n c E Q := fun a w g hs => by
  refine h w g a w (Below.refl _ _) ⟨Nat.le_refl _, hs.defers, hs.size, fun t d hd => ?_⟩
  obtain ⟨d', hd', h1⟩ := hE w _ (look_mem hd)
  have h2 := hs.of t d' hd'
  rcases h1 with h1 | h1 | ⟨B₀, d₀, h1, h3⟩
  · simp only at h1; rw [h1]; exact h2
  · simp only at h1; rw [h1]; exact ⟨Nat.le_refl _, h2⟩
  · subst h1; simp only at h3; rw [h3]; exact ⟨Nat.le_refl _, D.OfB.up h2.2 h2.1⟩
theorem End.ret1U {w₁ : World} {fn : Func} {r : Nat} {d e : D} (hg : Grow w₀ w₁) (hr : fn.results = #[.tmp r]) (he : E.look r = some e) (hl : Le e d) : End Cx.top w₁ n E (BP P fn (PostOf w₀ d) .ret) := fun a w g hs =>
  BP.ret hs.defers ⟨a.tmps.getD r undef, by simp [results, hr], _, rfl, Grow.trans hg g, hl.of (hs.of r e he)⟩
end
section
variable {P : Program} {B : Nat} {E : Env}
end
section
variable {P : Program} {B : Nat} {E : Env}
variable {dst : Option Tmp} {ty : TypeId} {pos : String} {after : Array Edge} {guard : Option (Nat × Bool)}
/-- An element of a slice of which its cells are known. -/
theorem ok_indexRD {t e : TypeId} {z : Value} {sz nb : Nat} {x i : Operand} {k : Nat} {f : D} {xs : List Value} {ki : IntKind} (m : Nat) (ht : P.underlying t = some (.slice e)) (hs : InfoP P e z sz nb) (hx : E.at x = some f) (hf : Le f (rowD k xs))
    (hi : E.at i = some (.v (.int ki (m : Int)))) (hm : m < k) (hlt : m * sz < xs.length) :
    OpOk P B ⟨dst, .indexAddr t x i, ty, pos, after, guard⟩ E (elemP ((xs.drop (m * sz)).take sz)) := fun ρ w _ hv hρ => by
  obtain ⟨A, q, h1, hrow⟩ := hf.of (hρ x (by simp [Op.operands]) _ hx)
  have hi' : ρ i = .int ki m := hρ i (by simp [Op.operands]) _ hi
  obtain ⟨info, hinfo, _, hsize, _⟩ := hs.get
  obtain ⟨ad, hA, hab, _⟩ := hrow (m * sz) _ (List.getElem?_eq_getElem hlt)
  subst hA
  refine out_val (x := .pointer (some (ad.add (m * sz)))) (w' := w) ?_ ⟨Grow.refl w, _, rfl, by rw [block_of_add]; omega, fun j u hu => ?_⟩
  · simp [execOp, h1, hi', Instr.indexAt, asIntOf, run_underlying ht, sizeOf, typeInfo, hinfo, hsize, hm]
  · rw [List.getElem?_take] at hu
    split at hu
    · rw [List.getElem?_drop] at hu
      obtain ⟨ad', hA', _, h4⟩ := hrow (m * sz + j) u hu
      injection hA' with hA'; subst hA'
      rw [add_of_add]; exact h4
    · cases hu
theorem ok_lenRD {t e : TypeId} {x : Operand} {f : D} {k : Nat} {xs : List Value} (ht : P.underlying t = some (.slice e)) (hx : E.at x = some f) (hf : Le f (rowD k xs)) :
    OpOk P B ⟨dst, .call { callee := .builtin .len, args := #[x], argTypes := #[t] }, ty, pos, after, guard⟩ E (.v (.int .i64 (k : Int))) := fun ρ w _ _ hρ => by
  obtain ⟨A, q, h1, _⟩ := hf.of (hρ x (by simp [Op.operands, Call.operands]) _ hx)
  exact out_val (w' := w) (by simp [execOp, resolve, invoke, builtin, Builtin.len_, run_underlying ht, h1, goInt]) ⟨Grow.refl w, rfl⟩
end
/-! ### A new ledger in a new variable, in a drawn region -/
theorem Surv.newD {B T g base : Nat} {e : TypeId} {val : Nat → Value} {xs : List Value} (h : e ≠ T) : Surv B T g (Go.Proofs.Ytdhbhcbkhkopbaa.newD base e val xs) := fun w w' x k ⟨b, h1, h2, h3, h4⟩ => by
  refine ⟨b, h1, h2, Nat.lt_of_lt_of_le h3 k.size, ?_⟩
  by_cases hb : b = g
  · subst hb; exact absurd (k.row _ _ _ h4) h
  · exact (k.other b h3 hb).trans h4
section
variable {P : Program} {n B : Nat} {ops : Array Oper} {E : Env} {dst : Option Tmp} {ty : TypeId} {pos : String} {after : Array Edge} {guard : Option (Nat × Bool)}
end
end Go.Proofs.Ytdhbhcbkhkopbaa
namespace Go.Proofs.Ytdhbhcbkhkopbaa
open Go Go.RowKit
variable {κ : Cx}
def subs : List Nat → List (List Nat)
  | [] => [[]]
  | x :: r => subs r ++ (subs r).map (x :: ·)
theorem filter_subs (f : Nat → Bool) : ∀ l : List Nat, l.filter f ∈ subs l
  | [] => by simp [subs]
  | x :: r => by
    have ih := filter_subs f r
    rw [List.filter_cons, subs, List.mem_append]
    split
    · exact .inr (List.mem_map.2 ⟨_, ih, rfl⟩)
    · exact .inl ih
def keeps (ops : Array Oper) (S : List Nat) (t : Nat) : Bool := !(S.any fun i => ((ops[i]?).bind (·.dst)) == some t)
/-- What is known without the operations S. -/
def without (ops : Array Oper) (S : List Nat) (E : Env) : Env := E.filter fun q => keeps ops S q.1
theorem without_look {ops : Array Oper} {S : List Nat} {t : Nat} {d : D} : ∀ {E : Env}, (without ops S E).look t = some d → E.look t = some d ∧ keeps ops S t = true
  | [], h => by simp [without, Env.look] at h
  | (s, e) :: E, h => by
    unfold without at h
    rw [List.filter_cons] at h
    by_cases hst : s = t
    · subst hst
      by_cases hk : keeps ops S s = true
      · rw [if_pos hk] at h
        rw [look_here] at h ⊢
        exact ⟨h, hk⟩
      · rw [if_neg hk] at h
        exact absurd (without_look (E := E) h).2 hk
    · rw [look_past _ _ hst]
      split at h
      · rw [look_past _ _ hst] at h; exact without_look (E := E) h
      · exact without_look (E := E) h
theorem look_without {ops : Array Oper} {S : List Nat} {t : Nat} {d : D} (hk : keeps ops S t = true) : ∀ {E : Env}, E.look t = some d → (without ops S E).look t = some d
  | [], h => by simp [Env.look] at h
  | (s, e) :: E, h => by
    unfold without
    rw [List.filter_cons]
    by_cases hst : s = t
    · subst hst
      rw [if_pos hk]
      rw [look_here] at h ⊢
      exact h
    · rw [look_past _ _ hst] at h
      split
      · rw [look_past _ _ hst]; exact look_without hk h
      · exact look_without hk h
/-- The operations before p have come up but for S. -/
def listedS (ops : Array Oper) (p : Nat) (S : List Nat) : Array Bool := ((List.range ops.size).map fun i => decide (i < p) && !S.contains i).toArray
theorem listedS_get {ops : Array Oper} {p i : Nat} {S : List Nat} (h : i < ops.size) : (listedS ops p S)[i]? = some (decide (i < p) && !S.contains i) := by simp [listedS, h]
def lateOk (ops : Array Oper) (p : Nat) (late : List Nat) : Bool :=
  let b := (befores ops).map List.eraseDups
  decide (p < ops.size) && late.all (· < p) && (List.range ops.size).all fun i => decide (i < p) || ((List.range p).all fun j => late.contains j || (b.getD i []).contains j) && (i == p || (b.getD i []).contains p)
theorem AnyT.mono {P : Program} {n B : Nat} {ops : Array Oper} {C : Env → Prop} : ∀ {m k : Nat} {listed : Array Bool} {E : Env}, m ≤ k → AnyT P n B ops C m listed E → AnyT P n B ops C k listed E
  | 0, k, _, _, _, ⟨hr, hC⟩ => AnyT.last hr hC
  | m + 1, 0, _, _, h, _ => absurd h (by omega)
  | m + 1, k + 1, _, _, h, .inl h' => .inl h'
  | m + 1, k + 1, _, _, h, .inr ⟨hne, h'⟩ => .inr ⟨hne, fun i hi => by
    obtain ⟨o, ho, ι, G, E₂, he, hn⟩ := h' i hi
    exact ⟨o, ho, ι, G, E₂, he, fun j hj => AnyT.mono (by omega) (hn j hj)⟩⟩
section
variable {P : Program} {n B : Nat} {ops : Array Oper} {Q : Exit → Act → World → Prop}
theorem wp_segL {p : Nat} {late : List Nat} {E E' : Env} {ds : List D} {a₀ : Act} {w₀ : World} (htied : tied ops = true) (hfits : fits n ops = true) (hlate : lateOk ops p late = true) (ht : Trace P B ops (ops.toList.take p) E ds E') (h₀ : St κ n B E a₀ w₀)
    (hnext : ∀ S ∈ subs late, ∀ fuel a' w', unlisted ops (listedS ops p S) ≤ fuel + 1 → Grow w₀ w' → St κ n B (without ops S E') a' w' → wpOpIn (FR κ.rd) 0 P ops Q p (wpAnyIn (FR κ.rd) 0 P .any ops Q fuel ((listedS ops p S).setIfInBounds p true)) a' w') :
    ∀ (fuel : Nat) (listed : Array Bool) (a : Act) (w : World), unlisted ops listed ≤ fuel → Inv κ n B ops 0 p E ds a₀ w₀ listed a w → wpAnyIn (FR κ.rd) 0 P .any ops Q fuel listed a w := by
  have hb := hlate
  simp only [lateOk, Bool.and_eq_true, decide_eq_true_eq, List.all_eq_true, List.mem_range, Bool.or_eq_true, beq_iff_eq] at hb
  obtain ⟨⟨hp, hlp⟩, hb⟩ := hb
  have hidx : ∀ (i : Nat) (o : Oper), i < p → ops[i]? = some o → (ops.toList.take p)[i]? = some o := fun i o h2 h3 => by
    rw [List.getElem?_take, if_pos h2]; simpa using h3
  have hidx' : ∀ (j : Nat) (o : Oper), (ops.toList.take p)[j]? = some o → ops[j]? = some o ∧ j < p := fun j o h => by
    rw [List.getElem?_take] at h
    split at h
    · exact ⟨by simpa using h, by assumption⟩
    · cases h
  have hends : ∀ (listed : Array Bool) (a : Act) (w : World), Inv κ n B ops 0 p E ds a₀ w₀ listed a w → Region.ready .any ops listed = [] → False := by
    intro listed a w I hr
    have hall : ∀ i, i < ops.size → listed.getD i false = true := by
      intro i
      induction i using Nat.strongRecOn with
      | _ i ih =>
        intro hi
        rcases hb : listed.getD i false with _ | _
        · exfalso
          have : i ∈ Region.ready .any ops listed := by
            rw [mem_ready]
            refine ⟨?_, ops[i], Array.getElem?_eq_getElem hi, fun e he hbd => ih e.on (tied_edge htied (Array.getElem?_eq_getElem hi) he hbd) (Nat.lt_trans (tied_edge htied (Array.getElem?_eq_getElem hi) he hbd) hi)⟩
            have : i < listed.size := by rw [I.lsize]; exact hi
            simp [this] at hb ⊢
            exact hb
          rw [hr] at this
          cases this
        · rfl
    have h1 := hall p hp
    rw [I.high p (Nat.le_refl _)] at h1
    cases h1
  intro fuel
  induction fuel with
  | zero =>
    intro listed a w hc I
    have hr : Region.ready .any ops listed = [] := by
      rcases hr : Region.ready .any ops listed with _ | ⟨i, l⟩
      · rfl
      · exfalso
        have hi : i ∈ Region.ready .any ops listed := by rw [hr]; exact List.mem_cons_self
        obtain ⟨hu, o, ho, _⟩ := mem_ready.1 hi
        have hpos : 0 < unlisted ops listed := List.countP_pos_iff.2 ⟨i, List.mem_range.2 (Array.getElem?_eq_some_iff.1 ho).1, by simp only [hu]; rfl⟩
        omega
    exact (hends listed a w I hr).elim
  | succ fuel ih =>
    intro listed a w hc I
    refine ⟨fun hr => (hends listed a w I hr).elim, fun i hi => ?_⟩
    obtain ⟨hu, o, ho, hall⟩ := mem_ready.1 hi
    have hlt : i < ops.size := (Array.getElem?_eq_some_iff.1 ho).1
    have huf : listed.getD i false = false := by
      have : i < listed.size := by rw [I.lsize]; exact hlt
      simp [this] at hu ⊢
      exact hu
    have hready : ∀ o', ops[i]? = some o' → ∀ e ∈ o'.after, Region.binds .any e = true → listed.getD e.on false = true := fun o' ho' e he hb => by
      rw [ho] at ho'; injection ho' with ho'; subst ho'; exact hall e he hb
    rcases Nat.lt_or_ge i p with hip | hip
    case inr =>
      have hmem : ∀ k l, l ∈ (Array.map List.eraseDups (befores ops)).getD k [] → l ∈ (befores ops).getD k [] := fun k l h => by
        rw [Array.getD_eq_getD_getElem?, Array.getElem?_map] at h
        rw [Array.getD_eq_getD_getElem?]
        cases hk : (befores ops)[k]? with
        | none => rw [hk] at h; simp at h
        | some v => rw [hk] at h; simpa using h
      obtain ⟨hb1, hb2⟩ := (hb i hlt).resolve_left (by omega)
      have hi : i = p := by
        rcases hb2 with h | h
        · exact h
        · have h2 := I.befores htied i p hready (hmem i p (by simpa using h))
          rw [I.high p (Nat.le_refl _)] at h2
          cases h2
      subst hi
      have hlow : ∀ k, k < i → k ∉ late → listed.getD k false = true := fun k hk hnl => by
        have h1 := (hb1 k hk).resolve_left (by simpa using hnl)
        exact I.befores htied i k hready (hmem i k (by simpa using h1))
      have hS := filter_subs (fun j => !listed.getD j false) late
      have hlist : listed = listedS ops i (late.filter fun j => !listed.getD j false) := by
        apply Array.ext_getElem?
        intro k
        rcases Nat.lt_or_ge k ops.size with hk | hk
        · rw [listedS_get hk]
          have hk' : k < listed.size := by rw [I.lsize]; exact hk
          have hg : listed[k]? = some (listed.getD k false) := by simp [hk']
          rw [hg]
          congr 1
          rcases Nat.lt_or_ge k i with h | h
          · by_cases hkl : k ∈ late
            · cases hv : listed.getD k false with
              | true => rw [Array.getD_eq_getD_getElem?] at hv; simp [h, hkl, hv]
              | false => rw [Array.getD_eq_getD_getElem?] at hv; simp [h, hkl, hv]
            · rw [hlow k h hkl]; simp [h, hkl]
          · rw [I.high k h]; simp; omega
        · rw [Array.getElem?_eq_none (by rw [I.lsize]; exact hk), Array.getElem?_eq_none (by simp [listedS]; exact hk)]
      have hst : St κ n B (without ops (late.filter fun j => !listed.getD j false) E') a w := by
        refine ⟨I.base, I.defers, I.size, fun t e he => ?_⟩
        obtain ⟨he, hkeep⟩ := without_look he
        rcases ht.last t e he with ⟨j, o', hj, hd, hds⟩ | ⟨hno, hl⟩
        · obtain ⟨hj', hjp⟩ := hidx' j o' hj
          refine I.facts j o' t e (Nat.zero_le _) hj' ?_ hd (by rw [Nat.sub_zero]; exact hds)
          by_cases hjl : j ∈ late
          · cases hv : listed.getD j false with
            | true => rfl
            | false =>
              exfalso
              simp only [keeps, Bool.not_eq_true', List.any_eq_false, beq_iff_eq] at hkeep
              exact hkeep j (List.mem_filter.2 ⟨hjl, by simp [hv]⟩) (by rw [hj']; exact hd)
          · exact hlow j hjp hjl
        · rw [I.frame t fun j o' _ hj hl' => ?_]
          · exact (h₀.of t e hl).grow I.grow
          · rcases Nat.lt_or_ge j i with hjp | hjp
            · exact hno j o' (hidx j o' hjp hj)
            · rw [I.high j hjp] at hl'; cases hl'
      have := hnext _ hS fuel a w (by rw [← hlist]; exact hc) I.grow hst
      rw [← hlist] at this
      exact this
    obtain ⟨t, d, Ei, hdst, hds, hgood, henv⟩ := ht.nth (i := i) (o := o) (hidx i o hip ho)
    have hf := fits_mem hfits (o := o) (by simpa using Array.mem_of_getElem? ho)
    refine wpOpR_step ho fun K hK => good_wp I.base (fun t e hvt he => ?_) hdst hgood (fun r e hs he => ?_) (fun r hs => by rw [I.size]; exact hf.1 r hs) fun x w' g hx => hK _ _ (ih _ _ _ ?_ ?_)
    · have hnb := fits_base hfits
      rcases henv t e he with ⟨j, q, hji, hj, hpd, hpds⟩ | ⟨hno, hl⟩
      · obtain ⟨hj', _⟩ := hidx' j q hj
        have h9 : t < n := (fits_mem hfits (o := q) (by simpa using Array.mem_of_getElem? hj')).2 t hpd
        exact absurd (Nat.lt_of_lt_of_le h9 hnb) (Nat.not_lt.2 hvt)
      · have h1 := (h₀.virt hnb) t e hvt hl
        exact h1.grow I.grow
    · rcases henv r e he with ⟨j, q, hji, hj, hpd, hpds⟩ | ⟨hno, hl⟩
      · obtain ⟨hj', hjp⟩ := hidx' j q hj
        obtain ⟨ed, he1, hb, hon⟩ := ((tied_pair htied ho hj' hpd (by omega)).2 hs).1 (by omega)
        refine I.facts j q r e (Nat.zero_le _) hj' ?_ hpd (by rw [Nat.sub_zero]; exact hpds)
        rw [← hon]
        exact hall ed he1 hb
      · rw [I.frame r]
        · exact (h₀.of r e hl).grow I.grow
        · intro j q hsj hj hlist hpd
          by_cases hji : j = i
          · subst hji; rw [huf] at hlist; cases hlist
          · rcases Nat.lt_or_ge j i with h | h
            · exact hno j q h (hidx j q (by omega) hj) hpd
            · obtain ⟨ed, he1, hb, hon⟩ := ((tied_pair htied ho hj hpd hji).2 hs).2 (by omega)
              have := I.closed j q hj hlist ed he1 hb
              rw [hon, huf] at this
              cases this
    · have : unlisted ops (listed.setIfInBounds i true) < unlisted ops listed := by
        refine countP_lt (x := i) (fun y hy => ?_) (List.mem_range.2 hlt) (by simp only [hu]; rfl) ?_
        · by_cases hyi : i = y
          · subst hyi
            have : i < listed.size := by rw [I.lsize]; exact hlt
            simp [this] at hy
          · rw [getD_set_ne true hyi] at hy; exact hy
        · have : i < listed.size := by rw [I.lsize]; exact hlt
          simp [this]
      omega
    · have hset : ∀ j, (listed.setIfInBounds i true).getD j false = true → j = i ∨ listed.getD j false = true := fun j hj => by
        by_cases hji : i = j
        · exact .inl hji.symm
        · rw [getD_set_ne false hji] at hj; exact .inr hj
      refine ⟨I.grow.trans g, Nat.le_trans I.base g.size, by simp [I.lsize], fun j hj hj' => by omega, fun j hj => ?_, I.defers, by simp [Act.put, I.size], ?_, ?_, ?_⟩
      · rw [getD_set_ne false (by omega)]; exact I.high j hj
      · intro j q hj hl e he hb
        rcases hset j hl with rfl | hl
        · rw [ho] at hj; injection hj with hj; subst hj
          exact getD_set_true (hall e he hb)
        · exact getD_set_true (I.closed j q hj hl e he hb)
      · intro j q r e hsj hj hl hpd hpds
        by_cases hji : j = i
        · subst hji
          rw [ho] at hj; injection hj with hj; subst hj
          rw [hdst] at hpd; injection hpd with hpd; subst hpd
          rw [Nat.sub_zero, hds] at hpds; injection hpds with hpds; subst hpds
          rw [getD_put_here _ _ (by rw [I.size]; exact hf.2 _ hdst)]
          exact hx
        · have hl' := (hset j hl).resolve_left hji
          have hne : t ≠ r := fun h => (tied_pair htied ho hj hpd hji).1 (by rw [hdst, h])
          rw [getD_put_past _ _ hne]
          exact (I.facts j q r e hsj hj hl' hpd hpds).grow g
      · intro r hs
        have hne : t ≠ r := fun h => hs i o (Nat.zero_le _) ho (by have : i < listed.size := by rw [I.lsize]; exact hlt
                                                                   simp [this]) (by rw [hdst, h])
        rw [getD_put_past _ _ hne]
        refine I.frame r fun j q hsj hj hl => hs j q hsj hj (getD_set_true hl)
/-- What is to be shown behind the operations before p, where S have not come up. -/
def LateT (P : Program) (n B : Nat) (ops : Array Oper) (C : Env → Prop) (p m : Nat) (S : List Nat) (E : Env) : Prop :=
  m + 1 ≤ unlisted ops (listedS ops p S) ∧ ∃ E₀, Sub E₀ E ∧ ((E₀.map (·.1)).all (keeps ops S)) = true ∧ ∃ o, ops[p]? = some o ∧ ∃ E₂, Eff P n B ops o E₀ E₂ ∧ AnyT P n B ops C m ((listedS ops p S).setIfInBounds p true) E₂
end
end Go.Proofs.Ytdhbhcbkhkopbaa
namespace Go.Proofs.Ytdhbhcbkhkopbaa
open Go Go.RowKit
set_option linter.unusedVariables false
set_option linter.unusedSimpArgs false
variable {κ : Cx}
/-! ### Disks as plain mathematics -/
abbrev Con := Option (List UInt8)
abbrev Dk := List (List Con)
def hisC (S : Dk) (i : Nat) : List Con := S.getD i []
def lastC (h : List Con) : Con := h.headD none
def totC (S : Dk) : Nat := (S.map List.length).sum
def putC (S : Dk) (i : Nat) (c : Con) : Dk := S.set i (c :: hisC S i)
def atC (h : List Con) (j : Nat) : Con := (none :: h.reverse).getD j none
def cV (c : Con) : List Value := [.bool c.isSome, .string ⟨(c.getD []).toArray⟩]
def rowC (h : List Con) : List Value := (none :: h.reverse).flatMap cV
def errC (c : Con) : Int := if c.isSome then 0 else 11
theorem putC_length (S : Dk) (i : Nat) (c : Con) : (putC S i c).length = S.length := by simp [putC]
theorem his_get {S : Dk} {i : Nat} (h : i < S.length) : S[i]? = some (hisC S i) := by simp [hisC, h]
theorem his_put {S : Dk} {i : Nat} (c : Con) (h : i < S.length) : hisC (putC S i c) i = c :: hisC S i := by simp [hisC, putC, h]
theorem his_put_ne {S : Dk} {i j : Nat} (c : Con) (h : i ≠ j) : hisC (putC S i c) j = hisC S j := by simp [hisC, putC, List.getElem?_set_ne h]
theorem his_set {S : Dk} {i : Nat} (x : List Con) (h : i < S.length) : hisC (S.set i x) i = x := by simp [hisC, h]
theorem his_set_ne {S : Dk} {i j : Nat} (x : List Con) (h : i ≠ j) : hisC (S.set i x) j = hisC S j := by simp [hisC, List.getElem?_set_ne h]
theorem totC_put : ∀ {S : Dk} {i : Nat} (c : Con), i < S.length → totC (putC S i c) = totC S + 1
  | x :: S, 0, c, _ => by simp [totC, putC, hisC]; omega
  | x :: S, i + 1, c, h => by
    have := totC_put (S := S) (i := i) c (by simpa using h)
    simp only [totC, putC, hisC, List.getD_cons_succ, List.set_cons_succ, List.map_cons, List.sum_cons] at this ⊢
    omega
theorem his_le : ∀ (S : Dk) (i : Nat), (hisC S i).length ≤ totC S
  | [], i => by simp [hisC]
  | x :: S, 0 => by simp [hisC, totC]
  | x :: S, i + 1 => by
    have := his_le S i
    simp only [totC, hisC, List.getD_cons_succ, List.map_cons, List.sum_cons] at this ⊢
    omega
theorem totC_rep (n : Nat) : totC (List.replicate n []) = 0 := by simp [totC]
theorem his_rep (n i : Nat) : hisC (List.replicate n []) i = [] := by
  unfold hisC
  rw [List.getD_eq_getElem?_getD, List.getElem?_replicate]
  split <;> rfl
theorem atC_drop {h : List Con} {j : Nat} (hj : j ≤ h.length) : atC h j = lastC (h.drop (h.length - j)) := by
  unfold atC lastC
  cases j with
  | zero => simp
  | succ j =>
    have h1 : h.length - (j + 1) < h.length := by omega
    rw [List.getD_cons_succ, List.getD_eq_getElem?_getD, List.getElem?_reverse (by omega), List.drop_eq_getElem_cons h1, List.headD_cons, List.getElem?_eq_getElem (by omega)]
    simp only [Option.getD_some]
    congr 1; omega
theorem atC_len (h : List Con) : atC h h.length = lastC h := by rw [atC_drop (Nat.le_refl _), Nat.sub_self, List.drop_zero]
theorem flatC_length (l : List Con) : (l.flatMap cV).length = l.length * 2 := by
  induction l with
  | nil => rfl
  | cons c l ih => rw [List.flatMap_cons, List.length_append, ih, List.length_cons]; simp [cV]; omega
theorem rowC_length (h : List Con) : (rowC h).length = (h.length + 1) * 2 := by rw [rowC, flatC_length]; simp
theorem rowC_cons (c : Con) (h : List Con) : rowC (c :: h) = rowC h ++ cV c := by
  unfold rowC
  rw [List.reverse_cons, ← List.cons_append, List.flatMap_append]
  simp
theorem flatC_at : ∀ (l : List Con) (j : Nat), j < l.length → ((l.flatMap cV).drop (j * 2)).take 2 = cV (l.getD j none)
  | c :: l, 0, _ => by simp [cV]
  | c :: l, j + 1, hj => by
    have := flatC_at l j (by simpa using hj)
    rw [List.flatMap_cons, List.getD_cons_succ, ← this, List.drop_append, show (cV c).length = 2 from rfl, show (j + 1) * 2 - 2 = j * 2 by omega, List.drop_of_length_le (by simp [cV]; omega)]; rfl
theorem rowC_at {h : List Con} {j : Nat} (hj : j ≤ h.length) : ((rowC h).drop (j * 2)).take 2 = cV (atC h j) := flatC_at _ _ (by simp; omega)
theorem cV_one (c : Con) : (cV c).all (·.oneCell') = true := rfl
theorem rowC_one (h : List Con) : (rowC h).all (·.oneCell') = true := by
  unfold rowC
  rw [List.all_flatMap]
  exact List.all_eq_true.2 fun c _ => cV_one c
/-! ### Facts that are carried -/
/-- What lies below B, is not excluded by X and is of a type that Q allows, lies so in the other world too, below B' and not excluded by X'. -/
def Carry (Q : TypeId → Prop) (X X' : Nat → Prop) (B B' : Nat) (w w' : World) : Prop := B ≤ B' ∧ ∀ b cs e fr, ¬ X b → b < B → Q e → w.heap[b]? = some (.cells cs e fr) → ¬ X' b ∧ w'.heap[b]? = w.heap[b]?
theorem Carry.keep {Q : TypeId → Prop} {X : Nat → Prop} {B : Nat} {w w' : World} (g : Below B w w') : Carry Q X X B B w w' := ⟨Nat.le_refl _, fun b _ _ _ hx hb _ _ => ⟨hx, g.block b hb⟩⟩
theorem Carry.up {Q : TypeId → Prop} {X : Nat → Prop} {B B' : Nat} {w : World} (g : B ≤ B') : Carry Q X X B B' w w := ⟨g, fun _ _ _ _ hx _ _ _ => ⟨hx, rfl⟩⟩
theorem Carry.wrote {Q : TypeId → Prop} {X : Nat → Prop} {B T g : Nat} {w w' : World} (k : Wrote B T g w w') (h : ¬ Q T ∨ X g) : Carry Q X X w.heap.size w'.heap.size w w' := ⟨k.size, fun b cs e fr hx hb hq hh => ⟨hx, k.other b hb fun hbg => by
    subst hbg
    rcases h with h | h
    · exact h (k.row _ _ _ hh ▸ hq)
    · exact hx h⟩⟩
/-- More may be excluded if it lies above. -/
theorem Carry.out {Q : TypeId → Prop} {X X' : Nat → Prop} {B B' : Nat} {w : World} (g : B ≤ B') (h : ∀ b, b < B → ¬ X' b) : Carry Q X X' B B' w w := ⟨g, fun b _ _ _ _ hb _ _ => ⟨h b hb, rfl⟩⟩
structure DTy where
  r : TypeId
  p : TypeId
  v : TypeId
  b : TypeId
def BlkX (X : Nat → Prop) (B : Nat) (w : World) (b : Nat) (e : TypeId) (cs : List Value) : Prop := ¬ X b ∧ b < B ∧ w.heap[b]? = some (.cells cs.toArray e (0, 0))
theorem BlkX.carry {Q : TypeId → Prop} {X X' : Nat → Prop} {B B' : Nat} {w w' : World} {b : Nat} {e : TypeId} {cs : List Value} (h : BlkX X B w b e cs) (k : Carry Q X X' B B' w w') (hq : Q e) : BlkX X' B' w' b e cs := by
  obtain ⟨h1, h2, h3⟩ := h
  obtain ⟨k1, k2⟩ := k.2 b _ _ _ h1 h2 hq h3
  exact ⟨k1, Nat.lt_of_lt_of_le h2 k.1, k2.trans h3⟩
theorem BlkX.cells {X X' : Nat → Prop} {B B' : Nat} {w : World} {b : Nat} {e e' : TypeId} {cs cs' : List Value} (h : BlkX X B w b e cs) (h' : w.heap[b]? = some (.cells cs'.toArray e' (0, 0))) : cs = cs' := by
  have := h.2.2.symm.trans h'
  injection this with this
  injection this with this
  simpa using this
section
variable (T : DTy) (X : Nat → Prop) (B : Nat) (w : World)
def ContAt (y : Value) : Con → Prop
  | none => y = .slice none 0 0
  | some l => l.length ≤ 256 ∧ ∃ b, y = .slice (some ⟨b, 0, none⟩) l.length l.length ∧ BlkX X B w b T.b (l.map byteV)
def VersAt : Value → List Con → Prop
  | x, [] => x = .pointer none
  | x, c :: h => ∃ b y z, x = .pointer (some ⟨b, 0, none⟩) ∧ BlkX X B w b T.v [.bool c.isSome, y, .int .i64 ((h.length + 1 : Nat) : Int), z] ∧ ContAt T X B w y c ∧ VersAt z h
def PartAt (x : Value) (f : Nat → List Con) : Prop := ∃ b cs, x = .pointer (some ⟨b, 0, none⟩) ∧ cs.length = 64 ∧ BlkX X B w b T.p cs ∧ ∀ j u, cs[j]? = some u → VersAt T X B w u (f j)
def PartsAt (p : Value) (S : Dk) : Prop := (S = [] ∧ p = .slice none 0 0) ∨ ∃ b ps, p = .slice (some ⟨b, 0, none⟩) ps.length ps.length ∧ ps.length = (S.length + 63) / 64 ∧ BlkX X B w b T.r ps ∧ ∀ k u, ps[k]? = some u → PartAt T X B w u (fun j => hisC S (64 * k + j))
end
section
variable {Q : TypeId → Prop} {T : DTy} {X X' : Nat → Prop} {B B' : Nat} {w w' : World}
theorem ContAt.carry {y : Value} {c : Con} (h : ContAt T X B w y c) (k : Carry Q X X' B B' w w') (hb : Q T.b) : ContAt T X' B' w' y c := by
  cases c with
  | none => exact h
  | some l => obtain ⟨h0, b, h1, h2⟩ := h; exact ⟨h0, b, h1, h2.carry k hb⟩
theorem VersAt.carry (k : Carry Q X X' B B' w w') (hv : Q T.v) (hb : Q T.b) : ∀ {x : Value} {h : List Con}, VersAt T X B w x h → VersAt T X' B' w' x h
  | _, [], h => h
  | _, _ :: _, ⟨b, y, z, h1, h2, h3, h4⟩ => ⟨b, y, z, h1, h2.carry k hv, h3.carry k hb, VersAt.carry k hv hb h4⟩
theorem PartAt.carry {x : Value} {f : Nat → List Con} (k : Carry Q X X' B B' w w') (hp : Q T.p) (hv : Q T.v) (hb : Q T.b) : PartAt T X B w x f → PartAt T X' B' w' x f := fun ⟨b, cs, h1, h2, h3, h4⟩ =>
  ⟨b, cs, h1, h2, h3.carry k hp, fun j u hu => (h4 j u hu).carry k hv hb⟩
theorem PartsAt.carry {p : Value} {S : Dk} (k : Carry Q X X' B B' w w') (hr : Q T.r) (hp : Q T.p) (hv : Q T.v) (hb : Q T.b) : PartsAt T X B w p S → PartsAt T X' B' w' p S
  | .inl h => .inl h
  | .inr ⟨b, ps, h1, h2, h3, h4⟩ => .inr ⟨b, ps, h1, h2, h3.carry k hr, fun j u hu => (h4 j u hu).carry k hp hv hb⟩
theorem ContAt.one {y : Value} {c : Con} (h : ContAt T X B w y c) : y.oneCell' = true := by
  cases c with
  | none => rw [show y = _ from h]; rfl
  | some l => obtain ⟨_, b, rfl, _⟩ := h; rfl
theorem VersAt.one {x : Value} {h : List Con} (hx : VersAt T X B w x h) : x.oneCell' = true := by
  cases h with
  | nil => rw [show x = _ from hx]; rfl
  | cons c h => obtain ⟨b, _, _, rfl, _⟩ := hx; rfl
theorem PartsAt.one {p : Value} {S : Dk} (h : PartsAt T X B w p S) : p.oneCell' = true := by
  rcases h with ⟨_, rfl⟩ | ⟨b, ps, rfl, _⟩ <;> rfl
/-- One sector is given a newer version. -/
theorem PartsAt.set {b bk b8 b9 i : Nat} {ps cs : List Value} {S : Dk} {x : Value} {h : List Con} (hP : PartsAt T X B w (.slice (some ⟨b, 0, none⟩) ps.length ps.length) S) (hB : B ≤ B') (hb : w.heap[b]? = some (.cells ps.toArray T.r (0, 0))) (hi : i < S.length)
    (hps : ps[i / 64]? = some (.pointer (some ⟨bk, 0, none⟩))) (hbk : w.heap[bk]? = some (.cells cs.toArray T.p (0, 0))) (h8 : BlkX X B' w b8 T.r (ps.set (i / 64) (.pointer (some ⟨b9, 0, none⟩)))) (h9 : BlkX X B' w b9 T.p (cs.set (i % 64) x)) (hx : VersAt T X B' w x h) :
    PartsAt T X B' w (.slice (some ⟨b8, 0, none⟩) ps.length ps.length) (S.set i h) := by
  have ku : Carry (fun _ => True) X X B B' w w := Carry.up hB
  rcases hP with ⟨rfl, _⟩ | ⟨b', ps', h1, h2, h3, h4⟩
  · cases hi
  injection h1 with h1 _ _
  injection h1 with h1
  injection h1 with h1 _ _
  subst h1
  obtain rfl : ps' = ps := h3.cells (X' := X) (B' := B) hb
  refine .inr ⟨b8, ps'.set (i / 64) (.pointer (some ⟨b9, 0, none⟩)), by simp, by simpa using h2, h8, fun k u hu => ?_⟩
  have hk : k < ps'.length := by have := (List.getElem?_eq_some_iff.1 hu).1; simpa using this
  by_cases hki : i / 64 = k
  · subst hki
    rw [List.getElem?_set_self hk] at hu
    injection hu with hu; subst hu
    obtain ⟨bk', cs', k1, k2, k3, k4⟩ := h4 _ _ hps
    injection k1 with k1; injection k1 with k1; injection k1 with k1 _ _
    subst k1
    obtain rfl : cs' = cs := k3.cells (X' := X) (B' := B) hbk
    refine ⟨b9, _, rfl, by simpa using k2, h9, fun j u hj => ?_⟩
    have hjl : j < 64 := by have := (List.getElem?_eq_some_iff.1 hj).1; simpa [k2] using this
    by_cases hji : i % 64 = j
    · subst hji
      rw [List.getElem?_set_self (by omega)] at hj
      injection hj with hj; subst hj
      show VersAt T X B' w x (hisC (S.set i h) (64 * (i / 64) + i % 64))
      rw [show 64 * (i / 64) + i % 64 = i from by omega, his_set _ hi]
      exact hx
    · rw [List.getElem?_set_ne hji] at hj
      show VersAt T X B' w u (hisC (S.set i h) (64 * (i / 64) + j))
      rw [his_set_ne _ (by omega)]
      exact (k4 j u hj).carry ku trivial trivial
  · rw [List.getElem?_set_ne hki] at hu
    obtain ⟨bk', cs', k1, k2, k3, k4⟩ := (h4 k u hu).carry ku trivial trivial trivial
    refine ⟨bk', cs', k1, k2, k3, fun j u hj => ?_⟩
    have hjl : j < 64 := by have := (List.getElem?_eq_some_iff.1 hj).1; omega
    show VersAt T X B' w u (hisC (S.set i h) (64 * k + j))
    rw [his_set_ne _ (by omega)]
    exact k4 j u hj
end
/-! The same as facts. -/
section
variable (T : DTy) (X : Nat → Prop)
def contyD (c : Con) : D := .p (fun B w y => ContAt T X B w y c) (fun _ _ _ _ g h => h.carry (Carry.keep (Q := fun _ => True) g) trivial) (fun _ _ _ _ g h => h.carry (Carry.up (Q := fun _ => True) g) trivial)
def versD (h : List Con) : D := .p (fun B w x => VersAt T X B w x h) (fun _ _ _ _ g h => h.carry (Carry.keep (Q := fun _ => True) g) trivial trivial) (fun _ _ _ _ g h => h.carry (Carry.up (Q := fun _ => True) g) trivial trivial)
def partsD' (S : Dk) : D := .p (fun B w p => (∀ b, X b → b < B) ∧ PartsAt T X B w p S) (fun _ _ _ _ g h => ⟨h.1, h.2.carry (Carry.keep (Q := fun _ => True) g) trivial trivial trivial trivial⟩) (fun _ _ _ _ g h => ⟨fun b hb => Nat.lt_of_lt_of_le (h.1 b hb) g, h.2.carry (Carry.up (Q := fun _ => True) g) trivial trivial trivial trivial⟩)
end
/-- Contents in new memory, from block lo on. -/
def conD (lo : Nat) (e : TypeId) (c : Con) : D :=
  .p (fun B w x => match c with
      | none => x = .slice none 0 0
      | some l => l.length ≤ 256 ∧ ∃ b, x = .slice (some ⟨b, 0, none⟩) l.length l.length ∧ lo ≤ b ∧ b < B ∧ w.heap[b]? = some (.cells (l.map byteV).toArray e (0, 0)))
    (fun _ _ _ _ g h => by
      cases c with
      | none => exact h
      | some l => obtain ⟨h0, b, h1, h2, h3, h4⟩ := h; exact ⟨h0, b, h1, h2, h3, (g.block b h3).trans h4⟩)
    (fun _ _ _ _ g h => by
      cases c with
      | none => exact h
      | some l => obtain ⟨h0, b, h1, h2, h3, h4⟩ := h; exact ⟨h0, b, h1, h2, Nat.lt_of_lt_of_le h3 g, h4⟩)
theorem conD_mono {e : TypeId} {c : Con} (B B' : Nat) (h : B ≤ B') : Le (conD B' e c) (conD B e c) := fun B0 w x hx => by
  cases c with
  | none => exact hx
  | some l => obtain ⟨h0, b, h1, h2, h3, h4⟩ := hx; exact ⟨h0, b, h1, Nat.le_trans h h2, h3, h4⟩
theorem conD_bytes {lo : Nat} {e : TypeId} {l : List UInt8} : Le (conD lo e (some l)) (bytes l l.length) := fun B w x ⟨h0, b, h1, _, h3, h4⟩ => by
  subst h1
  have := blk_row h3 h4 l.length
  rw [List.take_of_length_le (by simp)] at this
  exact bytes_mk (Nat.le_refl _) (by simp only [maxLen]; omega) this
theorem Surv.con {B e g lo : Nat} {T : TypeId} {c : Con} (h : T ≠ e) : Surv B e g (conD lo T c) := fun w w' x k hx => by
  cases c with
  | none => exact hx
  | some l =>
    obtain ⟨h0, b, h1, h2, h3, h4⟩ := hx
    refine ⟨h0, b, h1, h2, Nat.lt_of_lt_of_le h3 k.size, ?_⟩
    rw [k.other b h3 fun hb => ?_]
    · exact h4
    · subst hb; exact h (k.row _ _ _ h4)
theorem Surv.conty {B e g : Nat} {T : DTy} {X : Nat → Prop} {c : Con} (h : e ≠ T.b ∨ X g) : Surv B e g (contyD T X c) := fun w w' x k hx => ContAt.carry (Q := fun a => a = T.b) hx (Carry.wrote k h) rfl
theorem Surv.vers {B e g : Nat} {T : DTy} {X : Nat → Prop} {h : List Con} (hq : (e ≠ T.v ∧ e ≠ T.b) ∨ X g) : Surv B e g (versD T X h) := fun w w' x k hx =>
  VersAt.carry (Q := fun a => a = T.v ∨ a = T.b) (Carry.wrote k (hq.imp (fun h => by rintro (h' | h'); exact h.1 h'; exact h.2 h') id)) (.inl rfl) (.inr rfl) hx
theorem Surv.parts {B e g : Nat} {T : DTy} {X : Nat → Prop} {S : Dk} (hq : (e ≠ T.r ∧ e ≠ T.p ∧ e ≠ T.v ∧ e ≠ T.b) ∨ X g) : Surv B e g (partsD' T X S) := fun w w' x k hx =>
  ⟨fun b hb => Nat.lt_of_lt_of_le (hx.1 b hb) k.size, PartsAt.carry (Q := fun a => a = T.r ∨ a = T.p ∨ a = T.v ∨ a = T.b) (Carry.wrote k (hq.imp (fun h => by rintro (h' | h' | h' | h'); exact h.1 h'; exact h.2.1 h'; exact h.2.2.1 h'; exact h.2.2.2 h') id)) (.inl rfl) (.inr (.inl rfl)) (.inr (.inr (.inl rfl))) (.inr (.inr (.inr rfl))) hx.2⟩
/-! ### Structs whose last field is told by a fact -/
def tlD (pre : List Value) (f : D) : D :=
  .p (fun B w x => ∃ v : Value, v.oneCell' = true ∧ x = aggV (pre ++ [v]) ∧ f.OfB B w v) (fun _ _ _ _ g ⟨v, h1, h2, h3⟩ => ⟨v, h1, h2, h3.keep g⟩) (fun _ _ _ _ g ⟨v, h1, h2, h3⟩ => ⟨v, h1, h2, h3.up g⟩)
theorem tl_le {f f' : D} {pre : List Value} (h : Le f f') : Le (tlD pre f) (tlD pre f') := fun _ _ _ ⟨v, h1, h2, h3⟩ => ⟨v, h1, h2, h _ _ _ h3⟩
theorem Surv.tl {B e g : Nat} {f : D} {pre : List Value} (h : Surv B e g f) : Surv B e g (tlD pre f) := fun w w' _ k ⟨v, h1, h2, h3⟩ => ⟨v, h1, h2, h w w' v k h3⟩
/-- Its values are structs of m cells. -/
def Agg (m : Nat) (d : D) : Prop := ∀ B w x, d.OfB B w x → ∃ cs : List Value, x = aggV cs ∧ cs.length = m ∧ cs.all (·.oneCell') = true
theorem Agg.tl {f : D} {pre : List Value} {m : Nat} (h1 : pre.all (·.oneCell') = true) (hm : pre.length + 1 = m) : Agg m (tlD pre f) := fun B w x ⟨v, hv, hx, _⟩ => ⟨_, hx, by simpa using hm, by rw [List.all_append, h1]; simp [hv]⟩
theorem Agg.old {d : D} {m B' : Nat} (h : Agg m d) : Agg m (Go.Proofs.Ytdhbhcbkhkopbaa.old B' d) := fun B w x hx => h _ _ _ hx.2
def contD (T : DTy) (X : Nat → Prop) (c : Con) : D := tlD [.bool c.isSome] (contyD T X c)
def diskD (T : DTy) (X : Nat → Prop) (S : Dk) : D := tlD [nI S.length, nI (totC S)] (partsD' T X S)
/-- Some disk of n sectors. -/
def dszD (n : Nat) : D := .p (fun _ _ x => ∃ c p : Value, c.oneCell' = true ∧ p.oneCell' = true ∧ x = aggV [nI n, c, p]) (fun _ _ _ _ _ h => h) (fun _ _ _ _ _ h => h)
theorem Agg.dsz {n : Nat} : Agg 3 (dszD n) := fun B w x ⟨c, p, h1, h2, h3⟩ => ⟨_, h3, rfl, by rw [List.all_cons, List.all_cons, List.all_cons, h1, h2]; rfl⟩
theorem Agg.disk {T : DTy} {X : Nat → Prop} {S : Dk} : Agg 3 (diskD T X S) := Agg.tl rfl rfl
theorem Agg.cont {T : DTy} {X : Nat → Prop} {c : Con} : Agg 2 (contD T X c) := Agg.tl rfl rfl
theorem Surv.dsz {B e g n : Nat} : Surv B e g (dszD n) := fun _ _ _ _ h => h
theorem disk_sz {T : DTy} {X : Nat → Prop} {S : Dk} : Le (diskD T X S) (dszD S.length) := fun B w x ⟨v, h1, h2, _⟩ => ⟨_, v, rfl, h1, h2⟩
theorem zero_sz : Le (.v (aggV [nI 0, nI 0, .slice none 0 0])) (dszD 0) := fun _ _ x h => ⟨_, _, rfl, rfl, h⟩
abbrev X0 : Nat → Prop := fun _ => False
theorem zero_disk {T : DTy} : Le (.v (aggV [nI 0, nI 0, .slice none 0 0])) (diskD T X0 []) := fun _ _ x h => ⟨_, rfl, h, fun _ h => h.elim, .inl ⟨rfl, rfl⟩⟩
theorem zero_cont {T : DTy} {X : Nat → Prop} : Le (.v (aggV [.bool false, .slice none 0 0])) (contD T X none) := fun _ _ x h => ⟨_, rfl, h, rfl⟩
theorem Surv.disk {B e g : Nat} {T : DTy} {X : Nat → Prop} {S : Dk} (hq : (e ≠ T.r ∧ e ≠ T.p ∧ e ≠ T.v ∧ e ≠ T.b) ∨ X g) : Surv B e g (diskD T X S) := Surv.tl (Surv.parts hq)
section
variable {P : Program} {w₀ : World} {n : Nat} {c : Code} {E : Env} {Q : Exit → Act → World → Prop}
theorem A.nameTl {t k B' : Nat} {f : D} {pre : List Value} (ht : E.look t = some (old B' (tlD pre f))) (h : ∀ v : Value, v.oneCell' = true → A κ P w₀ n c ((t, .v (aggV (pre ++ [v]))) :: (k, old B' (valM v f)) :: E) Q) : A κ P w₀ n c E Q := fun a w g hs => by
  obtain ⟨hB, v, h1, h2, h3⟩ := hs.of t _ ht
  exact h v h1 a w g ((hs.push (t := k) (d := old B' (valM v f)) ⟨hB, h3⟩).push (d := .v _) h2)
/-- A value of which a fact is known gets a name. -/
theorem A.nameP {t k : Nat} {d : D} (ht : E.look t = some d) (h1 : ∀ w x, d.Of w x → x.oneCell' = true) (h : ∀ v : Value, v.oneCell' = true → A κ P w₀ n c ((t, .v v) :: (k, valM v d) :: E) Q) : A κ P w₀ n c E Q := fun a w g hs => by
  have hd := hs.of t _ ht
  exact h _ (h1 _ _ hd) a w g ((hs.push (t := k) (d := valM (a.tmps.getD t undef) d) hd).push (d := .v _) rfl)
/-- What an operation of a memory fact says plainly. -/
theorem A.know {k : Nat} {d : D} {p : Prop} (hk : E.look k = some d) (hp : ∀ B w x, d.OfB B w x → p) (h : p → A κ P w₀ n c E Q) : A κ P w₀ n c E Q := fun a w g hs => h (hp _ _ _ (hs.of k _ hk)) a w g hs
/-- A disk that came in, opened at one of its sectors. -/
theorem A.openDk {t k k1 k2 k3 i : Nat} {T : DTy} {X : Nat → Prop} {S : Dk} (ht : E.look t = some (old w₀.heap.size (diskD T X S))) (hi : i < S.length)
    (h : ∀ b ps bk cs v, b < w₀.heap.size → bk < w₀.heap.size → ps.length = (S.length + 63) / 64 → ps[i / 64]? = some (.pointer (some ⟨bk, 0, none⟩)) → cs.length = 64 → cs[i % 64]? = some v → v.oneCell' = true → ps.all (·.oneCell') = true → cs.all (·.oneCell') = true →
      A κ P w₀ n c ((t, .v (aggV [nI S.length, nI (totC S), .slice (some ⟨b, 0, none⟩) ps.length ps.length])) :: (k, old w₀.heap.size (valM (.slice (some ⟨b, 0, none⟩) ps.length ps.length) (partsD' T X S))) :: (k1, blk b T.r ps) :: (k2, blk bk T.p cs) :: (k3, old w₀.heap.size (valM v (versD T X (hisC S i)))) :: E) Q) : A κ P w₀ n c E Q := fun a w g hs => by
  obtain ⟨hB, p, h1, h2, h3, h4⟩ := hs.of t _ ht
  have h4' := h4
  rcases h4' with ⟨rfl, _⟩ | ⟨b, ps, rfl, h5, h6, h7⟩
  · cases hi
  have hk : i / 64 < ps.length := by omega
  obtain ⟨bk, cs, k1', k2', k3', k4'⟩ := h7 (i / 64) _ (List.getElem?_eq_getElem hk)
  have hj : i % 64 < cs.length := by omega
  have hv : VersAt T X w₀.heap.size w cs[i % 64] (hisC S (64 * (i / 64) + i % 64)) := k4' (i % 64) _ (List.getElem?_eq_getElem hj)
  rw [show 64 * (i / 64) + i % 64 = i from by omega] at hv
  refine h b ps bk cs cs[i % 64] h6.2.1 k3'.2.1 h5 (by rw [List.getElem?_eq_getElem hk, k1']) k2' (List.getElem?_eq_getElem hj) hv.one (List.all_eq_true.2 fun u hu => by
    obtain ⟨k, hk, rfl⟩ := List.getElem_of_mem hu
    obtain ⟨_, _, h9, _⟩ := h7 k _ (List.getElem?_eq_getElem hk)
    rw [h9]; rfl) (List.all_eq_true.2 fun u hu => by
    obtain ⟨k, hk, rfl⟩ := List.getElem_of_mem hu
    exact (k4' k _ (List.getElem?_eq_getElem hk)).one) a w g ?_
  exact ((((hs.push (t := k3) (d := old w₀.heap.size (valM _ (versD T X (hisC S i)))) ⟨hB, hv⟩).push (t := k2) (d := blk bk T.p cs) ⟨Nat.lt_of_lt_of_le k3'.2.1 hB, k3'.2.2⟩).push (t := k1) (d := blk b T.r ps) ⟨Nat.lt_of_lt_of_le h6.2.1 hB, h6.2.2⟩).push (t := k) (d := old w₀.heap.size (valM _ (partsD' T X S))) ⟨hB, h3, h4⟩).push (d := .v _) h2
end
section
variable {P : Program} {B : Nat} {E : Env} {o : Oper}
theorem OpOk.tlO {v : Value} {f : D} {k B' : Nat} (pre : List Value) {cs : List Value} (h : OpOk P B o E (.v (aggV cs))) (hcs : cs = pre ++ [v]) (hv1 : v.oneCell' = true) (hk : vbase ≤ k) (hl : E.look k = some (old B' (valM v f))) : OpOk P B o E (old B' (tlD pre f)) := fun ρ w hB hv hρ => by
  refine (h ρ w hB hv hρ).mono fun x w' hx => ⟨hx.1, ?_⟩
  have h2 : (old B' (valM v f)).Of w' undef := D.Of.grow (hv k _ hk hl) hx.1
  rw [show x = _ from hx.2, hcs]
  exact ⟨h2.1, v, hv1, rfl, h2.2⟩
end
/-! ### Addresses of structs of which a fact is known -/
def ptrK (m : Nat) (d : D) : D :=
  .p (fun B w x => ∃ (ad : Addr) (cs : List Value), x = .pointer (some ad) ∧ ad.block < B ∧ cs.length = m ∧ (∀ (j : Nat) (u : Value), cs[j]? = some u → w.cell? (ad.add j) = some u) ∧ d.OfB B w (aggV cs))
    (fun _ _ _ _ g ⟨ad, cs, h1, h2, h3, h4, h5⟩ => ⟨ad, cs, h1, h2, h3, fun j u hu => (g.cell (by rw [block_of_add]; exact h2)).trans (h4 j u hu), h5.keep g⟩) (fun _ _ _ _ g ⟨ad, cs, h1, h2, h3, h4, h5⟩ => ⟨ad, cs, h1, by omega, h3, h4, h5.up g⟩)
/-- A slice of structs, each as a fact says. -/
def lstK (m : Nat) (ds : List D) : D :=
  .p (fun B w x => ∃ (A : Option Addr) (q : Nat), x = .slice A ds.length q ∧ ∀ (i : Nat) (d : D), ds[i]? = some d → ∃ (ad : Addr) (cs : List Value), A = some ad ∧ ad.block < B ∧ cs.length = m ∧ (∀ (j : Nat) (u : Value), cs[j]? = some u → w.cell? (ad.add (i * m + j)) = some u) ∧ d.OfB B w (aggV cs))
    (fun _ _ _ _ g ⟨A, q, h1, h2⟩ => ⟨A, q, h1, fun i d hd => by
      obtain ⟨ad, cs, k1, k2, k3, k4, k5⟩ := h2 i d hd
      exact ⟨ad, cs, k1, k2, k3, fun j u hu => (g.cell (by rw [block_of_add]; exact k2)).trans (k4 j u hu), k5.keep g⟩⟩)
    (fun _ _ _ _ g ⟨A, q, h1, h2⟩ => ⟨A, q, h1, fun i d hd => by
      obtain ⟨ad, cs, k1, k2, k3, k4, k5⟩ := h2 i d hd
      exact ⟨ad, cs, k1, by omega, k3, k4, k5.up g⟩⟩)
section
variable {P : Program} {B : Nat} {E : Env} {dst : Option Tmp} {ty : TypeId} {pos : String} {after : Array Edge} {guard : Option (Nat × Bool)}
theorem run_load_agg {T : TypeId} {td : TypeDesc} {w : World} {ad : Addr} {cs : List Value} (ht : P.underlying T = some td) (hp : (match td with | .struct _ | .array _ _ => true | _ => false) = true) (hsz : SizeIs P T cs.length) (h3 : ∀ (j : Nat) (u : Value), cs[j]? = some u → w.cell? (ad.add j) = some u) :
    (Instr.loadAt T (.pointer (some ad))).run P w = .ok (aggV cs) w := by
  have hagg : (isAgg T).run P w = .ok true w := by
    unfold isAgg
    simp only [Sem.run_bind, run_underlying ht, Result.andThen_ok]
    cases td <;> simp_all
  have hc := run_loadCells_list (P := P) w ad cs h3
  obtain ⟨info, hinfo, hs⟩ := hsz.get
  simp [Instr.loadAt, Instr.sureAddr, loadVar, hagg, sizeOf, typeInfo, hinfo, hs, hc, aggV]
theorem ok_loadK {T : TypeId} {td : TypeDesc} {x : Operand} {m : Nat} {f d : D} (ht : P.underlying T = some td) (hp : (match td with | .struct _ | .array _ _ => true | _ => false) = true) (hsz : SizeIs P T m) (hx : E.at x = some f) (hf : Le f (ptrK m d)) :
    OpOk P B ⟨dst, .load T x, ty, pos, after, guard⟩ E d := fun ρ w _ _ hρ => by
  obtain ⟨ad, cs, h1, h2, h3, h4, h5⟩ := hf.of (hρ x (by simp [Op.operands]) _ hx)
  exact out_val (x := aggV cs) (w' := w) (by simp [execOp, h1, run_load_agg ht hp (hsz.of h3) h4]) ⟨Grow.refl w, h5⟩
theorem ok_lenK {t e : TypeId} {x : Operand} {f : D} {m : Nat} {ds : List D} (ht : P.underlying t = some (.slice e)) (hx : E.at x = some f) (hf : Le f (lstK m ds)) :
    OpOk P B ⟨dst, .call { callee := .builtin .len, args := #[x], argTypes := #[t] }, ty, pos, after, guard⟩ E (.v (.int .i64 (ds.length : Int))) := fun ρ w _ _ hρ => by
  obtain ⟨A, q, h1, _⟩ := hf.of (hρ x (by simp [Op.operands, Call.operands]) _ hx)
  exact out_val (w' := w) (by simp [execOp, resolve, invoke, builtin, Builtin.len_, run_underlying ht, h1, goInt]) ⟨Grow.refl w, rfl⟩
theorem ok_indexK {t e : TypeId} {m : Nat} {x i : Operand} {f d : D} {ds : List D} {k : IntKind} (j : Nat) (ht : P.underlying t = some (.slice e)) (hs : SizeIs P e m) (hx : E.at x = some f) (hf : Le f (lstK m ds)) (hi : E.at i = some (.v (.int k (j : Int)))) (hd : ds[j]? = some d) :
    OpOk P B ⟨dst, .indexAddr t x i, ty, pos, after, guard⟩ E (ptrK m d) := fun ρ w _ _ hρ => by
  obtain ⟨A, q, h1, h2⟩ := hf.of (hρ x (by simp [Op.operands]) _ hx)
  have hi' : ρ i = .int k j := hρ i (by simp [Op.operands]) _ hi
  obtain ⟨ad, cs, rfl, k2, k3, k4, k5⟩ := h2 j d hd
  obtain ⟨info, hinfo, hsize⟩ := hs.get
  have hlt : j < ds.length := (List.getElem?_eq_some_iff.1 hd).1
  refine out_val (x := .pointer (some (ad.add (j * m)))) (w' := w) ?_ ⟨Grow.refl w, _, cs, rfl, by rw [block_of_add]; exact k2, k3, fun l u hu => by rw [add_of_add]; exact k4 l u hu, k5⟩
  simp [execOp, h1, hi', Instr.indexAt, asIntOf, run_underlying ht, sizeOf, typeInfo, hinfo, hsize, hlt]
/-! ### Versions behind pointers -/
theorem ok_eqNilV {t t' u : TypeId} {x : Operand} {T : DTy} {X : Nat → Prop} {h : List Con} {f : D} (ht : P.underlying t = some (.pointer u)) (hm : P.eqGuardType P.depth t = false) (hx : E.at x = some f) (hf : Le f (versD T X h)) :
    OpOk P B ⟨dst, .binOp .eql t x (.const (.pointer none)) t', ty, pos, after, guard⟩ E (.v (.bool h.isEmpty)) := fun ρ w _ hv hρ => by
  have h1 := hf.of (hρ x (by simp [Op.operands]) _ hx)
  have h0 : ρ (.const (.pointer none)) = .pointer none := hρ (.const (.pointer none)) (by simp [Op.operands]) _ rfl
  have h2 : (Op.equalIn 10000 t (ρ x) (.pointer none)).run P w = .ok h.isEmpty w := by
    rw [show 10000 = 9999 + 1 from rfl, Op.equalIn]
    cases h with
    | nil => rw [show ρ x = .pointer none from h1]; simp [run_underlying ht]
    | cons c h => obtain ⟨b, _, _, hp, _⟩ := h1; rw [hp]; simp [run_underlying ht]
  have h3 : (eqGuard .eql t x (.const (.pointer none)) (ρ x) (.pointer none)).run P w = .ok () w := by
    cases h with
    | nil => rw [show ρ x = .pointer none from h1]; simp [eqGuard]
    | cons c h => obtain ⟨b, _, _, hp, _⟩ := h1; rw [hp]; simp [eqGuard]
  have h4 : (binOp .eql t (ρ x) (.pointer none)).run P w = .ok (.bool h.isEmpty) w := by
    cases h with
    | nil => rw [show ρ x = .pointer none from h1] at h2 ⊢; simp only [binOp, Op.equal, Op.maxDepth, Sem.run_bind, h2, Result.andThen_ok, Sem.run_pure]
    | cons c h => obtain ⟨b, _, _, hp, _⟩ := h1; rw [hp] at h2 ⊢; simp only [binOp, Op.equal, Op.maxDepth, Sem.run_bind, h2, Result.andThen_ok, Sem.run_pure]
  exact out_val (w' := w) (by simp [execOp, h0, h3, h4]) ⟨Grow.refl w, rfl⟩
theorem ok_nilV {x : Operand} {T : DTy} {X : Nat → Prop} {c : Con} {h : List Con} {f : D} (hx : E.at x = some f) (hf : Le f (versD T X (c :: h))) : OpOk P B ⟨dst, .nilCheck x, ty, pos, after, guard⟩ E (versD T X (c :: h)) := fun ρ w _ _ hρ => by
  have h1 := hf.of (hρ x (by simp [Op.operands]) _ hx)
  obtain ⟨b, _, _, hp, _⟩ := id h1
  exact out_val (x := ρ x) (w' := w) (by rw [hp]; simp [execOp, hp]) ⟨Grow.refl w, h1⟩
theorem run_field {T : TypeId} {i off m : Nat} {ad : Addr} {w : World} (hf : FieldIs P T i off m) (hm : 0 < m) : (Instr.fieldAt T (.pointer (some ad)) i).run P w = .ok (.pointer (some (ad.add off))) w := by
  unfold FieldIs at hf
  cases hu : P.underlying T with
  | none => rw [hu] at hf; cases hf
  | some d =>
    rw [hu] at hf
    cases d with
    | struct fs =>
      simp only [Option.bind_some] at hf
      cases hfi : fs[i]? with
      | none => rw [hfi] at hf; cases hf
      | some f =>
        rw [hfi] at hf
        simp only [Option.bind_some] at hf
        cases hi : P.info? f.type with
        | none => rw [hi] at hf; cases hf
        | some inf =>
          rw [hi] at hf
          simp only [Option.map_some, Option.some.injEq, Prod.mk.injEq] at hf
          obtain ⟨h2, h3⟩ := hf
          have : ¬ inf.size = 0 := by omega
          simp [Instr.fieldAt, run_underlying hu, hfi, Instr.sureAddr, fieldPlace, sizeOf, typeInfo, hi, this, h2]
    | _ => simp at hf
theorem cell_at {w : World} {b j : Nat} {cs : List Value} {e : TypeId} {u : Value} (hh : w.heap[b]? = some (.cells cs.toArray e (0, 0))) (hu : cs[j]? = some u) : w.cell? ⟨b, j, none⟩ = some u := by simp [World.cell?, hh, hu]
theorem ok_versBefore {U : TypeId} {x : Operand} {T : DTy} {X : Nat → Prop} {c : Con} {h : List Con} {f : D} (hF : FieldIs P U 2 3 1) (hx : E.at x = some f) (hf : Le f (versD T X (c :: h))) : OpOk P B ⟨dst, .fieldAddr U x 2, ty, pos, after, guard⟩ E (elem (versD T X h)) := fun ρ w _ _ hρ => by
  obtain ⟨b, y, z, hp, h2, _, h4⟩ := hf.of (hρ x (by simp [Op.operands]) _ hx)
  exact out_val (x := .pointer (some ((⟨b, 0, none⟩ : Addr).add 3))) (w' := w) (by simp [execOp, hp, run_field hF (by decide)]) ⟨Grow.refl w, _, z, rfl, by rw [block_of_add]; exact h2.2.1, by rw [add_lit0]; exact cell_at h2.2.2 rfl, h4⟩
theorem ok_versCount {U : TypeId} {x : Operand} {T : DTy} {X : Nat → Prop} {c : Con} {h : List Con} {f : D} (hF : FieldIs P U 1 2 1) (hx : E.at x = some f) (hf : Le f (versD T X (c :: h))) : OpOk P B ⟨dst, .fieldAddr U x 1, ty, pos, after, guard⟩ E (elem (.v (nI (h.length + 1)))) := fun ρ w _ _ hρ => by
  obtain ⟨b, y, z, hp, h2, _, h4⟩ := hf.of (hρ x (by simp [Op.operands]) _ hx)
  exact out_val (x := .pointer (some ((⟨b, 0, none⟩ : Addr).add 2))) (w' := w) (by simp [execOp, hp, run_field hF (by decide)]) ⟨Grow.refl w, _, _, rfl, by rw [block_of_add]; exact h2.2.1, by rw [add_lit0]; exact cell_at h2.2.2 rfl, rfl⟩
theorem ok_versContent {U : TypeId} {x : Operand} {T : DTy} {X : Nat → Prop} {c : Con} {h : List Con} {f : D} (hF : FieldIs P U 0 0 2) (hx : E.at x = some f) (hf : Le f (versD T X (c :: h))) : OpOk P B ⟨dst, .fieldAddr U x 0, ty, pos, after, guard⟩ E (ptrK 2 (contD T X c)) := fun ρ w _ _ hρ => by
  obtain ⟨b, y, z, hp, h2, h3, h4⟩ := hf.of (hρ x (by simp [Op.operands]) _ hx)
  refine out_val (x := .pointer (some ((⟨b, 0, none⟩ : Addr).add 0))) (w' := w) (by simp [execOp, hp, run_field hF (by decide)]) ⟨Grow.refl w, _, [.bool c.isSome, y], rfl, h2.2.1, rfl, fun j u hu => ?_, y, h3.one, rfl, h3⟩
  rw [add_of_add, add_lit0]
  match j, hu with
  | 0, hu => injection hu with hu; subst hu; exact cell_at h2.2.2 rfl
  | 1, hu => injection hu with hu; subst hu; exact cell_at h2.2.2 rfl
  | j + 2, hu => simp at hu
end
/-! ### Variables that hold a struct of which a fact is known -/
def varK (b : Nat) (T : TypeId) (m : Nat) (d : D) : D :=
  .p (fun B w _ => b < B ∧ ∃ cs : List Value, cs.length = m ∧ cs.all (·.oneCell') = true ∧ w.heap[b]? = some (.cells cs.toArray T (0, 0)) ∧ d.OfB B w (aggV cs))
    (fun _ _ _ _ g ⟨h1, cs, h2, h3, h4, h5⟩ => ⟨h1, cs, h2, h3, (g.block b h1).trans h4, h5.keep g⟩) (fun _ _ _ _ g ⟨h1, cs, h2, h3, h4, h5⟩ => ⟨by omega, cs, h2, h3, h4, h5.up g⟩)
theorem Surv.varK {B e g b m : Nat} {T : TypeId} {d : D} (h : b ≠ g) (hd : Surv B e g d) : Surv B e g (Go.Proofs.Ytdhbhcbkhkopbaa.varK b T m d) := fun w w' _ k ⟨h1, cs, h2, h3, h4, h5⟩ => ⟨Nat.lt_of_lt_of_le h1 k.size, cs, h2, h3, (k.other b h1 h).trans h4, hd _ _ _ k h5⟩
theorem Surv.varKT {B e g b m : Nat} {T : TypeId} {d : D} (h : T ≠ e) (hd : Surv B e g d) : Surv B e g (Go.Proofs.Ytdhbhcbkhkopbaa.varK b T m d) := fun w w' x k hx => by
  obtain ⟨h1, cs, h2, h3, h4, h5⟩ := id hx
  exact Surv.varK (fun hb => h (by subst hb; exact k.row _ _ _ h4)) hd w w' x k hx
def NewK (B : Nat) (E : Env) (b : Nat) : Prop := B ≤ b ∧ (∀ s b' e xs, E.look s = some (blk b' e xs) → b' < b) ∧ ∀ s b' e m d, E.look s = some (varK b' e m d) → b' < b
section
variable {P : Program} {n B : Nat} {ops : Array Oper} {E : Env} {ty : TypeId} {pos : String} {after : Array Edge}
theorem eff_allocV {T : TypeId} {zs : List Value} {d k : Nat} (hz : ZeroIs P T zs) (hdn : d < n) :
    EffG P n B ops ⟨some d, .alloc T, ty, pos, after, none⟩ E (NewK B E) (fun b => (d, .v (.pointer (some ⟨b, 0, none⟩))) :: (k, blk b T zs) :: E) := by
  intro κ a w K Q h hK
  obtain ⟨i, z, hi, hz, hc⟩ := hz.get
  have hrun : (execOp a.eval ⟨some d, .alloc T, ty, pos, after, none⟩).run P w = .ok (.value (.pointer (some ⟨w.heap.size, 0, none⟩))) (w.alloc (.cells zs.toArray T)) := by
    simp [execOp, Instr.alloc, zeroValue, typeInfo, hi, hz, newVar, newRow, hc]
  rw [if_pos (by simp [Region.wanted])]
  refine opR (not_defer hrun) ?_
  unfold Oper.wp
  rw [hrun, Oper.upon_value]
  refine hK w.heap.size _ _ ⟨h.base, fun s b' e ys hs => (h.of s _ hs).1, fun s b' e m d hs => (h.of s _ hs).1⟩ ((Below.refl B w).alloc h.base _) (St.put ?_ hdn rfl)
  exact (h.grow (Grow.alloc w (.cells zs.toArray T))).push (t := k) (d := blk w.heap.size T zs) ⟨by simp, heap_alloc_new w _⟩
/-- A store of such a struct over a variable of which only its block is known to have m cells of the type. -/
theorem store_varK {T : TypeId} {p x : Operand} {b s m : Nat} {e : TypeId} {d dv : D} {E' : Env} (hsz : SizeIs P T m) (hp : E.at p = some (.v (.pointer (some ⟨b, 0, none⟩)))) (hx : E.at x = some dv) (hle : Le dv d) (hag : Agg m d) (hb : B ≤ b)
    (hblk : ∀ (κ : Cx) a w, St κ n B E a w → b < w.heap.size ∧ ∃ zs : List Value, zs.length = m ∧ w.heap[b]? = some (.cells zs.toArray e (0, 0))) (hs : Surv B e b d) (hl : LeftS B e b E' E) : Eff P n B ops ⟨none, .store T p x, ty, pos, after, none⟩ E ((s, varK b e m d) :: E') := by
  intro κ a w K Q h hK
  have hp' : a.eval p = _ := h.at_ p _ hp
  have hd := hle.of (h.at_ x _ hx)
  obtain ⟨cs, hx', hm, h1⟩ := hag _ _ _ hd
  obtain ⟨hlt, zs, hz, hh⟩ := hblk κ a w h
  have hrun : (execOp a.eval ⟨none, .store T p x, ty, pos, after, none⟩).run P w = .ok .skip (w.setRow b cs.toArray) := by
    have := run_storeVar_row (P := P) w b e T zs.toArray cs.toArray hh (by simpa [SizeIs, hm] using hsz) (by simpa [hm] using hz) (by simpa using h1)
    simp [execOp, hp', hx', Instr.storeAt, Instr.sureAddr, aggV, this]
  rw [if_pos (by simp [Region.wanted])]
  refine opR (by nofun) ?_
  unfold Oper.wp
  rw [hrun, Oper.upon_skip]
  have hwr := Wrote.setRow hb hh cs.toArray
  rw [hx'] at hd
  exact hK _ _ (hwr.below h.base) ((hl.st h hwr).push (d := varK b e m d) ⟨by simpa using hlt, cs, hm, h1, setRow_heap w b _ _ e _ hh, hs _ _ _ hwr hd⟩)
theorem eff_storeK {T : TypeId} {p x : Operand} {b s m : Nat} {e : TypeId} {zs : List Value} {d dv : D} {E' : Env} (hsz : SizeIs P T m) (hp : E.at p = some (.v (.pointer (some ⟨b, 0, none⟩)))) (hx : E.at x = some dv) (hle : Le dv d) (hag : Agg m d) (hb : B ≤ b)
    (hblk : E.look s = some (blk b e zs)) (hz : zs.length = m) (hs : Surv B e b d) (hl : LeftS B e b E' E) : Eff P n B ops ⟨none, .store T p x, ty, pos, after, none⟩ E ((s, varK b e m d) :: E') :=
  store_varK hsz hp hx hle hag hb (fun κ a w h => ⟨(h.of s _ hblk).1, zs, hz, (h.of s _ hblk).2⟩) hs hl
theorem eff_storeKK {T : TypeId} {p x : Operand} {b s m : Nat} {e : TypeId} {d₀ d dv : D} {E' : Env} (hsz : SizeIs P T m) (hp : E.at p = some (.v (.pointer (some ⟨b, 0, none⟩)))) (hx : E.at x = some dv) (hle : Le dv d) (hag : Agg m d) (hb : B ≤ b)
    (hblk : E.look s = some (varK b e m d₀)) (hs : Surv B e b d) (hl : LeftS B e b E' E) : Eff P n B ops ⟨none, .store T p x, ty, pos, after, none⟩ E ((s, varK b e m d) :: E') :=
  store_varK hsz hp hx hle hag hb (fun κ a w h => by obtain ⟨h1, zs, h2, _, h3, _⟩ := h.of s _ hblk; exact ⟨h1, zs, h2, h3⟩) hs hl
end
section
variable {P : Program} {B : Nat} {E : Env} {dst : Option Tmp} {ty : TypeId} {pos : String} {after : Array Edge} {guard : Option (Nat × Bool)}
theorem ok_loadVK {T : TypeId} {td : TypeDesc} {x : Operand} {b s m : Nat} {e : TypeId} {d : D} (hsl : vbase ≤ s) (ht : P.underlying T = some td) (hp : (match td with | .struct _ | .array _ _ => true | _ => false) = true) (hsz : SizeIs P T m)
    (hx : E.at x = some (.v (.pointer (some ⟨b, 0, none⟩)))) (hblk : E.look s = some (varK b e m d)) : OpOk P B ⟨dst, .load T x, ty, pos, after, guard⟩ E d := fun ρ w _ hv hρ => by
  have h1 : ρ x = _ := hρ x (by simp [Op.operands]) _ hx
  obtain ⟨hlt, cs, h2, h3, hh, h5⟩ := hv s _ hsl hblk
  exact out_val (x := aggV cs) (w' := w) (by simp [execOp, h1, Instr.loadAt, Instr.sureAddr, load_cell (xs := cs) ht hp (hsz.of h2) hh]) ⟨Grow.refl w, h5⟩
end
/-! New variables of drawn regions. -/
section
variable {P : Program} {n B : Nat} {ops : Array Oper} {E : Env} {ty : TypeId} {pos : String} {after : Array Edge}
end
section
variable {P : Program} {w₀ : World} {n : Nat} {c : Code} {E : Env} {Q : Exit → Act → World → Prop}
/-- Back at the function's own base. -/
theorem A.lower {w₁ : World} (hg : Grow w₀ w₁) (h : A κ P w₀ n c E Q) : A κ P w₁ n c E Q := fun a w g hs => h a w (Grow.trans hg g) ⟨Nat.le_trans hg.size hs.base, hs.defers, hs.size, hs.of⟩
/-- Code that comes to an environment told beforehand, in whatever way; then the rest. -/
def ToEnv (κ : Cx) (w₀ : World) (n : Nat) (E₂ : Env) (a : Act) (w : World) : Prop := Below w₀.heap.size w₀ w ∧ St κ n w₀.heap.size E₂ a w
theorem End.toEnv {E₂ : Env} (h : SubL E₂ E) : End κ w₀ n E (ToEnv κ w₀ n E₂) := fun _ _ g hs => ⟨g, hs.subL h⟩
theorem A.seqTo {x y : Code} (E₂ : Env) (h1 : A κ P w₀ n x E (Exit.then (ToEnv κ w₀ n E₂) Q)) (h2 : A κ P w₀ n y E₂ Q) : A κ P w₀ n (x.seq y) E Q := A.seq fun a w g hs => wpIn_mono (h1 a w g hs) fun e a' w' hq => by
  cases e with
  | normal => exact h2 a' w' hq.1 hq.2
  | exit id => exact hq
  | goto l => exact hq
  | ret => exact hq
  | panic ch => exact hq
  | outgrown => exact hq
end
/-! ### Ends -/
section
variable {P : Program} {n : Nat} {w₀ : World} {E : Env}
theorem End.varK1 {fn : Func} {r s b m : Nat} {T e : TypeId} {td : TypeDesc} {d d' : D} (hr : fn.results = #[.cell r T]) (ht : P.underlying T = some td) (hp : (match td with | .struct _ | .array _ _ => true | _ => false) = true) (hsz : SizeIs P T m)
    (h1 : E.look r = some (.v (.pointer (some ⟨b, 0, none⟩)))) (h2 : E.look s = some (varK b e m d)) (hl : Le d d') : End Cx.top w₀ n E (BP P fn (PostOf w₀ d') .ret) := fun a w g hs => by
  have h3 : a.tmps[r]?.getD undef = .pointer (some ⟨b, 0, none⟩) := by rw [← Array.getD_eq_getD_getElem?]; exact hs.of r _ h1
  obtain ⟨hlt, cs, k2, k3, hh, k5⟩ := hs.of s _ h2
  exact BP.ret hs.defers ⟨aggV cs, by simp [results, hr, h3, asAddr, load_cell (xs := cs) ht hp (hsz.of k2) hh], _, rfl, g, hl.of (w := w) k5⟩
theorem End.varK2 {fn : Func} {r s b m r' : Nat} {T e : TypeId} {td : TypeDesc} {d d' f f' : D} (hr : fn.results = #[.cell r T, .tmp r']) (ht : P.underlying T = some td) (hp : (match td with | .struct _ | .array _ _ => true | _ => false) = true) (hsz : SizeIs P T m)
    (h1 : E.look r = some (.v (.pointer (some ⟨b, 0, none⟩)))) (h2 : E.look s = some (varK b e m d)) (hl : Le d d') (h4 : E.look r' = some f) (hl' : Le f f') : End Cx.top w₀ n E (BP P fn (PostOf w₀ (tup [d', f'])) .ret) := fun a w g hs => by
  have h3 : a.tmps[r]?.getD undef = .pointer (some ⟨b, 0, none⟩) := by rw [← Array.getD_eq_getD_getElem?]; exact hs.of r _ h1
  obtain ⟨hlt, cs, k2, k3, hh, k5⟩ := hs.of s _ h2
  refine BP.ret hs.defers ⟨.tuple #[aggV cs, a.tmps.getD r' undef], by simp [results, hr, h3, asAddr, load_cell (xs := cs) ht hp (hsz.of k2) hh], _, rfl, g, [aggV cs, a.tmps.getD r' undef], rfl, rfl, fun j d u hd hu => ?_⟩
  match j, hd, hu with
  | 0, hd, hu => simp only [List.getElem?_cons_zero, Option.some.injEq] at hd hu; subst hd; subst hu; exact hl.of (w := w) k5
  | 1, hd, hu => simp only [List.getElem?_cons_succ, List.getElem?_cons_zero, Option.some.injEq] at hd hu; subst hd; subst hu; exact hl'.of (hs.of r' f h4)
  | j + 2, hd, _ => simp at hd
end
theorem tup_v {x y : Value} {d e : D} (h1 : Le (.v x) d) (h2 : Le (.v y) e) : Le (.v (.tuple #[x, y])) (tup [d, e]) := fun B w u hu => by
  refine ⟨[x, y], hu, rfl, fun j d u hd hu => ?_⟩
  match j, hd, hu with
  | 0, hd, hu => simp at hd hu; subst hd; subst hu; exact h1 _ _ _ rfl
  | 1, hd, hu => simp at hd hu; subst hd; subst hu; exact h2 _ _ _ rfl
  | j + 2, hd, _ => simp at hd
theorem tup_mono {d d' e e' : D} (h1 : Le d d') (h2 : Le e e') : Le (tup [d, e]) (tup [d', e']) := fun B w u ⟨xs, k1, k2, k3⟩ => by
  refine ⟨xs, k1, k2, fun j d u hd hu => ?_⟩
  match j, hd with
  | 0, hd => simp at hd; subst hd; exact h1 _ _ _ (k3 0 _ u rfl hu)
  | 1, hd => simp at hd; subst hd; exact h2 _ _ _ (k3 1 _ u rfl hu)
  | j + 2, hd => simp at hd
theorem Surv.tup2 {B e g : Nat} {d₁ d₂ : D} (h₁ : Surv B e g d₁) (h₂ : Surv B e g d₂) : Surv B e g (tup [d₁, d₂]) := fun w w' x k ⟨xs, h1, h2, h3⟩ => by
  refine ⟨xs, h1, h2, fun j d u hd hu => ?_⟩
  match j, hd with
  | 0, hd => simp at hd; subst hd; exact h₁ w w' u k (h3 0 _ u rfl hu)
  | 1, hd => simp at hd; subst hd; exact h₂ w w' u k (h3 1 _ u rfl hu)
  | j + 2, hd => simp at hd
end Go.Proofs.Ytdhbhcbkhkopbaa
namespace Go.Proofs.Ytdhbhcbkhkopbaa
open Go Go.RowKit
set_option linter.unusedVariables false
set_option linter.unusedSimpArgs false
variable {κ : Cx}
section
variable {P : Program} {B : Nat} {E : Env} {dst : Option Tmp} {ty : TypeId} {pos : String} {after : Array Edge} {guard : Option (Nat × Bool)}
end
section
variable {P : Program} {n B : Nat} {ops : Array Oper} {E : Env} {ty : TypeId} {pos : String} {after : Array Edge}
end
section
variable {P : Program} {n : Nat} {w₀ : World} {E : Env}
end
end Go.Proofs.Ytdhbhcbkhkopbaa
namespace Go.Proofs.Ytdhbhcbkhkopbaa
open Go Go.RowKit
variable {κ : Cx}
section
variable {P : Program} {n : Nat} {w₀ : World} {ops : Array Oper} {E : Env} {ty : TypeId} {pos : String} {after : Array Edge}
def YieldsX (P : Program) (N : Nat) (l : Nat) (arg : Nat → D) (J : Nat → World → Prop) {X : Type} (XE : X → Env) : Prop :=
  ∀ (i : Nat) (W : World) (u : Value) (x : X), i < N → J i W → (arg i).Of W u → (∀ p ∈ XE x, p.2.Of W undef) → YieldAt (FR none) 0 P l #[u] W fun e W' => e = .returned (.bool true) ∧ J (i + 1) W' ∧ W.heap.size ≤ W'.heap.size ∧ ∀ p ∈ XE x, p.2.Of W' undef
structure SeqsX (P : Program) (w₀ : World) (N : Nat) (l : Nat) (arg : Nat → D) (V : Nat → Env) (J : Nat → World → Prop) {X : Type} (XE : X → Env) : Prop where
  grow : ∀ i a b, J i a → Grow a b → J i b
  holds : ∀ i W, J i W → Holds w₀ (V i) W
  yields : YieldsX P N l arg J XE
theorem SeqsX.sub {N l : Nat} {arg : Nat → D} {V V' : Nat → Env} {J : Nat → World → Prop} {X : Type} {XE : X → Env} (h : SeqsX P w₀ N l arg V J XE) (hs : ∀ i, ∀ p ∈ V' i, p ∈ V i) : SeqsX P w₀ N l arg V' J XE :=
  ⟨h.grow, fun i W hJ => ⟨(h.holds i W hJ).1, (h.holds i W hJ).2.1, fun p hp => (h.holds i W hJ).2.2 p (hs i p hp)⟩, h.yields⟩
end
end Go.Proofs.Ytdhbhcbkhkopbaa
namespace Go.Proofs.Ytdhbhcbkhkopbaa
open Go Go.RowKit
variable {κ : Cx}

/-! ### Counts -/
/-- What is under level k: the blocks, or the places of the level below. -/
def un (n : Nat) : Nat → Nat
  | 0 => n
  | k + 1 => (un n k + 3) / 4
/-- The level of the root. -/
def hg (n : Nat) : Nat := if n ≤ 4 then 0 else if n ≤ 16 then 1 else if n ≤ 64 then 2 else if n ≤ 256 then 3 else if n ≤ 1024 then 4 else 5
/-- How many places there are below a level. -/
def tot (n : Nat) : Nat → Nat
  | 0 => 0
  | l + 1 => tot n l + un n (l + 1)
/-- The first sector of a level's nodes. -/
def bs (n l : Nat) : Nat := 2 * n + 2 * tot n l
/-! ### A place -/
/-! ### In memory -/
/-! ### Operations -/
theorem FnM.key {P : Program} {f : FuncId} {k : Nat} {e d : D} {ds : List D} (k' : Nat) (h : FnM P f [(k, e)] ds d) : FnM P f [(k', e)] ds d :=
  ⟨h.body, fun vs w hM h1 h2 => h.calls vs w (fun p hp => by simp only [List.mem_cons, List.not_mem_nil, or_false] at hp; subst hp; exact hM (k', e) List.mem_cons_self) h1 h2⟩
/-- From a contract that speaks of a block by name, one that takes a new value over such a block. -/
theorem FnM.new {P : Program} {f : FuncId} {k : Nat} {T : TypeId} {d : D} {val : Nat → Value} {xs : List Value} {ds : List D} (h : ∀ b, FnM P f [(k, blk b T xs)] (.v (val b) :: ds) d) : Fn P f (newD 0 T val xs :: ds) d :=
  ⟨(h 0).body, fun vs w hl hv => by
    cases vs with
    | nil => simp at hl
    | cons v vs =>
      obtain ⟨b, h1, _, h3, h4⟩ := hv 0 _ v rfl rfl
      subst h1
      refine (h b).calls (val b :: vs) w (fun p hp => ?_) hl fun j e u he hu => ?_
      · simp only [List.mem_cons, List.not_mem_nil, or_false] at hp; subst hp; exact ⟨h3, h4⟩
      · cases j with
        | zero => simp only [List.getElem?_cons_zero, Option.some.injEq] at he hu; subst he; subst hu; rfl
        | succ j => exact hv (j + 1) e u (by simpa using he) hu⟩
section
variable {P : Program} {B : Nat} {E : Env} {dst : Option Tmp} {ty : TypeId} {pos : String} {after : Array Edge} {guard : Option (Nat × Bool)}
/-- A field of a struct's value. -/
theorem ok_fieldV {t : TypeId} {x : Operand} {i off : Nat} {xs : List Value} {u : Value} (hf : (P.underlying t).bind (fun d => match d with | .struct fs => (fs[i]?).bind fun f => (P.underlying f.type).map fun _ => (f.offset, isAggT P f.type) | _ => none) = some (off, false)) (hx : E.at x = some (.v (aggV xs))) (hu : xs[off]? = some u) :
    OpOk P B ⟨dst, .field t x i, ty, pos, after, guard⟩ E (.v u) := fun ρ w _ _ hρ => by
  have h1 : ρ x = .agg xs.toArray := hρ x (by simp [Op.operands]) _ hx
  cases hut : P.underlying t with
  | none => rw [hut] at hf; cases hf
  | some d =>
    rw [hut] at hf
    cases d with
    | struct fs =>
      simp only [Option.bind_some] at hf
      cases hfi : fs[i]? with
      | none => rw [hfi] at hf; cases hf
      | some f =>
        rw [hfi] at hf
        simp only [Option.bind_some] at hf
        cases huf : P.underlying f.type with
        | none => rw [huf] at hf; cases hf
        | some td =>
          rw [huf] at hf
          simp only [Option.map_some, Option.some.injEq, Prod.mk.injEq] at hf
          obtain ⟨h2, h3⟩ := hf
          have hp : (part f.type xs.toArray f.offset).run P w = .ok u w := by
            simp only [part, Sem.run_bind, run_isAgg huf, Result.andThen_ok, h3]
            rw [h2]
            simp [hu]
          exact out_val (w' := w) (by simp [execOp, h1, Instr.field, run_underlying hut, hfi, asAgg, hp]) ⟨Grow.refl w, rfl⟩
    | _ => simp at hf
end
theorem wrap_eq {a : Int} {m : Nat} (h : a = (m : Int)) (hm : m < 9223372036854775808) : Value.int .i64 (IntKind.i64.wrap a) = nI m := by rw [h, wrapN_i64 hm]
end Go.Proofs.Ytdhbhcbkhkopbaa
namespace Go.Proofs.Ytdhbhcbkhkopbaa
open Go Go.RowKit
set_option linter.unusedVariables false
set_option maxRecDepth 20000
set_option linter.unusedSimpArgs false
abbrev dT : DTy := ⟨70, 73, 88, 5⟩

theorem info5 : InfoIs Try.prog 5 (.int .u8 0) 1 := by unfold InfoIs; kernel_rfl
theorem info3 : InfoIs Try.prog 3 (.int .i64 0) 8 := by unfold InfoIs; kernel_rfl
theorem info37 : InfoIs Try.prog 37 (.slice none 0 0) 24 := by unfold InfoIs; kernel_rfl
theorem info70 : InfoIs Try.prog 70 (.pointer none) 8 := by unfold InfoIs; kernel_rfl
theorem info71 : InfoIs Try.prog 71 (.pointer none) 8 := by unfold InfoIs; kernel_rfl
theorem zero27 : ZeroIs Try.prog 27 ([.int .i64 0] ++ [.int .i64 0] ++ [.slice none 0 0]) := by unfold ZeroIs; kernel_rfl
theorem size27 : SizeIs Try.prog 27 3 := by unfold SizeIs; kernel_rfl
theorem field27_0 : FieldIs Try.prog 27 0 0 1 := by unfold FieldIs; kernel_rfl
theorem field27_1 : FieldIs Try.prog 27 1 1 1 := by unfold FieldIs; kernel_rfl
theorem field27_2 : FieldIs Try.prog 27 2 2 1 := by unfold FieldIs; kernel_rfl
theorem zero79 : ZeroIs Try.prog 79 ([.bool false] ++ [.slice none 0 0]) := by unfold ZeroIs; kernel_rfl
theorem size79 : SizeIs Try.prog 79 2 := by unfold SizeIs; kernel_rfl
theorem field79_0 : FieldIs Try.prog 79 0 0 1 := by unfold FieldIs; kernel_rfl
theorem field79_1 : FieldIs Try.prog 79 1 1 1 := by unfold FieldIs; kernel_rfl
theorem field88_0 : FieldIs Try.prog 88 0 0 2 := by unfold FieldIs; kernel_rfl
theorem field88_1 : FieldIs Try.prog 88 1 2 1 := by unfold FieldIs; kernel_rfl
theorem field88_2 : FieldIs Try.prog 88 2 3 1 := by unfold FieldIs; kernel_rfl
theorem zero73 : ZeroIs Try.prog 73 (List.replicate 64 (.pointer none)) := by unfold ZeroIs; kernel_rfl
theorem size73 : SizeIs Try.prog 73 64 := by unfold SizeIs; kernel_rfl

section
variable {P : Program} {w₀ : World} {n : Nat} {c : Code} {E : Env} {Q : Exit → Act → World → Prop} {κ : Cx}
theorem A.nameDsz {t B' m : Nat} (ht : E.look t = some (old B' (dszD m))) (h : ∀ c₁ p₁ : Value, c₁.oneCell' = true → p₁.oneCell' = true → A κ P w₀ n c ((t, .v (aggV [nI m, c₁, p₁])) :: E) Q) : A κ P w₀ n c E Q := fun a w g hs => by
 obtain ⟨hB, c₁, p₁, h1, h2, h3⟩ := hs.of t _ ht
 exact h c₁ p₁ h1 h2 a w g (hs.push (d := .v _) h3)
end

theorem dHas_fn (n : Nat) (i : Int) : Fn Try.prog 33 [dszD n, .v (.int .i64 (i))] (.v (.bool (decide (0 ≤ i ∧ i < (n : Int))))) := by
 refine Fn.of Try.func33 rfl (by kernel_rfl) Try.ntmps33 (by simp) (fun w => [(0, old w.heap.size (dszD n)), (1, .v (.int .i64 (i)))]) (fun w => (Start.old rfl (Start.v rfl Start.nil))) fun w₀ => ?_
 refine A.nameDsz (t := 0) rfl fun c₁ p₁ hc₁ hp₁ => ?_
 refine GS ?_
 refine TN 0 ?_
 refine RN ?_
 refine ⟨_, _, eff_box (n := 13) (d := 2) (k := 1000002) rfl (by decide), fun b2 hb2 => ?_⟩
 have hBb2 := hb2.1
 refine TL ?_
 refine RA rfl ?_
 refine RN ?_
 rcases Bool.eq_false_or_eq_true (decide (0 ≤ i)) with hsp | hsp
 ·refine GS ?_
  refine TL ?_
  refine RM rfl ?_
  refine RBS rfl rfl rfl (.bool true) (congrArg Value.bool hsp) ?_
  refine RM rfl ?_
  refine RQ (ok_move rfl) ?_
  refine RQ (ok_field field27_0 (by decide) rfl) ?_
  refine RQ (ok_loadV (s := 1000002) (by decide) Try.underlying3 rfl rfl rfl (rfl)) ?_
  refine RQ (ok_bin rfl rfl rfl) ?_; refine RZ (.bool (decide (i < (n : Int)))) (rfl) ?_
  refine RP rfl rfl ?_
  refine RA rfl ?_
  refine RN ?_
  refine A.ret ?_
  first | exact End.ret1 rfl rfl (Le.v (congrArg Value.bool (decide_eq_false (fun h => of_decide_eq_false hsp h.1)).symm)) | exact End.ret1 rfl rfl (Le.v (congrArg Value.bool (decide_eq_decide.2 ⟨fun h => ⟨of_decide_eq_true hsp, h⟩, fun h => h.2⟩)))
 ·refine GS ?_
  refine TL ?_
  refine RM rfl ?_
  refine RBS rfl rfl rfl (.bool false) (congrArg Value.bool hsp) ?_
  refine RM rfl ?_
  refine RK ?_
  refine RK ?_
  refine RK ?_
  refine RK ?_
  refine RP rfl rfl ?_
  refine RA rfl ?_
  refine RN ?_
  refine A.ret ?_
  first | exact End.ret1 rfl rfl (Le.v (congrArg Value.bool (decide_eq_false (fun h => of_decide_eq_false hsp h.1)).symm)) | exact End.ret1 rfl rfl (Le.v (congrArg Value.bool (decide_eq_decide.2 ⟨fun h => ⟨of_decide_eq_true hsp, h⟩, fun h => h.2⟩)))
theorem dSize_fn (n : Nat) : Fn Try.prog 21 [dszD n] (.v (nI (n))) := by
 refine Fn.of Try.func21 rfl (by kernel_rfl) Try.ntmps21 (by simp) (fun w => [(0, old w.heap.size (dszD n))]) (fun w => (Start.old rfl Start.nil)) fun w₀ => ?_
 refine A.nameDsz (t := 0) rfl fun c₁ p₁ hc₁ hp₁ => ?_
 refine GS ?_
 refine TN 0 ?_
 refine RN ?_
 refine ⟨_, _, eff_box (n := 5) (d := 1) (k := 1000001) rfl (by decide), fun b1 hb1 => ?_⟩
 have hBb1 := hb1.1
 refine TL ?_
 refine RA rfl ?_
 refine RN ?_
 refine GS ?_
 refine TL ?_
 refine RS (ok_field field27_0 (by decide) rfl) ?_
 refine RS (ok_loadV (s := 1000001) (by decide) Try.underlying3 rfl rfl rfl (rfl)) ?_
 refine RA rfl ?_
 refine RN ?_
 refine A.ret ?_
 exact End.ret1 rfl rfl (by first | exact Le.refl _ | exact Le.old _ _)
theorem dChanges_fn (X : Nat → Prop) (S : Dk)  : Fn Try.prog 30 [diskD dT X S] (.v (nI (totC S))) := by
 refine Fn.of Try.func30 rfl (by kernel_rfl) Try.ntmps30 (by simp) (fun w => [(0, old w.heap.size (diskD dT X S))]) (fun w => (Start.old rfl Start.nil)) fun w₀ => ?_
 refine A.nameTl (t := 0) (k := 1000200) rfl fun v hv1 => ?_
 refine GS ?_
 refine TN 0 ?_
 refine RN ?_
 refine ⟨_, _, eff_box (n := 5) (d := 1) (k := 1000001) rfl (by decide), fun b1 hb1 => ?_⟩
 have hBb1 := hb1.1
 refine TL ?_
 refine RA rfl ?_
 refine RN ?_
 refine GS ?_
 refine TL ?_
 refine RS (ok_field field27_1 (by decide) rfl) ?_
 refine RS (ok_loadV (s := 1000001) (by decide) Try.underlying3 rfl rfl rfl (rfl)) ?_
 refine RA rfl ?_
 refine RN ?_
 refine A.ret ?_
 exact End.ret1 rfl rfl (by first | exact Le.refl _ | exact Le.old _ _)
theorem dNewest_fn (X : Nat → Prop) (S : Dk) (i : Nat) (hi : i < S.length) (hn : S.length ≤ 10922)  : Fn Try.prog 34 [diskD dT X S, .v (nI (i))] (versD dT X (hisC S i)) := by
 refine Fn.of Try.func34 rfl (by kernel_rfl) Try.ntmps34 (by simp) (fun w => [(0, old w.heap.size (diskD dT X S)), (1, .v (nI (i)))]) (fun w => (Start.old rfl (Start.v rfl Start.nil))) fun w₀ => ?_
 refine A.openDk (t := 0) (k := 1000200) (k1 := 1000201) (k2 := 1000202) (k3 := 1000203) rfl hi fun b ps bk cs v hb hbk hps hpk hcs hcv hv1 hpo hco => ?_
 refine GS ?_
 refine TN 0 ?_
 refine RN ?_
 refine ⟨_, _, eff_box (n := 16) (d := 2) (k := 1000002) rfl (by decide), fun b2 hb2 => ?_⟩
 have hBb2 := hb2.1
 refine TL ?_
 refine RA rfl ?_
 refine RN ?_
 refine GS ?_
 refine TL ?_
 refine RS (ok_field field27_2 (by decide) rfl) ?_
 refine RS (ok_loadV (s := 1000002) (by decide) Try.underlying25 rfl rfl rfl (rfl)) ?_
 refine RM rfl ?_
 refine RS (ok_div rfl rfl (by decide)) ?_; refine RZ (nI ((i) / 64)) (by rw [tdiv_lit _ (by decide)]; exact wrap_eq rfl (by first | omega | (simp only [Int.toNat]; omega))) ?_
 refine RS (ok_indexV (i / 64) Try.underlying25 info70 rfl rfl rfl (by omega)) ?_
 refine RS (ok_loadV (s := 1000201) (by decide) Try.underlying70 rfl rfl rfl (by rw [Nat.zero_add]; exact hpk)) ?_
 refine RM rfl ?_
 refine RS (ok_rem rfl rfl (by decide)) ?_; refine RZ (nI ((i) % 64)) (by rw [tmod_lit _ (by decide)]; rfl) ?_
 refine RS (ok_nilCheck rfl) ?_
 refine RS (ok_index0 (i % 64) Try.underlying73 info71 rfl rfl (rfl) (Nat.mod_lt _ (by decide))) ?_
 refine RS (OpOk.valO (k := 1000203) (ok_loadV (s := 1000202) (by decide) Try.underlying71 rfl rfl rfl (hcv)) (by decide) rfl) ?_
 refine RA rfl ?_
 refine RN ?_
 refine A.ret ?_
 exact End.ret1 rfl rfl (Le.old _ _)
theorem vChanges_n (X : Nat → Prop) : Fn Try.prog 39 [versD dT X []] (.v (nI (0))) := by
 refine Fn.of Try.func39 rfl (by kernel_rfl) Try.ntmps39 (by simp) (fun w => [(0, old w.heap.size (versD dT X []))]) (fun w => (Start.old rfl Start.nil)) fun w₀ => ?_
 refine GS ?_
 refine TL ?_
 refine RA rfl ?_
 refine RN ?_
 refine A.seq ?_
 refine GS ?_
 refine TL ?_
 refine RM rfl ?_
 refine RS (ok_eqNilV Try.underlying71 (by kernel_rfl) rfl (Le.old _ _)) ?_; refine RZ (.bool true) (rfl) ?_
 refine RN ?_
 refine A.yes rfl ?_
 refine GS ?_
 refine TL ?_
 refine RA rfl ?_
 refine RN ?_
 refine A.ret ?_
 refine End.ret_then ?_
 exact End.ret1 rfl rfl (by first | exact Le.refl _ | exact Le.old _ _)
theorem vChanges_c (X : Nat → Prop) (c : Con) (h : List Con) : Fn Try.prog 39 [versD dT X (c :: h)] (.v (nI (h.length + 1))) := by
 refine Fn.of Try.func39 rfl (by kernel_rfl) Try.ntmps39 (by simp) (fun w => [(0, old w.heap.size (versD dT X (c :: h)))]) (fun w => (Start.old rfl Start.nil)) fun w₀ => ?_
 refine GS ?_
 refine TL ?_
 refine RA rfl ?_
 refine RN ?_
 refine A.seq ?_
 refine GS ?_
 refine TL ?_
 refine RM rfl ?_
 refine RS (ok_eqNilV Try.underlying71 (by kernel_rfl) rfl (Le.old _ _)) ?_; refine RZ (.bool false) (rfl) ?_
 refine RN ?_
 refine A.no rfl ?_
 refine A.skip ?_
 refine EN ?_
 refine GS ?_
 refine TL ?_
 refine RM rfl ?_
 refine RS (ok_nilV rfl (Le.old _ _)) ?_
 refine RS (ok_versCount field88_1 rfl (Le.refl _)) ?_
 refine RS (ok_load Try.underlying3 rfl rfl) ?_
 refine RA rfl ?_
 refine RN ?_
 refine A.ret ?_
 exact End.ret1 rfl rfl (by first | exact Le.refl _ | exact Le.old _ _)
theorem vChanges_fn (X : Nat → Prop) (h : List Con) : Fn Try.prog 39 [versD dT X h] (.v (nI (h.length))) := by
 cases h with
 | nil => exact vChanges_n X
 | cons c h => exact vChanges_c X c h
theorem vNow_n (X : Nat → Prop) : Fn Try.prog 35 [versD dT X []] (contD dT X none) := by
 refine Fn.of Try.func35 rfl (by kernel_rfl) Try.ntmps35 (by simp) (fun w => [(0, old w.heap.size (versD dT X []))]) (fun w => (Start.old rfl Start.nil)) fun w₀ => ?_
 refine GS ?_
 refine TN 0 ?_
 refine RN ?_
 refine ⟨_, _, eff_alloc (n := 10) (d := 2) (k := 1000002) zero79 (by decide), fun b2 hb2 => ?_⟩
 have hBb2 := hb2.1
 refine TL ?_
 refine RN ?_
 refine A.seq ?_
 refine GS ?_
 refine TL ?_
 refine RM rfl ?_
 refine RS (ok_eqNilV Try.underlying71 (by kernel_rfl) rfl (Le.old _ _)) ?_; refine RZ (.bool true) (rfl) ?_
 refine RN ?_
 refine A.yes rfl ?_
 refine GS ?_
 refine TF 1 ?_
 refine RS (ok_lit [] ([.bool false] ++ [.slice none 0 0]) (fun _ _ => rfl) (by kernel_rfl)) ?_
 refine RN ?_
 refine ⟨_, eff_storeA (n := 10) (s := 1000002) (size79.of (rfl)) rfl rfl (rfl) hBb2 rfl (rfl) (LV 2 rfl LN), ?_⟩
 refine TL ?_
 refine RN ?_
 refine A.ret ?_
 refine End.ret_then ?_
 exact End.cell1 (s := 1000002) rfl Try.underlying79 rfl (size79.of (rfl)) rfl rfl (zero_cont)
theorem vNow_c (X : Nat → Prop) (c : Con) (h : List Con) : Fn Try.prog 35 [versD dT X (c :: h)] (contD dT X c) := by
 refine Fn.of Try.func35 rfl (by kernel_rfl) Try.ntmps35 (by simp) (fun w => [(0, old w.heap.size (versD dT X (c :: h)))]) (fun w => (Start.old rfl Start.nil)) fun w₀ => ?_
 refine GS ?_
 refine TN 0 ?_
 refine RN ?_
 refine ⟨_, _, eff_alloc (n := 10) (d := 2) (k := 1000002) zero79 (by decide), fun b2 hb2 => ?_⟩
 have hBb2 := hb2.1
 refine TL ?_
 refine RN ?_
 refine A.seq ?_
 refine GS ?_
 refine TL ?_
 refine RM rfl ?_
 refine RS (ok_eqNilV Try.underlying71 (by kernel_rfl) rfl (Le.old _ _)) ?_; refine RZ (.bool false) (rfl) ?_
 refine RN ?_
 refine A.no rfl ?_
 refine A.skip ?_
 refine EN ?_
 refine GS ?_
 refine TF 4 ?_
 refine RM rfl ?_
 refine RS (ok_nilV rfl (Le.old _ _)) ?_
 refine RS (ok_versContent field88_0 rfl (Le.refl _)) ?_
 refine RS (ok_loadK Try.underlying79 rfl size79 rfl (Le.refl _)) ?_
 refine RN ?_
 refine ⟨_, eff_storeK (n := 10) (s := 1000002) size79 rfl rfl (Le.refl _) (Agg.cont) hBb2 rfl (rfl) (Surv.tl (Surv.conty (.inl (by decide)))) (LV 2 rfl LN), ?_⟩
 refine TL ?_
 refine RN ?_
 refine A.ret ?_
 exact End.varK1 (s := 1000002) rfl Try.underlying79 rfl size79 rfl rfl (by first | exact Le.refl _ | exact Le.old _ _)
theorem vNow_fn (X : Nat → Prop) (h : List Con) : Fn Try.prog 35 [versD dT X h] (contD dT X (lastC h)) := by
 cases h with
 | nil => exact vNow_n X
 | cons c h => exact vNow_c X c h
theorem vEarlier_fn (X : Nat → Prop) (h : List Con) (m : Nat) (hm : m ≤ h.length) (hb : h.length < 4611686018427387904) : Fn Try.prog 40 [versD dT X h, .v (nI (m))] (versD dT X (h.drop m)) := by
 refine Fn.of Try.func40 rfl (by kernel_rfl) Try.ntmps40 (by simp) (fun w => [(0, old w.heap.size (versD dT X h)), (1, .v (nI (m)))]) (fun w => (Start.old rfl (Start.v rfl Start.nil))) fun w₀ => ?_
 refine GS ?_
 refine TL ?_
 refine RA rfl ?_
 refine RN ?_
 refine A.seq ?_
 refine GS ?_
 refine TL ?_
 refine RM rfl ?_
 refine RM rfl ?_
 refine RN ?_
 refine A.block ?_
 refine A.subL (SubL.cons (t := 0) rfl (Le.old _ _) (SubL.cons (t := 5) rfl (Le.refl _) (SubL.cons (t := 6) rfl (Le.refl _) SubL.nil))) ?_
 refine A.loop (ι := Nat) (fun i => i ≤ m) (fun i => [(0, versD dT X (h.drop i)), (5, .v (nI (m))), (6, .v (nI (i)))]) (fun i => m - i) 0 ?_ ?_ ?_
 ·exact Nat.zero_le _
 ·exact (KC 0 rfl (KC 5 rfl (KE 6 rfl (by rfl) KN)))
 intro i hG
 refine GS ?_
 refine TL ?_
 refine RB rfl rfl rfl ?_
 refine RN ?_
 refine A.seq ?_
 refine A.cond rfl (fun hc7 => ?_) (fun hc7 => ?_)
 ·have hi : i < m := by simp at hc7; omega
  refine A.skip ?_
  refine EN ?_
  refine A.seq ?_
  refine A.block ?_
  refine GE ?_
  refine TL ?_
  refine RM rfl ?_
  refine RS (ok_nilV rfl (Le.eq (congrArg (versD dT X) (List.drop_eq_getElem_cons (by omega : i < h.length))))) ?_
  refine RS (ok_versBefore field88_2 rfl (Le.refl _)) ?_
  refine RS (ok_load Try.underlying71 rfl rfl) ?_
  refine RA rfl ?_
  refine RN ?_
  refine End.normal_block ?_
  refine EN ?_
  refine GE ?_
  refine TL ?_
  refine RBS rfl rfl rfl (nI (i + 1)) (wrap_eq (by omega) (by omega)) ?_
  refine RM rfl ?_
  refine RN ?_
  refine End.normal_then ?_
  refine End.again (i + 1) ?_ ?_ ?_
  ·show _ ≤ _; omega
  ·show _ - _ < _ - _; omega
  ·exact (KC 0 rfl (KC 5 rfl (KC 6 rfl KN)))
 ·have hi2 : i = m := by simp at hc7; omega
  refine A.exit ?_
  refine End.exit_then ?_
  refine End.exit_then ?_
  refine End.exit_here ?_
  refine EN ?_
  refine GS ?_
  refine TL ?_
  refine RM rfl ?_
  refine RA rfl ?_
  refine RN ?_
  refine A.ret ?_
  subst hi2
  exact End.ret1 rfl rfl (Le.refl _)
theorem dCopied_fn (l : List UInt8) (hl : l.length ≤ 4398046511104) : FnB Try.prog 38 [byt l] (fun B => fresh B 5 (l.map byteV) l.length) := by
 refine FnB.of Try.func38 rfl (by kernel_rfl) Try.ntmps38 (by simp) (fun w => [(0, old w.heap.size (byt l))]) (fun w => (Start.old rfl Start.nil)) fun w₀ => ?_
 refine GS ?_
 refine TL ?_
 refine RA rfl ?_
 refine RN ?_
 refine GS ?_
 refine TL ?_
 refine RM rfl ?_
 refine RS (ok_lenB Try.underlying37 rfl (Le.old _ _)) ?_
 refine RS (ok_make l.length Try.underlying37 info5 (by decide) rfl rfl rfl rfl rfl hl) ?_
 refine RA rfl ?_
 refine RN ?_
 refine A.open (t := 3) (k := 1000003) rfl fun b hb => ?_
 refine GS ?_
 refine TF 2 ?_
 refine RM rfl ?_
 refine RM rfl ?_
 refine RN ?_
 refine ⟨_, eff_copy (n := 11) (s := 1000003) Try.underlying37 info5 rfl rfl (Le.old _ _) (Nat.le_refl _) hb rfl (by simp) (by decide) (Left.cons (t := 3) rfl (Stays.v _ _) Left.nil), ?_⟩
 refine TL ?_
 refine RN ?_
 refine GS ?_
 refine TL ?_
 refine RM rfl ?_
 refine RA rfl ?_
 refine RN ?_
 refine A.ret ?_
 exact End.fresh (k := 1000003) rfl hb rfl (by simp) rfl (by simp)
theorem conty_byt {T : DTy} {X : Nat → Prop} {l : List UInt8} : Le (contyD T X (some l)) (byt l) := fun B w x ⟨h0, b, h1, _, h3, h4⟩ => by
 subst h1
 have := blk_row h3 h4 l.length
 rw [List.take_of_length_le (by simp)] at this
 exact ⟨_, bytes_mk (Nat.le_refl _) (by simp only [maxLen]; omega) this⟩
theorem fresh_con {B : Nat} {e : TypeId} {l : List UInt8} (h : l.length ≤ 256) : Le (fresh B e (l.map byteV) l.length) (conD B e (some l)) := fun _ _ _ ⟨b, h1, h2, h3, h4⟩ => ⟨h, b, by rw [List.length_map] at h1; exact h1, h2, h3, h4⟩
theorem cRead_n (X : Nat → Prop) : FnB Try.prog 36 [contD dT X none] (fun B => tup [conD B 5 none, .v (.int .i64 (errC none))]) := by
 refine FnB.of Try.func36 rfl (by kernel_rfl) Try.ntmps36 (by simp) (fun w => [(0, old w.heap.size (contD dT X none))]) (fun w => (Start.old rfl Start.nil)) fun w₀ => ?_
 refine A.nameTl (t := 0) (k := 1000200) rfl fun y hy => ?_
 refine GS ?_
 refine TN 0 ?_
 refine RN ?_
 refine ⟨_, _, eff_box (n := 10) (d := 1) (k := 1000001) rfl (by decide), fun b1 hb1 => ?_⟩
 have hBb1 := hb1.1
 refine TL ?_
 refine RA rfl ?_
 refine RA rfl ?_
 refine RN ?_
 refine A.seq ?_
 refine GS ?_
 refine TL ?_
 refine RS (ok_field field79_0 (by decide) rfl) ?_
 refine RS (ok_loadV (s := 1000001) (by decide) Try.underlying4 rfl rfl rfl (rfl)) ?_
 refine RS (ok_not rfl) ?_; refine RZ (.bool true) (rfl) ?_
 refine RN ?_
 refine A.yes rfl ?_
 refine GS ?_
 refine TL ?_
 refine RA rfl ?_
 refine RA rfl ?_
 refine RN ?_
 refine A.ret ?_
 refine End.ret_then ?_
 exact End.ret2 rfl rfl (fun _ _ _ h => h) rfl (Le.refl _)
theorem cRead_s (X : Nat → Prop) (l : List UInt8) : FnB Try.prog 36 [contD dT X (some l)] (fun B => tup [conD B 5 (some l), .v (.int .i64 (errC (some l)))]) := by
 refine FnB.of Try.func36 rfl (by kernel_rfl) Try.ntmps36 (by simp) (fun w => [(0, old w.heap.size (contD dT X (some l)))]) (fun w => (Start.old rfl Start.nil)) fun w₀ => ?_
 refine A.nameTl (t := 0) (k := 1000200) rfl fun y hy => ?_
 refine A.know (k := 1000200) (p := l.length ≤ 256) rfl (fun _ _ _ h => h.2.1) fun hl => ?_
 refine GS ?_
 refine TN 0 ?_
 refine RN ?_
 refine ⟨_, _, eff_box (n := 10) (d := 1) (k := 1000001) rfl (by decide), fun b1 hb1 => ?_⟩
 have hBb1 := hb1.1
 refine TL ?_
 refine RA rfl ?_
 refine RA rfl ?_
 refine RN ?_
 refine A.seq ?_
 refine GS ?_
 refine TL ?_
 refine RS (ok_field field79_0 (by decide) rfl) ?_
 refine RS (ok_loadV (s := 1000001) (by decide) Try.underlying4 rfl rfl rfl (rfl)) ?_
 refine RS (ok_not rfl) ?_; refine RZ (.bool false) (rfl) ?_
 refine RN ?_
 refine A.no rfl ?_
 refine A.skip ?_
 refine EN ?_
 refine GS ?_
 refine TL ?_
 refine RS (ok_field field79_1 (by decide) rfl) ?_
 refine RS ((OpOk.valO (k := 1000200) (ok_loadV (s := 1000001) (by decide) Try.underlying37 rfl rfl rfl (rfl)) (by decide) rfl).le ((Le.old _ _).trans conty_byt)) ?_
 refine RS (ok_callB (dCopied_fn l (by omega)) (fun B B' h => fresh_mono B B' h) (A1 rfl)) ?_
 refine RA rfl ?_
 refine RA rfl ?_
 refine RN ?_
 refine A.ret ?_
 exact End.ret2 rfl rfl (fresh_con hl) rfl (Le.refl _)
theorem cRead_fn (X : Nat → Prop) (c : Con) : FnB Try.prog 36 [contD dT X c] (fun B => tup [conD B 5 c, .v (.int .i64 (errC c))]) := by
 cases c with
 | none => exact cRead_n X
 | some l => exact cRead_s X l
theorem con_tup_mono {e : TypeId} {c : Con} {x : Value} (B B' : Nat) (h : B ≤ B') : Le (tup [conD B' e c, .v x]) (tup [conD B e c, .v x]) := tup_mono (conD_mono B B' h) (Le.refl _)
end Go.Proofs.Ytdhbhcbkhkopbaa
namespace Go.Proofs.Ytdhbhcbkhkopbaa
open Go Go.RowKit
set_option linter.unusedVariables false
set_option linter.unusedSimpArgs false
variable {κ : Cx}
section
variable {P : Program} {n B : Nat} {ops : Array Oper} {E : Env} {dst : Option Tmp} {ty : TypeId} {pos : String} {after : Array Edge} {guard : Option (Nat × Bool)}
/-- A variable that is given a value, in a drawn region. -/
theorem ok_boxF {T : TypeId} {x : Operand} {xs : List Value} (L : List Nat) (hx : E.at x = some (.v (aggV xs))) (hL : Named E L) : OpOk P B ⟨dst, .box T x, ty, pos, after, guard⟩ E (freshV B L T xs) := fun ρ w hB hv hρ => by
  have h1 : ρ x = aggV xs := hρ x (by simp [Op.operands]) _ hx
  refine out_val (x := .pointer (some ⟨w.heap.size, 0, none⟩)) (w' := w.alloc (.cells xs.toArray T)) (by simp [execOp, Instr.box, newVar, newRow, h1, aggV, Value.cells]) ⟨Grow.alloc w _, w.heap.size, rfl, hB, fun b' hb' => ?_, by simp, heap_alloc_new w _⟩
  obtain ⟨s, e, ys, hs, hl⟩ := hL b' hb'
  exact (hv s _ hs hl).1
/-- A store of such a variable's address: the variable gets its name. -/
theorem eff_storeV {t : TypeId} {z : Value} {nb : Nat} {p : Operand} {d b o s k : Nat} {e T : TypeId} {L : List Nat} {xs ys : List Value} {E' : Env} (hinfo : InfoIs P t z nb) (hp : E.at p = some (.v (.pointer (some ⟨b, o, none⟩)))) (hx : E.look d = some (freshV B L T ys)) (hne : e ≠ T)
    (hb : B ≤ b) (hblk : E.look s = some (blk b e xs)) (ho : o < xs.length) (hl : LeftS B e b E' E) :
    EffG P n B ops ⟨none, .store t p (.tmp d), ty, pos, after, none⟩ E (fun b' => B ≤ b') (fun b' => (s, blk b e (xs.set o (.pointer (some ⟨b', 0, none⟩)))) :: (k, blk b' T ys) :: E') := by
  obtain ⟨i, hi, _, hs, _⟩ := hinfo.get
  intro κ a w K Q h hK
  have hp' : a.eval p = _ := h.at_ p _ hp
  obtain ⟨b', hx', hb', _, hlt', hh'⟩ := h.of d _ hx
  have hx' : a.eval (.tmp d) = .pointer (some ⟨b', 0, none⟩) := hx'
  obtain ⟨hlt, hh⟩ := h.of s _ hblk
  have hbb : b' ≠ b := fun hbb => hne (by subst hbb; rw [hh] at hh'; injection hh' with hh'; injection hh' with _ h2 _)
  have hcell : w.cell? ⟨b, o, none⟩ = some xs[o] := by simp [World.cell?, hh, ho]
  have hfr : w.frozen? ⟨b, o, none⟩ = false := by simp [World.frozen?, hh]
  have hadd : (⟨b, o, none⟩ : Addr).add 0 = ⟨b, o, none⟩ := rfl
  have hset := setCell_eq_setRow w b o xs.toArray e (0, 0) (.pointer (some ⟨b', 0, none⟩)) hh
  have hrun : (execOp a.eval ⟨none, .store t p (.tmp d), ty, pos, after, none⟩).run P w = .ok .skip (w.setRow b (xs.toArray.setIfInBounds o (.pointer (some ⟨b', 0, none⟩)))) := by
    rw [← hset]
    simp [execOp, hp', hx', Instr.storeAt, Instr.sureAddr, storeVar, Value.cells, sizeOf, typeInfo, hi, hs, storeCells, hadd, run_store P w ⟨b, o, none⟩ _ .plain (show (Value.pointer (some ⟨b', 0, none⟩)).oneCell' = true from rfl), hcell, hfr]
  rw [if_pos (by simp [Region.wanted])]
  refine opR (by nofun) ?_
  unfold Oper.wp
  rw [hrun, Oper.upon_skip]
  have hwr := Wrote.setRow hb hh (xs.toArray.setIfInBounds o (.pointer (some ⟨b', 0, none⟩)))
  have hst := hl.st h hwr
  refine hK b' _ _ hb' (hwr.below h.base) ⟨hst.base, hst.defers, hst.size, fun t' d hd => ?_⟩
  by_cases hts : s = t'
  · subst hts
    rw [look_here] at hd; injection hd with hd; subst hd
    exact ⟨by simpa using hlt, by rw [setRow_heap w b _ _ e _ hh]; simp⟩
  · rw [look_past _ _ hts] at hd
    by_cases hks : k = t'
    · subst hks
      rw [look_here] at hd; injection hd with hd; subst hd
      exact ⟨by simpa using hlt', (setRow_other w b b' _ hbb).trans hh'⟩
    · rw [look_past _ _ hks] at hd
      exact hst.of t' d hd
/-- copy of a whole row of values that are known by name over another one of its length. -/
theorem eff_copyR {t e : TypeId} {z : Value} {nb : Nat} {r x : Operand} {b b₀ m dc sc s k dst : Nat} {e' e₀ : TypeId} {us xs : List Value} {E' : Env} (ht : P.underlying t = some (.slice e)) (hinfo : InfoIs P e z nb)
    (hr : E.at r = some (.v (.slice (some ⟨b, 0, none⟩) m dc))) (hx : E.at x = some (.v (.slice (some ⟨b₀, 0, none⟩) m sc))) (hk : E.look k = some (blk b₀ e₀ us)) (h1 : us.all (·.oneCell') = true) (hn : us.length = m) (hb : B ≤ b) (hblk : E.look s = some (blk b e' xs)) (hfit : xs.length = m) (hdst : dst < n) (hl : LeftS B e' b E' E) :
    Eff P n B ops ⟨some dst, .call { callee := .builtin .copy, args := #[r, x], argTypes := #[t, t] }, ty, pos, after, none⟩ E ((dst, .v (.int .i64 (m : Int))) :: (s, blk b e' us) :: E') := by
  obtain ⟨i, hi, _, hs, _⟩ := hinfo.get
  intro κ a w K Q h hK
  have hre : a.eval r = _ := h.at_ r _ hr
  have hxe : a.eval x = _ := h.at_ x _ hx
  obtain ⟨hlt0, hh0⟩ := h.of k _ hk
  obtain ⟨hlt, hh⟩ := h.of s _ hblk
  have hsz : (P.info? e).map (·.size) = some 1 := by rw [hi]; simp [hs]
  have hmin : Nat.min m m = m := Nat.min_self _
  have hrow : RowIn w.heap.size w (some ⟨b₀, 0, none⟩) us := by
    have := blk_row hlt0 hh0 us.length
    rwa [List.take_length] at this
  have hr := run_copy_row (P := P) w t t ty e b 0 m dc ⟨b₀, 0, none⟩ m sc xs.toArray e' us ht hsz hh (by rw [hmin, hn]) hrow.cell (by simp; omega) (fun v hv => List.all_eq_true.1 h1 v hv)
  have hr : (Builtin.copy_ #[t, t] ty #[.slice (some ⟨b, 0, none⟩) m dc, .slice (some ⟨b₀, 0, none⟩) m sc]).run P w = .ok (.int .i64 (m : Int)) (w.setRow b us.toArray) := by
    have h2 : xs.drop m = [] := by rw [List.drop_of_length_le (by omega)]
    simpa [goInt, hmin, hn, h2] using hr
  have hexec : (execOp a.eval ⟨some dst, .call { callee := .builtin .copy, args := #[r, x], argTypes := #[t, t] }, ty, pos, after, none⟩).run P w = .ok (.value (.int .i64 (m : Int))) (w.setRow b us.toArray) := by
    simp [execOp, resolve, invoke, builtin, hre, hxe, hr]
  rw [if_pos (by simp [Region.wanted])]
  refine opR (by nofun) ?_
  unfold Oper.wp
  rw [hexec, Oper.upon_value]
  have hwr := Wrote.setRow hb hh us.toArray
  exact hK _ _ (hwr.below h.base) (St.put ((hl.st h hwr).push (d := blk b e' us) ⟨by simpa using hlt, setRow_heap w b _ _ e' _ hh⟩) hdst rfl)
end
theorem BlkX.of_new {X : Nat → Prop} {B₀ B : Nat} {w : World} {b : Nat} {e : TypeId} {cs : List Value} (hX : ∀ b, X b → b < B₀) (hb : B₀ ≤ b) (hlt : b < B) (hh : w.heap[b]? = some (.cells cs.toArray e (0, 0))) : BlkX X B w b e cs := ⟨fun hx => by have := hX b hx; omega, hlt, hh⟩
section
variable {P : Program} {n : Nat} {w₀ : World} {E : Env}
/-- The disk that a change makes. -/
theorem End.changed {fn : Func} {r kr kp k1 k2 ky kz k8 k9 kV b6 b bk b8 b9 bV i m : Nat} {T : DTy} {X : Nat → Prop} {S : Dk} {c : Con} {tD : TypeId} {td : TypeDesc} {ps cs : List Value} {y z : Value} (hr : fn.results = #[.cell r tD]) (ht : P.underlying tD = some td) (hp : (match td with | .struct _ | .array _ _ => true | _ => false) = true) (hsz : SizeIs P tD 3)
    (h1 : E.look r = some (.v (.pointer (some ⟨b6, 0, none⟩)))) (h2 : E.look kr = some (blk b6 tD [nI S.length, nI (totC S + 1), .slice (some ⟨b8, 0, none⟩) m m])) (hm : m = ps.length)
    (hP : E.look kp = some (old w₀.heap.size (valM (.slice (some ⟨b, 0, none⟩) ps.length ps.length) (partsD' T X S)))) (hb : E.look k1 = some (blk b T.r ps)) (hi : i < S.length) (hps : ps[i / 64]? = some (.pointer (some ⟨bk, 0, none⟩))) (hbk : E.look k2 = some (blk bk T.p cs))
    (hlb : b < w₀.heap.size) (hlk : bk < w₀.heap.size) (h8 : E.look k8 = some (blk b8 T.r (ps.set (i / 64) (.pointer (some ⟨b9, 0, none⟩))))) (h9 : E.look k9 = some (blk b9 T.p (cs.set (i % 64) (.pointer (some ⟨bV, 0, none⟩)))))
    (hV : E.look kV = some (blk bV T.v [.bool c.isSome, y, nI ((hisC S i).length + 1), z])) (hy : E.look ky = some (old w₀.heap.size (valM y (contyD T X c)))) (hz : E.look kz = some (valM z (versD T X (hisC S i)))) (g8 : w₀.heap.size ≤ b8) (g9 : w₀.heap.size ≤ b9) (gV : w₀.heap.size ≤ bV) :
    End Cx.top w₀ n E (BP P fn (PostOf w₀ (diskD T X (putC S i c))) .ret) := fun a w g hs => by
  subst hm
  have h3 : a.tmps[r]?.getD undef = .pointer (some ⟨b6, 0, none⟩) := by rw [← Array.getD_eq_getD_getElem?]; exact hs.of r _ h1
  obtain ⟨_, hh⟩ := hs.of kr _ h2
  obtain ⟨hB, hX, hPA⟩ := hs.of kp _ hP
  have kb := hs.of k1 _ hb
  have kbk := hs.of k2 _ hbk
  have k8' := hs.of k8 _ h8
  have k9' := hs.of k9 _ h9
  have kV' := hs.of kV _ hV
  have ky' := hs.of ky _ hy
  have kz' := hs.of kz _ hz
  have hc : ContAt T X w.heap.size w y c := ContAt.carry (Q := fun _ => True) ky'.2 (Carry.up hB) trivial
  have hx : VersAt T X w.heap.size w (.pointer (some ⟨bV, 0, none⟩)) (c :: hisC S i) := ⟨bV, y, z, rfl, BlkX.of_new hX gV kV'.1 kV'.2, hc, kz'⟩
  have hPS := hPA.set hB kb.2 hi hps kbk.2 (BlkX.of_new hX g8 k8'.1 k8'.2) (BlkX.of_new hX g9 k9'.1 k9'.2) hx
  refine BP.ret hs.defers ⟨aggV [nI S.length, nI (totC S + 1), .slice (some ⟨b8, 0, none⟩) ps.length ps.length], by simp [results, hr, h3, asAddr, load_cell (xs := [nI S.length, nI (totC S + 1), .slice (some ⟨b8, 0, none⟩) ps.length ps.length]) ht hp hsz hh], _, rfl, g, .slice (some ⟨b8, 0, none⟩) ps.length ps.length, rfl, ?_, fun b hb => Nat.lt_of_lt_of_le (hX b hb) hB, hPS⟩
  rw [putC_length, totC_put c hi]; rfl
end
/-! ### New disks -/
/-- Blocks that are arrays of m nil pointers. -/
def nilsM (T : TypeId) (m : Nat) (bs : List Nat) : D :=
  .p (fun B w _ => ∀ b ∈ bs, b < B ∧ w.heap[b]? = some (.cells (List.replicate m (.pointer none)).toArray T (0, 0))) (fun _ _ _ _ g h b hb => ⟨(h b hb).1, (g.block b (h b hb).1).trans (h b hb).2⟩) (fun _ _ _ _ g h b hb => ⟨Nat.lt_of_lt_of_le (h b hb).1 g, (h b hb).2⟩)
theorem Surv.nils {B e g m : Nat} {T : TypeId} {bs : List Nat} (h : T ≠ e) : Surv B e g (nilsM T m bs) := fun w w' x k hx b hb => by
  obtain ⟨h1, h2⟩ := hx b hb
  refine ⟨Nat.lt_of_lt_of_le h1 k.size, ?_⟩
  rw [k.other b h1 fun hbg => ?_]
  · exact h2
  · subst hbg; exact h (k.row _ _ _ h2)
def ptrs (bs : List Nat) : List Value := bs.map fun b => .pointer (some ⟨b, 0, none⟩)
theorem ptrs_len (bs : List Nat) : (ptrs bs).length = bs.length := by simp [ptrs]
theorem ptrs_set {bs : List Nat} {b m : Nat} (h : bs.length < m) : (ptrs bs ++ List.replicate (m - bs.length) (Value.pointer none)).set bs.length (.pointer (some ⟨b, 0, none⟩)) = ptrs (bs ++ [b]) ++ List.replicate (m - (bs ++ [b]).length) (Value.pointer none) := by
  rw [List.set_append_right _ _ (by rw [ptrs_len]; exact Nat.le_refl _), ptrs_len, Nat.sub_self, show m - bs.length = (m - (bs ++ [b]).length) + 1 from by simp; omega, List.replicate_succ, List.set_cons_zero]
  simp [ptrs]
section
variable {P : Program} {n : Nat} {w₀ : World} {E : Env} {c : Code} {Q : Exit → Act → World → Prop}
theorem A.addNil {k kb b m : Nat} {T : TypeId} {bs : List Nat} (hk : E.look k = some (nilsM T m bs)) (hb : E.look kb = some (blk b T (List.replicate m (.pointer none)))) (h : A κ P w₀ n c ((k, nilsM T m (bs ++ [b])) :: E) Q) : A κ P w₀ n c E Q := fun a w g hs => by
  have h1 := hs.of k _ hk
  have h2 := hs.of kb _ hb
  exact h a w g (hs.push (t := k) (d := nilsM T m (bs ++ [b])) fun x hx => by
    rcases List.mem_append.1 hx with hx | hx
    · exact h1 x hx
    · rw [List.mem_singleton.1 hx]; exact h2)
theorem End.addNil {R : Act → World → Prop} {k kb b m : Nat} {T : TypeId} {bs : List Nat} (hk : E.look k = some (nilsM T m bs)) (hb : E.look kb = some (blk b T (List.replicate m (.pointer none)))) (h : End κ w₀ n ((k, nilsM T m (bs ++ [b])) :: E) R) : End κ w₀ n E R := fun a w g hs => by
  have h1 := hs.of k _ hk
  have h2 := hs.of kb _ hb
  exact h a w g (hs.push (t := k) (d := nilsM T m (bs ++ [b])) fun x hx => by
    rcases List.mem_append.1 hx with hx | hx
    · exact h1 x hx
    · rw [List.mem_singleton.1 hx]; exact h2)
theorem A.noNil {k m : Nat} (T : TypeId) (h : A κ P w₀ n c ((k, nilsM T m []) :: E) Q) : A κ P w₀ n c E Q := fun a w g hs => h a w g (hs.push (t := k) (d := nilsM T m []) fun x hx => by cases hx)
theorem End.newDk {fn : Func} {r r' kr k k1 b2 b m : Nat} {T : DTy} {bs : List Nat} {xs : List Value} {tD : TypeId} {td : TypeDesc} {z : Value} (hr : fn.results = #[.cell r tD, .tmp r']) (ht : P.underlying tD = some td) (hp : (match td with | .struct _ | .array _ _ => true | _ => false) = true) (hsz : SizeIs P tD 3)
    (h1 : E.look r = some (.v (.pointer (some ⟨b2, 0, none⟩)))) (h2 : E.look kr = some (blk b2 tD [nI m, nI 0, .slice (some ⟨b, 0, none⟩) bs.length bs.length])) (h5 : E.look r' = some (.v z)) (hb : E.look k1 = some (blk b T.r xs)) (hxs : xs = ptrs bs) (hk : E.look k = some (nilsM T.p 64 bs)) (hm : bs.length = (m + 63) / 64) :
    End Cx.top w₀ n E (BP P fn (PostOf w₀ (tup [diskD T X0 (List.replicate m []), .v z])) .ret) := fun a w g hs => by
  subst hxs
  have h3 : a.tmps[r]?.getD undef = .pointer (some ⟨b2, 0, none⟩) := by rw [← Array.getD_eq_getD_getElem?]; exact hs.of r _ h1
  have h6 : a.tmps[r']?.getD undef = z := by rw [← Array.getD_eq_getD_getElem?]; exact hs.of r' _ h5
  obtain ⟨_, hh⟩ := hs.of kr _ h2
  have kb := hs.of k1 _ hb
  have kn := hs.of k _ hk
  refine BP.ret hs.defers ⟨.tuple #[aggV [nI m, nI 0, .slice (some ⟨b, 0, none⟩) bs.length bs.length], z], by simp [results, hr, h3, h6, asAddr, load_cell (xs := [nI m, nI 0, .slice (some ⟨b, 0, none⟩) bs.length bs.length]) ht hp hsz hh], _, rfl, g, _, rfl, rfl, fun j d u hd hu => ?_⟩
  match j, hd, hu with
  | 0, hd, hu =>
    simp only [List.getElem?_cons_zero, Option.some.injEq] at hd hu; subst hd; subst hu
    refine ⟨.slice (some ⟨b, 0, none⟩) bs.length bs.length, rfl, by rw [totC_rep, List.length_replicate]; rfl, fun b h => h.elim, .inr ⟨b, ptrs bs, by rw [ptrs_len], by rw [ptrs_len, hm, List.length_replicate], ⟨fun h => h, kb.1, kb.2⟩, fun k u hu => ?_⟩⟩
    simp only [ptrs, List.getElem?_map] at hu
    cases hbk : bs[k]? with
    | none => rw [hbk] at hu; cases hu
    | some bk =>
      rw [hbk] at hu; injection hu with hu; subst hu
      obtain ⟨l1, l2⟩ := kn bk (List.mem_of_getElem? hbk)
      refine ⟨bk, _, rfl, by simp, ⟨fun h => h, l1, l2⟩, fun j u hu => ?_⟩
      show VersAt T X0 w.heap.size w u (hisC (List.replicate m []) (64 * k + j))
      rw [his_rep]
      rw [List.getElem?_replicate] at hu
      split at hu
      · injection hu with hu; exact hu.symm
      · cases hu
  | 1, hd, hu => simp at hd hu; subst hd; subst hu; rfl
  | j + 2, hd, _ => simp at hd
end
/-! ### Slices cut to their length -/
section
variable {P : Program} {B : Nat} {E : Env} {dst : Option Tmp} {ty : TypeId} {pos : String} {after : Array Edge} {guard : Option (Nat × Bool)}
theorem ok_clip {t e : TypeId} {z : Value} {nb : Nat} {x ho mo : Operand} {k k' : IntKind} {m B' : Nat} {f : D} {xs : List Value} (ht : P.underlying t = some (.slice e)) (hs : InfoIs P e z nb) (hx : E.at x = some f) (hf : Le f (own B' e m xs)) (hho : E.at ho = some (.v (.int k (m : Int)))) (hmo : E.at mo = some (.v (.int k' (m : Int)))) (hm : m = xs.length) (hmax : m ≤ maxLen) :
    OpOk P B ⟨dst, .slice t x none (some ho) (some mo), ty, pos, after, guard⟩ E (vlist xs m) := fun ρ w _ _ hρ => by
  subst hm
  obtain ⟨⟨hlen, hcase⟩, hob⟩ := hf.of (hρ x (by simp [Op.operands]) _ hx)
  have h1 : ρ ho = .int k (xs.length : Int) := hρ ho (by simp [Op.operands]) _ hho
  have h2 : ρ mo = .int k' (xs.length : Int) := hρ mo (by simp [Op.operands]) _ hmo
  obtain ⟨info, hinfo, _, hsize, _⟩ := hs.get
  rcases hcase with ⟨hv, hm0⟩ | ⟨g, cap, cur, hv, hb, hh, hnc, hcm, hcs, htake⟩
  · have hl0 : xs = [] := List.eq_nil_of_length_eq_zero hm0
    subst hl0
    have hb := sliceBounds_run (P := P) (sl := true) (len := 0) (cap := 0) (l := 0) (h := 0) (m := 0) (L := none) (H := some (.int k 0)) (M := some (.int k' 0)) w (.inr ⟨rfl, rfl⟩) (.inl ⟨k, rfl⟩) (.inl ⟨k', rfl⟩) (Nat.le_refl _) (Nat.le_refl _) (Nat.le_refl _)
    have hr : (Instr.sliceAt t (.slice none 0 0) none (some (.int k 0)) (some (.int k' 0))).run P w = .ok (.slice none 0 0) w := by
      simp only [Instr.sliceAt, Instr.slice, Sem.run_bind, run_underlying ht, Result.andThen_ok, hb, sizeOf, typeInfo]
      simp [hinfo, hsize]
    have h1 : ρ ho = .int k 0 := h1
    have h2 : ρ mo = .int k' 0 := h2
    refine out_val (x := .slice none 0 0) (w' := w) (by simp only [execOp, hv, h1, h2, Option.map_none, Option.map_some, Sem.run_bind, hr, Result.andThen_ok, Sem.run_pure]) ⟨Grow.refl w, vlist_mk (us := []) (Nat.le_refl _) (Nat.zero_le _) RowIn.nil⟩
  · have hb := sliceBounds_run (P := P) (sl := true) (len := xs.length) (cap := cap) (l := 0) (h := xs.length) (m := xs.length) (L := none) (H := some (.int k xs.length)) (M := some (.int k' xs.length)) w (.inr ⟨rfl, rfl⟩) (.inl ⟨k, rfl⟩) (.inl ⟨k', rfl⟩) (Nat.zero_le _) (Nat.le_refl _) (by omega)
    have hr : (Instr.sliceAt t (.slice (some ⟨g, 0, none⟩) xs.length cap) none (some (.int k xs.length)) (some (.int k' xs.length))).run P w = .ok (.slice (some ⟨g, 0, none⟩) xs.length xs.length) w := by
      have haddr : (⟨g, 0, none⟩ : Addr).add 0 = ⟨g, 0, none⟩ := rfl
      simp only [Instr.sliceAt, Instr.slice, Sem.run_bind, run_underlying ht, Result.andThen_ok, hb, sizeOf, typeInfo]
      simp [hinfo, hsize, haddr]
    refine out_val (x := .slice (some ⟨g, 0, none⟩) xs.length xs.length) (w' := w) (by simp only [execOp, hv, h1, h2, Option.map_none, Option.map_some, Sem.run_bind, hr, Result.andThen_ok, Sem.run_pure]) ⟨Grow.refl w, vlist_mk (Nat.le_refl _) hmax fun j u hu => ⟨_, rfl, hob g (by rw [hv]; rfl), ?_⟩⟩
    rw [add_lit0, Nat.zero_add]
    have hcell : cur[j]? = some u := by
      rw [← htake, List.getElem?_take] at hu
      split at hu
      · simpa using hu
      · cases hu
    simp [World.cell?, hh, hcell]
end
end Go.Proofs.Ytdhbhcbkhkopbaa
namespace Go.Proofs.Ytdhbhcbkhkopbaa
open Go Go.RowKit
set_option linter.unusedVariables false
set_option maxRecDepth 20000
set_option linter.unusedSimpArgs false
theorem buildDk (n c : Int) (v : Value) (hv : v.oneCell' = true) : Try.prog.built 27 [(0, .int .i64 n), (1, .int .i64 c), (2, v)] = some ([.int .i64 n, .int .i64 c, v] : List Value).toArray := by
 cases v <;> first | (exact Bool.noConfusion (show false = true from hv)) | kernel_rfl
theorem buildDk0 (n : Int) (v : Value) (hv : v.oneCell' = true) : Try.prog.built 27 [(0, .int .i64 n), (2, v)] = some ([.int .i64 n, .int .i64 0, v] : List Value).toArray := by
 cases v <;> first | (exact Bool.noConfusion (show false = true from hv)) | kernel_rfl
theorem buildVs (a : Bool) (y z : Value) (n : Int) (hy : y.oneCell' = true) (hz : z.oneCell' = true) : Try.prog.built 88 [(0, aggV [.bool a, y]), (1, .int .i64 n), (2, z)] = some ([.bool a, y, .int .i64 n, z] : List Value).toArray := by
 cases y <;> first | (exact Bool.noConfusion (show false = true from hy)) | (cases z <;> first | (exact Bool.noConfusion (show false = true from hz)) | kernel_rfl)
theorem buildCs (b : Nat) (n m : Nat) : Try.prog.built 79 [(0, .bool true), (1, .slice (some ⟨b, 0, none⟩) n m)] = some ([.bool true, .slice (some ⟨b, 0, none⟩) n m] : List Value).toArray := by kernel_rfl

set_option maxHeartbeats 2000000 in
theorem dChange_fn (X : Nat → Prop) (S : Dk) (i : Nat) (hi : i < S.length) (hn : S.length ≤ 10922) (c : Con) (ht : totC S ≤ 1000000) : Fn Try.prog 37 [diskD dT X S, .v (nI (i)), contD dT X c] (diskD dT X (putC S i c)) := by
 refine Fn.of Try.func37 rfl (by kernel_rfl) Try.ntmps37 (by simp) (fun w => [(0, old w.heap.size (diskD dT X S)), (1, .v (nI (i))), (2, old w.heap.size (contD dT X c))]) (fun w => (Start.old rfl (Start.v rfl (Start.old rfl Start.nil)))) fun w₀ => ?_
 refine A.openDk (t := 0) (k := 1000200) (k1 := 1000201) (k2 := 1000202) (k3 := 1000203) rfl hi fun b ps bk cs v hb hbk hps hpk hcs hcv hv1 hpo hco => ?_
 refine A.nameTl (t := 2) (k := 1000204) rfl fun y hy1 => ?_
 have hle := his_le S i
 have hpl : i / 64 < ps.length := by omega
 refine GS ?_
 refine TN 0 ?_
 refine RN ?_
 refine ⟨_, _, eff_box (n := 49) (d := 3) (k := 1000003) rfl (by decide), fun b3 hb3 => ?_⟩
 have hBb3 := hb3.1
 refine TN 1 ?_
 refine RN ?_
 refine ⟨_, _, eff_box (n := 49) (d := 5) (k := 1000005) rfl (by decide), fun b5 hb5 => ?_⟩
 have hBb5 := hb5.1
 refine TN 2 ?_
 refine RN ?_
 refine ⟨_, _, eff_alloc (n := 49) (d := 6) (k := 1000006) zero27 (by decide), fun b6 hb6 => ?_⟩
 have hBb6 := hb6.1
 have hlt_b3_b6 : b3 < b6 := hb6.2 1000003 _ _ _ rfl
 refine TL ?_
 refine RN ?_
 refine GS ?_
 refine TL ?_
 refine RS (OpOk.tlO (k := 1000200) [nI S.length, nI (totC S)] (ok_loadA (s := 1000003) (by decide) Try.underlying27 rfl (size27.of (rfl)) rfl rfl) rfl rfl (by decide) rfl) ?_
 refine RM rfl ?_
 refine RS (ok_call (dNewest_fn X S i hi hn) (Args.cons rfl (Le.old _ _) (Args.cons rfl LA Args.nil))) ?_
 refine RA rfl ?_
 refine RN ?_
 refine A.nameP (t := 7) (k := 1000207) rfl (fun w x h => VersAt.one h) fun z hz1 => ?_
 refine GS ?_
 refine TN 3 ?_
 refine RS (ok_field field27_2 (by decide) rfl) ?_
 refine RS (ok_loadV (s := 1000003) (by decide) Try.underlying25 rfl rfl rfl (rfl)) ?_
 refine RS (ok_lenV Try.underlying25 rfl) ?_
 refine RN ?_
 refine ⟨_, _, eff_nameF (c := ps.length) (by simp) (n := 49) (d := 16) (k := 1000016) rfl rfl (fun B' => ok_make ps.length Try.underlying25 info70 (by decide) rfl rfl rfl rfl rfl (by omega)) (by decide) (by decide), fun b16 hb16 => ?_⟩
 have hBb16 := hb16.1
 have hlt_b3_b16 : b3 < b16 := hb16.2 1000003 _ _ _ rfl
 have hlt_b5_b16 : b5 < b16 := hb16.2 1000005 _ _ _ rfl
 have hlt_b6_b16 : b6 < b16 := hb16.2 1000006 _ _ _ rfl
 have hlt_b_b16 : b < b16 := hb16.2 1000201 _ _ _ rfl
 have hlt_bk_b16 : bk < b16 := hb16.2 1000202 _ _ _ rfl
 refine TL ?_
 refine RA rfl ?_
 refine RN ?_
 refine GS ?_
 refine TF 3 ?_
 refine RM rfl ?_
 refine RS (ok_field field27_2 (by decide) rfl) ?_
 refine RS (ok_loadV (s := 1000003) (by decide) Try.underlying25 rfl rfl rfl (rfl)) ?_
 refine RN ?_
 refine ⟨_, eff_copyR (n := 49) (s := 1000016) (k := 1000201) Try.underlying25 info70 rfl rfl rfl hpo rfl hBb16 rfl (by simp) (by decide) (LV 1 rfl (LV 3 rfl (LV 5 rfl (LV 6 rfl (LV 7 rfl (LV 8 rfl (LT 1000003 rfl (LT 1000005 rfl (LT 1000006 rfl (LO 1000200 rfl (LB 1000201 rfl (LT 1000202 rfl (LO 1000203 rfl (LO 1000204 rfl (LeftS.cons (t := 1000207) rfl (Surv.valM (Surv.vers (.inl (by decide)))) LN))))))))))))))), ?_⟩
 refine TL ?_
 refine RN ?_
 refine GS ?_
 refine TN 7 ?_
 refine RM rfl ?_
 refine RM rfl ?_
 refine RS (ok_div rfl rfl (by decide)) ?_; refine RZ (nI ((i) / 64)) (by rw [tdiv_lit _ (by decide)]; exact wrap_eq rfl (by first | omega | (simp only [Int.toNat]; omega))) ?_
 refine RS (ok_indexV (i / 64) Try.underlying25 info70 rfl rfl rfl hpl) ?_; refine RZ (.pointer (some ⟨b16, i / 64, none⟩)) (by rw [Nat.zero_add]) ?_
 refine RS (ok_loadV (s := 1000016) (by decide) Try.underlying70 rfl rfl rfl (hpk)) ?_
 refine RS (ok_nilCheck rfl) ?_
 refine RS (ok_loadA (s := 1000202) (by decide) Try.underlying73 rfl (size73.of (hcs)) rfl rfl) ?_
 refine RN ?_
 refine ⟨_, _, eff_alloc (n := 49) (d := 9) (k := 1000009) zero73 (by decide), fun b9 hb9 => ?_⟩
 have hBb9 := hb9.1
 have hlt_bk_b9 : bk < b9 := hb9.2 1000202 _ _ _ rfl
 refine TF 8 ?_
 refine RN ?_
 refine ⟨_, eff_storeA (n := 49) (s := 1000009) (size73.of (hcs)) rfl rfl (hco) hBb9 rfl (by simp [hcs]) (LV 1 rfl (LV 3 rfl (LV 5 rfl (LV 6 rfl (LV 7 rfl (LV 8 rfl (LV 9 rfl (LT 1000003 rfl (LT 1000005 rfl (LT 1000006 rfl (LT 1000016 rfl (LO 1000200 rfl (LT 1000201 rfl (LB 1000202 rfl (LO 1000203 rfl (LO 1000204 rfl (LeftS.cons (t := 1000207) rfl (Surv.valM (Surv.vers (.inl (by decide)))) LN))))))))))))))))), ?_⟩
 refine TL ?_
 refine RN ?_
 refine A.sub (KC 1 rfl (KC 3 rfl (KC 5 rfl (KC 6 rfl (KC 7 rfl (KC 8 rfl (KC 9 rfl (KC 1000003 rfl (KC 1000005 rfl (KC 1000006 rfl (KC 1000009 rfl (KC 1000016 rfl (KC 1000200 rfl (KC 1000201 rfl (KC 1000202 rfl (KC 1000203 rfl (KC 1000204 rfl (KC 1000207 rfl KN)))))))))))))))))) ?_
 refine GD ?_
 refine RunTK.new 10 (by decide) rfl (.inr (by kernel_rfl)) ?_
 refine RM rfl ?_
 refine RS (ok_rem rfl rfl (by decide)) ?_; refine RZ (nI ((i) % 64)) (by rw [tmod_lit _ (by decide)]; rfl) ?_
 refine RS (ok_loadA (s := 1000005) (by decide) Try.underlying79 rfl (size79.of (rfl)) rfl rfl) ?_
 refine RS (OpOk.valP (k := 1000207) (ok_move rfl) (by decide) rfl) ?_
 refine RS (ok_call (vChanges_fn X (hisC S i)) (A1 rfl)) ?_
 refine RBS rfl rfl rfl (nI ((hisC S i).length + 1)) (wrap_eq (by omega) (by omega)) ?_
 refine RM rfl ?_
 refine RS (ok_litS [(0, aggV [.bool c.isSome, y]), (1, nI ((hisC S i).length + 1)), (2, z)] ([.bool c.isSome, y, nI ((hisC S i).length + 1), z]) ⟨rfl, rfl, rfl, rfl, rfl, rfl, trivial⟩ (buildVs _ _ _ _ hy1 hz1)) ?_
 refine RS (ok_boxF [b3, b5, b6, b9, b16, b, bk] rfl (Named.cons (s := 1000003) (by decide) rfl (Named.cons (s := 1000005) (by decide) rfl (Named.cons (s := 1000006) (by decide) rfl (Named.cons (s := 1000009) (by decide) rfl (Named.cons (s := 1000016) (by decide) rfl (Named.cons (s := 1000201) (by decide) rfl (Named.cons (s := 1000202) (by decide) rfl Named.nil)))))))) ?_
 refine RS (ok_index0 (i % 64) Try.underlying73 info71 rfl rfl (rfl) (Nat.mod_lt _ (by decide))) ?_
 refine RN ?_
 refine ⟨_, _, eff_storeV (n := 49) (s := 1000009) (k := 1000036) info71 rfl rfl (by decide) hBb9 rfl (by rw [hcs]; exact Nat.mod_lt _ (by decide)) (LV 1 rfl (LV 3 rfl (LV 6 rfl (LV 8 rfl (LV 9 rfl (LT 1000003 rfl (LT 1000005 rfl (LT 1000006 rfl (LT 1000016 rfl (LO 1000200 rfl (LT 1000201 rfl (LB 1000202 rfl (LO 1000203 rfl (LO 1000204 rfl (LeftS.cons (t := 1000207) rfl (Surv.valM (Surv.vers (.inl (by decide)))) LN))))))))))))))), fun bV hBbV => ?_⟩
 refine TL ?_
 refine RN ?_
 refine GS ?_
 refine TF 4 ?_
 refine RM rfl ?_
 refine RM rfl ?_
 refine RS (ok_div rfl rfl (by decide)) ?_; refine RZ (nI ((i) / 64)) (by rw [tdiv_lit _ (by decide)]; exact wrap_eq rfl (by first | omega | (simp only [Int.toNat]; omega))) ?_
 refine RS (ok_indexV (i / 64) Try.underlying25 info70 rfl rfl rfl hpl) ?_; refine RZ (.pointer (some ⟨b16, i / 64, none⟩)) (by rw [Nat.zero_add]) ?_
 refine RN ?_
 refine ⟨_, eff_storeS (n := 49) (s := 1000016) info70 rfl rfl rfl hBb16 rfl (hpl) (LV 3 rfl (LV 6 rfl (LV 8 rfl (LT 1000003 rfl (LT 1000005 rfl (LT 1000006 rfl (LT 1000009 rfl (LT 1000036 rfl (LO 1000200 rfl (LB 1000201 rfl (LT 1000202 rfl (LO 1000203 rfl (LO 1000204 rfl (LeftS.cons (t := 1000207) rfl (Surv.valM (Surv.vers (.inl (by decide)))) LN)))))))))))))), ?_⟩
 refine TL ?_
 refine RN ?_
 refine GS ?_
 refine TF 7 ?_
 refine RS (ok_field field27_0 (by decide) rfl) ?_
 refine RS (ok_loadV (s := 1000003) (by decide) Try.underlying3 rfl rfl rfl (rfl)) ?_
 refine RS (ok_field field27_1 (by decide) rfl) ?_
 refine RS (ok_loadV (s := 1000003) (by decide) Try.underlying3 rfl rfl rfl (rfl)) ?_
 refine RBS rfl rfl rfl (nI (totC S + 1)) (wrap_eq (by omega) (by omega)) ?_
 refine RM rfl ?_
 refine RS (ok_litS [(0, nI S.length), (1, nI (totC S + 1)), (2, .slice (some ⟨b16, 0, none⟩) ps.length ps.length)] ([nI S.length, nI (totC S + 1), .slice (some ⟨b16, 0, none⟩) ps.length ps.length]) ⟨rfl, rfl, rfl, rfl, rfl, rfl, trivial⟩ (buildDk _ _ _ rfl)) ?_
 refine RN ?_
 refine ⟨_, eff_storeA (n := 49) (s := 1000006) (size27.of (rfl)) rfl rfl (rfl) hBb6 rfl (rfl) (LV 6 rfl (LB 1000003 rfl (LT 1000005 rfl (LT 1000009 rfl (LT 1000016 rfl (LT 1000036 rfl (LO 1000200 rfl (LT 1000201 rfl (LT 1000202 rfl (LO 1000203 rfl (LO 1000204 rfl (LeftS.cons (t := 1000207) rfl (Surv.valM (Surv.vers (.inl (by decide)))) LN)))))))))))), ?_⟩
 refine TL ?_
 refine RN ?_
 refine A.ret ?_
 exact End.changed (kr := 1000006) (kp := 1000200) (k1 := 1000201) (k2 := 1000202) (ky := 1000204) (kz := 1000207) (k8 := 1000016) (k9 := 1000009) (kV := 1000036) rfl Try.underlying27 rfl size27 rfl rfl rfl rfl rfl hi hpk rfl hb hbk rfl rfl rfl rfl rfl hBb16 hBb9 hBbV
theorem dNew_lo (i : Int) (h : i < 1) : Fn Try.prog 9 [.v (.int .i64 (i))] (.v (.tuple #[aggV [nI 0, nI 0, .slice none 0 0], (.int .i64 (1))])) := by
 refine Fn.of Try.func9 rfl (by kernel_rfl) Try.ntmps9 (by simp) (fun w => [(0, .v (.int .i64 (i)))]) (fun w => (Start.v rfl Start.nil)) fun w₀ => ?_
 refine GS ?_
 refine TN 0 ?_
 refine RN ?_
 refine ⟨_, _, eff_alloc (n := 31) (d := 2) (k := 1000002) zero27 (by decide), fun b2 hb2 => ?_⟩
 have hBb2 := hb2.1
 refine TL ?_
 refine RA rfl ?_
 refine RN ?_
 refine A.seq ?_
 refine GS ?_
 refine TL ?_
 refine RM rfl ?_
 refine RBS rfl rfl rfl (.bool true) (congrArg Value.bool (by simp; omega)) ?_
 refine RM rfl ?_
 refine RK ?_
 refine RK ?_
 refine RP rfl rfl ?_
 refine RN ?_
 refine A.yes rfl ?_
 refine GS ?_
 refine TF 1 ?_
 refine RS (ok_lit [] ([.int .i64 0] ++ [.int .i64 0] ++ [.slice none 0 0]) (fun _ _ => rfl) (by kernel_rfl)) ?_
 refine RN ?_
 refine ⟨_, eff_storeA (n := 31) (s := 1000002) (size27.of (rfl)) rfl rfl (rfl) hBb2 rfl (rfl) (LV 2 rfl LN), ?_⟩
 refine TL ?_
 refine RA rfl ?_
 refine RN ?_
 refine A.ret ?_
 refine End.ret_then ?_
 exact End.cellV (s := 1000002) rfl Try.underlying27 rfl (size27.of rfl) rfl rfl rfl
theorem dNew_hi (i : Int) (h : 10922 < i) : Fn Try.prog 9 [.v (.int .i64 (i))] (.v (.tuple #[aggV [nI 0, nI 0, .slice none 0 0], (.int .i64 (1))])) := by
 refine Fn.of Try.func9 rfl (by kernel_rfl) Try.ntmps9 (by simp) (fun w => [(0, .v (.int .i64 (i)))]) (fun w => (Start.v rfl Start.nil)) fun w₀ => ?_
 refine GS ?_
 refine TN 0 ?_
 refine RN ?_
 refine ⟨_, _, eff_alloc (n := 31) (d := 2) (k := 1000002) zero27 (by decide), fun b2 hb2 => ?_⟩
 have hBb2 := hb2.1
 refine TL ?_
 refine RA rfl ?_
 refine RN ?_
 refine A.seq ?_
 refine GS ?_
 refine TL ?_
 refine RM rfl ?_
 refine RBS rfl rfl rfl (.bool false) (congrArg Value.bool (by simp; omega)) ?_
 refine RM rfl ?_
 refine RQ (ok_move rfl) ?_
 refine RQ (ok_bin rfl rfl rfl) ?_; refine RZ (.bool true) (congrArg Value.bool (by simp; omega)) ?_
 refine RP rfl rfl ?_
 refine RN ?_
 refine A.yes rfl ?_
 refine GS ?_
 refine TF 1 ?_
 refine RS (ok_lit [] ([.int .i64 0] ++ [.int .i64 0] ++ [.slice none 0 0]) (fun _ _ => rfl) (by kernel_rfl)) ?_
 refine RN ?_
 refine ⟨_, eff_storeA (n := 31) (s := 1000002) (size27.of (rfl)) rfl rfl (rfl) hBb2 rfl (rfl) (LV 2 rfl LN), ?_⟩
 refine TL ?_
 refine RA rfl ?_
 refine RN ?_
 refine A.ret ?_
 refine End.ret_then ?_
 exact End.cellV (s := 1000002) rfl Try.underlying27 rfl (size27.of rfl) rfl rfl rfl
set_option maxHeartbeats 1000000 in
theorem dNew_ok (m : Nat) (h1 : 1 ≤ m) (h2 : m ≤ 10922) : Fn Try.prog 9 [.v (nI (m))] (tup [diskD dT X0 (List.replicate m []), .v (.int .i64 0)]) := by
 obtain ⟨np, hnp⟩ : ∃ np, np = (m + 63) / 64 := ⟨_, rfl⟩
 refine Fn.of Try.func9 rfl (by kernel_rfl) Try.ntmps9 (by simp) (fun w => [(0, .v (nI (m)))]) (fun w => (Start.v rfl Start.nil)) fun w₀ => ?_
 refine GS ?_
 refine TN 0 ?_
 refine RN ?_
 refine ⟨_, _, eff_alloc (n := 31) (d := 2) (k := 1000002) zero27 (by decide), fun b2 hb2 => ?_⟩
 have hBb2 := hb2.1
 refine TL ?_
 refine RA rfl ?_
 refine RN ?_
 refine A.seq ?_
 refine GS ?_
 refine TL ?_
 refine RM rfl ?_
 refine RBS rfl rfl rfl (.bool false) (congrArg Value.bool (by simp; omega)) ?_
 refine RM rfl ?_
 refine RQ (ok_move rfl) ?_
 refine RQ (ok_bin rfl rfl rfl) ?_; refine RZ (.bool false) (congrArg Value.bool (by simp; omega)) ?_
 refine RP rfl rfl ?_
 refine RN ?_
 refine A.no rfl ?_
 refine A.skip ?_
 refine EN ?_
 refine GS ?_
 refine TN 4 ?_
 refine RM rfl ?_
 refine RBS rfl rfl rfl (nI (m + 64)) (wrap_eq (by omega) (by omega)) ?_
 refine RBS rfl rfl rfl (nI (m + 63)) (wrap_eq (by omega) (by omega)) ?_
 refine RS (ok_div rfl rfl (by decide)) ?_; refine RZ (nI (np)) (by rw [hnp, tdiv_lit _ (by decide)]; exact wrap_eq rfl (by first | omega | (simp only [Int.toNat]; omega))) ?_
 refine RN ?_
 refine ⟨_, _, eff_nameF (c := np) (by simp) (n := 31) (d := 17) (k := 1000017) rfl rfl (fun B' => ok_make np Try.underlying25 info70 (by decide) rfl rfl rfl rfl rfl (by omega)) (by decide) (by decide), fun b17 hb17 => ?_⟩
 have hBb17 := hb17.1
 have hlt_b2_b17 : b2 < b17 := hb17.2 1000002 _ _ _ rfl
 refine TL ?_
 refine RA rfl ?_
 refine RN ?_
 refine A.seq ?_
 refine GS ?_
 refine TL ?_
 refine RM rfl ?_
 refine RS (ok_lenV Try.underlying25 rfl) ?_
 refine RM rfl ?_
 refine RN ?_
 refine A.noNil (k := 1000300) (m := 64) 73 ?_
 refine A.block ?_
 refine A.loop (ι := List Nat) (fun bs => bs.length ≤ np) (fun bs => [(0, .v (nI (m))), (2, .v (ptr b2)), (4, .v (.slice (some ⟨b17, 0, none⟩) np np)), (19, .v (nI (np))), (20, .v (nI (bs.length))), (1000002, blk b2 27 [nI 0, nI 0, .slice none 0 0]), (1000017, blk b17 70 (ptrs bs ++ List.replicate (np - bs.length) (Value.pointer none))), (1000300, nilsM 73 64 bs)]) (fun bs => np - bs.length) [] ?_ ?_ ?_
 ·exact Nat.zero_le _
 ·exact (KC 0 rfl (KC 2 rfl (KC 4 rfl (KC 19 rfl (KE 20 rfl (by rfl) (KC 1000002 rfl (KE 1000017 rfl (by simp [ptrs]) (KC 1000300 rfl KN))))))))
 intro bs hG
 refine GS ?_
 refine TL ?_
 refine RB rfl rfl rfl ?_
 refine RN ?_
 refine A.seq ?_
 refine A.cond rfl (fun hc21 => ?_) (fun hc21 => ?_)
 ·have hi : bs.length < np := by simp at hc21; omega
  refine A.skip ?_
  refine EN ?_
  refine A.seq ?_
  refine A.block ?_
  refine GS ?_
  refine TL ?_
  refine RM rfl ?_
  refine RA rfl ?_
  refine RN ?_
  refine GE ?_
  refine TN 2 ?_
  refine RM rfl ?_
  refine RM rfl ?_
  refine RN ?_
  refine ⟨_, _, eff_alloc (n := 31) (d := 25) (k := 1000025) zero73 (by decide), fun b25 hb25 => ?_⟩
  have hBb25 := hb25.1
  refine TF 4 ?_
  refine RS (ok_indexV bs.length Try.underlying25 info70 rfl rfl rfl hi) ?_; refine RZ (.pointer (some ⟨b17, bs.length, none⟩)) (by rw [Nat.zero_add]) ?_
  refine RN ?_
  refine ⟨_, eff_storeS (n := 31) (s := 1000017) info70 rfl rfl rfl hBb17 rfl (by rw [List.length_append, ptrs_len, List.length_replicate]; omega) (LV 0 rfl (LV 2 rfl (LV 4 rfl (LV 19 rfl (LV 20 rfl (LT 1000002 rfl (LT 1000025 rfl (LeftS.cons (t := 1000300) rfl (Surv.nils (by decide)) LN)))))))), ?_⟩
  refine TL ?_
  refine RN ?_
  refine End.sub (KC 0 rfl (KC 2 rfl (KC 4 rfl (KC 19 rfl (KC 20 rfl (KC 1000002 rfl (KE 1000017 rfl (show _ = blk b17 70 (ptrs (bs ++ [b25]) ++ List.replicate (np - (bs ++ [b25]).length) (Value.pointer none)) from congrArg _ (ptrs_set hi)) (KC 1000025 rfl (KC 1000300 rfl KN))))))))) ?_
  refine End.addNil (k := 1000300) (kb := 1000025) rfl rfl ?_
  refine End.normal_block ?_
  refine EN ?_
  refine GE ?_
  refine TL ?_
  refine RBS rfl rfl rfl (nI (bs.length + 1)) (wrap_eq (by omega) (by omega)) ?_
  refine RM rfl ?_
  refine RN ?_
  refine End.normal_then ?_
  refine End.again (bs ++ [b25]) ?_ ?_ ?_
  ·show (bs ++ [b25]).length ≤ np; simp; omega
  ·show np - (bs ++ [b25]).length < np - bs.length; simp; omega
  ·exact (KC 0 rfl (KC 2 rfl (KC 4 rfl (KC 19 rfl (KE 20 rfl (by simp) (KC 1000002 rfl (KC 1000017 rfl (KC 1000300 rfl KN))))))))
 ·have hi2 : bs.length = np := by simp at hc21; omega
  refine A.exit ?_
  refine End.exit_then ?_
  refine End.exit_then ?_
  refine End.exit_here ?_
  refine EN ?_
  refine GS ?_
  refine TF 3 ?_
  refine RM rfl ?_
  refine RM rfl ?_
  refine RS (ok_litS [(0, nI m), (2, .slice (some ⟨b17, 0, none⟩) np np)] ([nI m, nI 0, .slice (some ⟨b17, 0, none⟩) np np]) ⟨rfl, rfl, rfl, rfl, trivial⟩ (buildDk0 _ _ rfl)) ?_
  refine RN ?_
  refine ⟨_, eff_storeA (n := 31) (s := 1000002) (size27.of (rfl)) rfl rfl (rfl) hBb2 rfl (rfl) (LV 2 rfl (LT 1000017 rfl (LeftS.cons (t := 1000300) rfl (Surv.nils (by decide)) LN))), ?_⟩
  refine TL ?_
  refine RA rfl ?_
  refine RN ?_
  refine A.ret ?_
  subst hi2
  exact End.newDk (kr := 1000002) (k := 1000300) (k1 := 1000017) rfl Try.underlying27 rfl size27 rfl rfl rfl rfl (by simp) rfl hnp
end Go.Proofs.Ytdhbhcbkhkopbaa
