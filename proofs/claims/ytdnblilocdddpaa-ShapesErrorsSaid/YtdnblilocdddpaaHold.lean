/-
  OWN WORDS: structs whose first field is a slice; new blocks that are named where they are made; rows of values of any kind; clear. Nothing of one program stands here.
-/
import Derived.Test.YtdnblilocdddpaaFlat
import Derived.Test.YtdnblilocdddpaaCalls
import Derived.Test.YtdnblilocdddpaaMore
import Derived.Test.YtdnblilocdddpaaAny
import Derived.Lib.SliceRun
namespace Go.Proofs.Ytdnblilocdddpaa
open Go Go.RowKit
variable {κ : Cx}

/-! ### Slices of values that are known -/
def vlist (us : List Value) (c : Nat) : D := list (us.map D.v) c
def vlst (us : List Value) : D := lst (us.map D.v)
theorem le_vlst (us : List Value) (c : Nat) : Le (vlist us c) (vlst us) := le_lst _ c
theorem vlist_open {us : List Value} {c B : Nat} {w : World} {x : Value} (h : (vlist us c).OfB B w x) : ∃ A, x = .slice A us.length c ∧ us.length ≤ c ∧ c ≤ maxLen ∧ RowIn B w A us := by
  obtain ⟨A, vs, h1, h2, h3, h4, h5, h6⟩ := h
  simp only [List.length_map] at h1 h2 h4
  have : vs = us := by
    apply List.ext_getElem?
    intro j
    rcases Nat.lt_or_ge j us.length with hj | hj
    · have hu : vs[j]? = some vs[j] := List.getElem?_eq_getElem (by omega)
      have h7 : vs[j] = us[j] := h6 j (.v us[j]) vs[j] (by simp [hj]) hu
      rw [hu, h7]; simp [hj]
    · rw [List.getElem?_eq_none (by omega), List.getElem?_eq_none hj]
  subst this
  exact ⟨A, h1, h2, h3, h5⟩
theorem vlist_mk {us : List Value} {c B : Nat} {w : World} {A : Option Addr} (h1 : us.length ≤ c) (h2 : c ≤ maxLen) (h : RowIn B w A us) : (vlist us c).OfB B w (.slice A us.length c) :=
  ⟨A, us, by simp, by simpa using h1, h2, by simp, h, fun j d u hd hu => by
    simp only [List.getElem?_map, hu, Option.map_some, Option.some.injEq] at hd
    subst hd; rfl⟩
theorem vlst_get {us : List Value} {i : Nat} {u : Value} (h : us[i]? = some u) : (us.map D.v)[i]? = some (.v u) := by rw [List.getElem?_map, h]; rfl
/-- A slice over a block that is known whole. -/
theorem slice_vlist {b n c : Nat} {e : TypeId} {xs : List Value} (us : List Value) (hn : n = us.length) (hc : n ≤ c) (hm : c ≤ maxLen) (hl : xs.take n = us) (B : Nat) (w : World) (hb : b < B) (hh : w.heap[b]? = some (.cells xs.toArray e (0, 0))) : (vlist us c).OfB B w (.slice (some ⟨b, 0, none⟩) n c) := by
  subst hn
  refine vlist_mk hc hm ?_
  rw [← hl]
  exact blk_row hb hh _

/-! ### Structs whose first field is told by a fact -/
def hdD (f : D) (rest : List Value) : D :=
  .p (fun B w x => ∃ v : Value, v.oneCell' = true ∧ x = aggV (v :: rest) ∧ f.OfB B w v) (fun _ _ _ _ g ⟨v, h1, h2, h3⟩ => ⟨v, h1, h2, h3.keep g⟩) (fun _ _ _ _ g ⟨v, h1, h2, h3⟩ => ⟨v, h1, h2, h3.up g⟩)
theorem hd_le {f f' : D} {rest : List Value} (h : Le f f') : Le (hdD f rest) (hdD f' rest) := fun _ _ _ ⟨v, h1, h2, h3⟩ => ⟨v, h1, h2, h _ _ _ h3⟩
theorem hd_of {b n c : Nat} {e : TypeId} {xs : List Value} (us rest : List Value) (hn : n = us.length) (hc : n ≤ c) (hm : c ≤ maxLen) (hl : xs.take n = us) (B : Nat) (w : World) (hb : b < B) (hh : w.heap[b]? = some (.cells xs.toArray e (0, 0))) :
    (hdD (vlist us c) rest).OfB B w (aggV (.slice (some ⟨b, 0, none⟩) n c :: rest)) := ⟨_, rfl, rfl, slice_vlist us hn hc hm hl B w hb hh⟩
theorem hd_ofL {b n c : Nat} {e : TypeId} {xs : List Value} (us rest : List Value) (hn : n = us.length) (hc : n ≤ c) (hm : c ≤ maxLen) (hl : xs.take n = us) (B : Nat) (w : World) (hb : b < B) (hh : w.heap[b]? = some (.cells xs.toArray e (0, 0))) :
    (hdD (vlst us) rest).OfB B w (aggV (.slice (some ⟨b, 0, none⟩) n c :: rest)) := hd_le (le_vlst us c) _ _ _ (hd_of us rest hn hc hm hl B w hb hh)
section
variable {P : Program} {w₀ : World} {n : Nat} {c : Code} {E : Env} {Q : Exit → Act → World → Prop}
theorem A.nameHd {t k B' : Nat} {f : D} {rest : List Value} (ht : E.look t = some (old B' (hdD f rest))) (h : ∀ v : Value, v.oneCell' = true → A κ P w₀ n c ((t, .v (aggV (v :: rest))) :: (k, old B' (valM v f)) :: E) Q) : A κ P w₀ n c E Q := fun a w g hs => by
  obtain ⟨hB, v, h1, h2, h3⟩ := hs.of t _ ht
  exact h v h1 a w g ((hs.push (t := k) (d := old B' (valM v f)) ⟨hB, h3⟩).push (d := .v _) h2)
end
section
variable {P : Program} {B : Nat} {E : Env} {o : Oper}
theorem OpOk.valO {v : Value} {f : D} {k B' : Nat} (h : OpOk P B o E (.v v)) (hk : vbase ≤ k) (hl : E.look k = some (old B' (valM v f))) : OpOk P B o E (old B' f) := fun ρ w hB hv hρ => by
  refine (h ρ w hB hv hρ).mono fun x w' hx => ⟨hx.1, ?_⟩
  have h2 : (old B' (valM v f)).Of w' undef := D.Of.grow (hv k _ hk hl) hx.1
  rw [show x = v from hx.2]
  exact h2
theorem OpOk.hdO {v : Value} {f : D} {k B' : Nat} {rest : List Value} (h : OpOk P B o E (.v (aggV (v :: rest)))) (hv1 : v.oneCell' = true) (hk : vbase ≤ k) (hl : E.look k = some (old B' (valM v f))) : OpOk P B o E (old B' (hdD f rest)) := fun ρ w hB hv hρ => by
  refine (h ρ w hB hv hρ).mono fun x w' hx => ⟨hx.1, ?_⟩
  have h2 : (old B' (valM v f)).Of w' undef := D.Of.grow (hv k _ hk hl) hx.1
  rw [show x = _ from hx.2]
  exact ⟨h2.1, v, hv1, rfl, h2.2⟩
theorem OpOk.valP {v : Value} {f : D} {k : Nat} (h : OpOk P B o E (.v v)) (hk : vbase ≤ k) (hl : E.look k = some (valM v f)) : OpOk P B o E f := fun ρ w hB hv hρ => by
  refine (h ρ w hB hv hρ).mono fun x w' hx => ⟨hx.1, ?_⟩
  have h2 : (valM v f).Of w' undef := D.Of.grow (hv k _ hk hl) hx.1
  rw [show x = v from hx.2]
  exact h2
theorem OpOk.hdP {v : Value} {f : D} {k : Nat} {rest : List Value} (h : OpOk P B o E (.v (aggV (v :: rest)))) (hv1 : v.oneCell' = true) (hk : vbase ≤ k) (hl : E.look k = some (valM v f)) : OpOk P B o E (hdD f rest) := fun ρ w hB hv hρ => by
  refine (h ρ w hB hv hρ).mono fun x w' hx => ⟨hx.1, ?_⟩
  have h2 : (valM v f).Of w' undef := D.Of.grow (hv k _ hk hl) hx.1
  rw [show x = _ from hx.2]
  exact ⟨v, hv1, rfl, h2⟩
theorem OpOk.asV' {x y : Value} (h : OpOk P B o E (.v y)) (he : y = x) : OpOk P B o E (.v x) := he ▸ h
variable {dst : Option Tmp} {ty : TypeId} {pos : String} {after : Array Edge} {guard : Option (Nat × Bool)}
theorem ok_extractV {x : Operand} {i : Nat} {xs : List Value} {u : Value} (hx : E.at x = some (.v (.tuple xs.toArray))) (hi : xs[i]? = some u) : OpOk P B ⟨dst, .extract x i, ty, pos, after, guard⟩ E (.v u) := fun ρ w _ _ hρ => by
  have h1 : ρ x = .tuple xs.toArray := hρ x (by simp [Op.operands]) _ hx
  exact out_val (x := u) (w' := w) (by simp [execOp, h1, Instr.extract, hi]) ⟨Grow.refl w, rfl⟩
theorem ok_sgt {t t' : TypeId} {x y : Operand} {a b : List UInt8} (hx : E.at x = some (str a)) (hy : E.at y = some (str b)) : OpOk P B ⟨dst, .binOp .gtr t x y t', ty, pos, after, guard⟩ E (.v (.bool (!Op.bytesLess a b && !(a == b)))) := fun ρ w _ _ hρ => by
  have h1 : ρ x = .string ⟨a.toArray⟩ := hρ x (by simp [Op.operands]) _ hx
  have h2 : ρ y = .string ⟨b.toArray⟩ := hρ y (by simp [Op.operands]) _ hy
  exact out_val (x := .bool (!Op.bytesLess a b && !(a == b))) (w' := w) (by simp [execOp, h1, h2, eqGuard, binOp, Op.stringOp]) ⟨Grow.refl w, rfl⟩
/-- A struct literal whose first field is a slice known by a fact. -/
theorem ok_buildH {t : TypeId} {x : Operand} {ps : Array (Nat × Operand)} {f : D} {rest : List Value} {ks : List (Nat × Value)} {l : List (Nat × Operand)} (hps : ps.toList = (0, x) :: l) (hx : E.at x = some f) (hf : ∀ B w u, f.OfB B w u → ∃ A m c, u = .slice A m c)
    (hl : ∀ ρ : Operand → Value, (∀ y, y ∈ l.map (·.2) → ∀ v, E.at y = some (.v v) → ρ y = v) → l.map (fun p => (p.1, ρ p.2)) = ks) (hb : ∀ A m c, P.built t ((0, .slice A m c) :: ks) = some (Value.slice A m c :: rest : List Value).toArray) :
    OpOk P B ⟨dst, .build t ps, ty, pos, after, guard⟩ E (hdD f rest) := fun ρ w _ _ hρ => by
  have hfx := hρ x (by simp [Op.operands, hps]) _ hx
  obtain ⟨A, m, c, h1⟩ := hf _ _ _ hfx
  have h3 := hl ρ fun y hy v hv => hρ y (by
    simp only [Op.operands, hps, List.map_cons]
    simpa using Or.inr hy) _ hv
  have h2 : (ps.map fun (i, x) => (i, ρ x)).toList = (0, .slice A m c) :: ks := by rw [← h3]; simp [hps, h1]
  have := run_build (P := P) w t (ps.map fun (i, x) => (i, ρ x)) _ (by rw [h2]; exact hb A m c)
  exact out_val (x := aggV (.slice A m c :: rest)) (w' := w) (by simp [execOp, this, aggV]) ⟨Grow.refl w, .slice A m c, rfl, rfl, by rw [← h1]; exact hfx⟩
end

/-! ### New blocks, named where they are made -/
def newD (base : Nat) (e : TypeId) (val : Nat → Value) (xs : List Value) : D :=
  .p (fun B w x => ∃ b, x = val b ∧ base ≤ b ∧ b < B ∧ w.heap[b]? = some (.cells xs.toArray e (0, 0)))
    (fun _ _ _ _ g ⟨b, h1, h2, h3, h4⟩ => ⟨b, h1, h2, h3, (g.block b h3).trans h4⟩) (fun _ _ _ _ g ⟨b, h1, h2, h3, h4⟩ => ⟨b, h1, h2, by omega, h4⟩)
theorem newD_mono {e : TypeId} {val : Nat → Value} {xs : List Value} (B B' : Nat) (h : B ≤ B') : Le (newD B' e val xs) (newD B e val xs) := fun _ _ _ ⟨b, h1, h2, h3, h4⟩ => ⟨b, h1, by omega, h3, h4⟩
theorem fresh_newD {B : Nat} {e : TypeId} {xs : List Value} {n : Nat} : Le (fresh B e xs n) (newD B e (fun b => .slice (some ⟨b, 0, none⟩) n xs.length) xs) := fun _ _ _ ⟨b, h1, h2, h3, h4⟩ => ⟨b, h1, h2, h3, h4⟩
theorem eff_name {P : Program} {n B : Nat} {ops : Array Oper} {E : Env} {o : Oper} {d k : Nat} {e : TypeId} {val : Nat → Value} {xs : List Value} (ht : o.dst = some d) (hg : o.guard = none) (hok : ∀ B', OpOk P B' o E (newD B' e val xs)) (hdn : d < n) (hnv : n ≤ vbase) :
    EffG P n B ops o E (NewB B E) (fun b => (d, .v (val b)) :: (k, blk b e xs) :: E) := by
  intro κ a w K Q h hK
  rw [if_pos (by simp [Region.wanted, hg])]
  refine wp_of_out ht ((hok w.heap.size a.eval w (Nat.le_refl _) (h.virt hnv) fun x _ u hu => h.at_ x _ hu).mono ?_)
  rintro x w' ⟨hgr, b, rfl, hb, hlt, hh⟩
  refine hK b _ _ ⟨Nat.le_trans h.base hb, fun s b' e ys hs => Nat.lt_of_lt_of_le (h.of s _ hs).1 hb⟩ (Below.mono hgr h.base) (St.put ?_ hdn rfl)
  exact (h.grow hgr).push (t := k) (d := blk b e xs) ⟨hlt, hh⟩
theorem eff_nameF {P : Program} {n B : Nat} {ops : Array Oper} {E : Env} {o : Oper} {d k m : Nat} {e : TypeId} {xs : List Value} {c : Nat} (hc : xs.length = c) (ht : o.dst = some d) (hg : o.guard = none) (hok : ∀ B', OpOk P B' o E (fresh B' e xs m)) (hdn : d < n) (hnv : n ≤ vbase) :
    EffG P n B ops o E (NewB B E) (fun b => (d, .v (.slice (some ⟨b, 0, none⟩) m c)) :: (k, blk b e xs) :: E) := hc ▸ eff_name ht hg (fun B' => (hok B').le fresh_newD) hdn hnv

/-! ### Ends -/
section
variable {P : Program} {n : Nat} {w₀ : World} {E : Env}
theorem load_cell {w : World} {b : Nat} {e T : TypeId} {td : TypeDesc} {xs : List Value} (ht : P.underlying T = some td) (hp : (match td with | .struct _ | .array _ _ => true | _ => false) = true) (hsz : SizeIs P T xs.length) (hh : w.heap[b]? = some (.cells xs.toArray e (0, 0))) :
    (loadVar T ⟨b, 0, none⟩).run P w = .ok (aggV xs) w := by
  have := run_loadVar_row (P := P) w b e T xs.toArray (0, 0) td hh ht hp (by simpa [SizeIs] using hsz)
  simpa [aggV] using this
theorem End.new1 {fn : Func} {r s b g kg : Nat} {T e' e : TypeId} {td : TypeDesc} {ys zs xs : List Value} {val : Nat → Value} (hr : fn.results = #[.cell r T]) (ht : P.underlying T = some td) (hp : (match td with | .struct _ | .array _ _ => true | _ => false) = true) (hsz : SizeIs P T ys.length)
    (h1 : E.look r = some (.v (.pointer (some ⟨b, 0, none⟩)))) (h2 : E.look s = some (blk b e' ys)) (h4 : E.look kg = some (blk g e zs)) (hg : w₀.heap.size ≤ g) (hv : val g = aggV ys) (hz : zs = xs) :
    End Cx.top w₀ n E (BP P fn (PostOf w₀ (newD w₀.heap.size e val xs)) .ret) := fun a w gr hs => by
  subst hz
  have h3 : a.tmps[r]?.getD undef = .pointer (some ⟨b, 0, none⟩) := by rw [← Array.getD_eq_getD_getElem?]; exact hs.of r _ h1
  obtain ⟨_, hh⟩ := hs.of s _ h2
  obtain ⟨hl', hh'⟩ := hs.of kg _ h4
  exact BP.ret hs.defers ⟨aggV ys, by simp [results, hr, h3, asAddr, load_cell ht hp hsz hh], _, rfl, gr, g, hv.symm, hg, hl', hh'⟩
theorem End.newT {fn : Func} {r s b g kg r' : Nat} {T e' e : TypeId} {td : TypeDesc} {ys zs xs : List Value} {v' : Value} {val : Nat → Value} (hr : fn.results = #[.cell r T, .tmp r']) (ht : P.underlying T = some td) (hp : (match td with | .struct _ | .array _ _ => true | _ => false) = true) (hsz : SizeIs P T ys.length)
    (h1 : E.look r = some (.v (.pointer (some ⟨b, 0, none⟩)))) (h2 : E.look s = some (blk b e' ys)) (h5 : E.look r' = some (.v v')) (h4 : E.look kg = some (blk g e zs)) (hg : w₀.heap.size ≤ g) (hv : val g = .tuple #[aggV ys, v']) (hz : zs = xs) :
    End Cx.top w₀ n E (BP P fn (PostOf w₀ (newD w₀.heap.size e val xs)) .ret) := fun a w gr hs => by
  subst hz
  have h3 : a.tmps[r]?.getD undef = .pointer (some ⟨b, 0, none⟩) := by rw [← Array.getD_eq_getD_getElem?]; exact hs.of r _ h1
  have h6 : a.tmps[r']?.getD undef = v' := by rw [← Array.getD_eq_getD_getElem?]; exact hs.of r' _ h5
  obtain ⟨_, hh⟩ := hs.of s _ h2
  obtain ⟨hl', hh'⟩ := hs.of kg _ h4
  exact BP.ret hs.defers ⟨.tuple #[aggV ys, v'], by simp [results, hr, h3, h6, asAddr, load_cell ht hp hsz hh], _, rfl, gr, g, hv.symm, hg, hl', hh'⟩
theorem End.new3 {fn : Func} {r s b r₂ s₂ b₂ g kg r' : Nat} {T e' T₂ e₂ e : TypeId} {td td₂ : TypeDesc} {us ys zs xs : List Value} {v' : Value} {val : Nat → Value} (hr : fn.results = #[.cell r T, .cell r₂ T₂, .tmp r'])
    (ht : P.underlying T = some td) (hp : (match td with | .struct _ | .array _ _ => true | _ => false) = true) (hsz : SizeIs P T us.length) (ht₂ : P.underlying T₂ = some td₂) (hp₂ : (match td₂ with | .struct _ | .array _ _ => true | _ => false) = true) (hsz₂ : SizeIs P T₂ ys.length)
    (h1 : E.look r = some (.v (.pointer (some ⟨b, 0, none⟩)))) (h2 : E.look s = some (blk b e' us)) (h1₂ : E.look r₂ = some (.v (.pointer (some ⟨b₂, 0, none⟩)))) (h2₂ : E.look s₂ = some (blk b₂ e₂ ys)) (h5 : E.look r' = some (.v v'))
    (h4 : E.look kg = some (blk g e zs)) (hg : w₀.heap.size ≤ g) (hv : val g = .tuple #[aggV us, aggV ys, v']) (hz : zs = xs) :
    End Cx.top w₀ n E (BP P fn (PostOf w₀ (newD w₀.heap.size e val xs)) .ret) := fun a w gr hs => by
  subst hz
  have h3 : a.tmps[r]?.getD undef = .pointer (some ⟨b, 0, none⟩) := by rw [← Array.getD_eq_getD_getElem?]; exact hs.of r _ h1
  have h3₂ : a.tmps[r₂]?.getD undef = .pointer (some ⟨b₂, 0, none⟩) := by rw [← Array.getD_eq_getD_getElem?]; exact hs.of r₂ _ h1₂
  have h6 : a.tmps[r']?.getD undef = v' := by rw [← Array.getD_eq_getD_getElem?]; exact hs.of r' _ h5
  obtain ⟨_, hh⟩ := hs.of s _ h2
  obtain ⟨_, hh₂⟩ := hs.of s₂ _ h2₂
  obtain ⟨hl', hh'⟩ := hs.of kg _ h4
  exact BP.ret hs.defers ⟨.tuple #[aggV us, aggV ys, v'], by simp [results, hr, h3, h3₂, h6, asAddr, load_cell ht hp hsz hh, load_cell ht₂ hp₂ hsz₂ hh₂], _, rfl, gr, g, hv.symm, hg, hl', hh'⟩
/-- The same of three values that are all known. -/
theorem End.cell3 {fn : Func} {r s b r₂ s₂ b₂ r' : Nat} {T e' T₂ e₂ : TypeId} {td td₂ : TypeDesc} {us ys : List Value} {v' : Value} (hr : fn.results = #[.cell r T, .cell r₂ T₂, .tmp r'])
    (ht : P.underlying T = some td) (hp : (match td with | .struct _ | .array _ _ => true | _ => false) = true) (hsz : SizeIs P T us.length) (ht₂ : P.underlying T₂ = some td₂) (hp₂ : (match td₂ with | .struct _ | .array _ _ => true | _ => false) = true) (hsz₂ : SizeIs P T₂ ys.length)
    (h1 : E.look r = some (.v (.pointer (some ⟨b, 0, none⟩)))) (h2 : E.look s = some (blk b e' us)) (h1₂ : E.look r₂ = some (.v (.pointer (some ⟨b₂, 0, none⟩)))) (h2₂ : E.look s₂ = some (blk b₂ e₂ ys)) (h5 : E.look r' = some (.v v')) :
    End Cx.top w₀ n E (BP P fn (PostOf w₀ (.v (.tuple #[aggV us, aggV ys, v']))) .ret) := fun a w gr hs => by
  have h3 : a.tmps[r]?.getD undef = .pointer (some ⟨b, 0, none⟩) := by rw [← Array.getD_eq_getD_getElem?]; exact hs.of r _ h1
  have h3₂ : a.tmps[r₂]?.getD undef = .pointer (some ⟨b₂, 0, none⟩) := by rw [← Array.getD_eq_getD_getElem?]; exact hs.of r₂ _ h1₂
  have h6 : a.tmps[r']?.getD undef = v' := by rw [← Array.getD_eq_getD_getElem?]; exact hs.of r' _ h5
  obtain ⟨_, hh⟩ := hs.of s _ h2
  obtain ⟨_, hh₂⟩ := hs.of s₂ _ h2₂
  exact BP.ret hs.defers ⟨.tuple #[aggV us, aggV ys, v'], by simp [results, hr, h3, h3₂, h6, asAddr, load_cell ht hp hsz hh, load_cell ht₂ hp₂ hsz₂ hh₂], _, rfl, gr, rfl⟩
theorem End.cellV {fn : Func} {r s b r' : Nat} {T e' : TypeId} {td : TypeDesc} {ys : List Value} {v' : Value} (hr : fn.results = #[.cell r T, .tmp r']) (ht : P.underlying T = some td) (hp : (match td with | .struct _ | .array _ _ => true | _ => false) = true) (hsz : SizeIs P T ys.length)
    (h1 : E.look r = some (.v (.pointer (some ⟨b, 0, none⟩)))) (h2 : E.look s = some (blk b e' ys)) (h5 : E.look r' = some (.v v')) : End Cx.top w₀ n E (BP P fn (PostOf w₀ (.v (.tuple #[aggV ys, v']))) .ret) := fun a w gr hs => by
  have h3 : a.tmps[r]?.getD undef = .pointer (some ⟨b, 0, none⟩) := by rw [← Array.getD_eq_getD_getElem?]; exact hs.of r _ h1
  have h6 : a.tmps[r']?.getD undef = v' := by rw [← Array.getD_eq_getD_getElem?]; exact hs.of r' _ h5
  obtain ⟨_, hh⟩ := hs.of s _ h2
  exact BP.ret hs.defers ⟨.tuple #[aggV ys, v'], by simp [results, hr, h3, h6, asAddr, load_cell ht hp hsz hh], _, rfl, gr, rfl⟩
/-- A function value that holds one variable of several cells. -/
theorem End.newF {fn : Func} {r g kg : Nat} {e : TypeId} {zs xs : List Value} {v : Value} {val : Nat → Value} (hr : fn.results = #[.tmp r]) (h1 : E.look r = some (.v v)) (h4 : E.look kg = some (blk g e zs)) (hg : w₀.heap.size ≤ g) (hv : val g = v) (hz : zs = xs) :
    End Cx.top w₀ n E (BP P fn (PostOf w₀ (newD w₀.heap.size e val xs)) .ret) := fun a w gr hs => by
  subst hz
  obtain ⟨hl', hh'⟩ := hs.of kg _ h4
  exact BP.ret hs.defers ⟨a.tmps.getD r undef, by simp [results, hr], _, rfl, gr, g, by rw [hv]; exact hs.of r _ h1, hg, hl', hh'⟩
/-- Two values, both known. -/
theorem End.ret2V {fn : Func} {r s : Nat} {u v : Value} (hr : fn.results = #[.tmp r, .tmp s]) (h1 : E.look r = some (.v u)) (h2 : E.look s = some (.v v)) : End Cx.top w₀ n E (BP P fn (PostOf w₀ (.v (.tuple #[u, v]))) .ret) := fun a w gr hs => by
  have h3 : a.tmps[r]?.getD undef = u := by rw [← Array.getD_eq_getD_getElem?]; exact hs.of r _ h1
  have h4 : a.tmps[s]?.getD undef = v := by rw [← Array.getD_eq_getD_getElem?]; exact hs.of s _ h2
  exact BP.ret hs.defers ⟨.tuple #[u, v], by simp [results, hr, h3, h4], _, rfl, gr, rfl⟩
end

/-! ### copy, clear -/
section
variable {P : Program} {n B : Nat} {ops : Array Oper} {E : Env} {ty : TypeId} {pos : String} {after : Array Edge}
/-- copy of a whole slice over the head of a block that is known. -/
theorem eff_copyV {t e : TypeId} {z : Value} {nb : Nat} {r x : Operand} {b dn dc s dst : Nat} {f : D} {us : List Value} {e' : TypeId} {xs : List Value} {E' : Env} (ht : P.underlying t = some (.slice e)) (hinfo : InfoIs P e z nb)
    (hr : E.at r = some (.v (.slice (some ⟨b, 0, none⟩) dn dc))) (hx : E.at x = some f) (hf : Le f (vlst us)) (h1 : us.all (·.oneCell') = true) (hn : us.length = dn) (hb : B ≤ b) (hblk : E.look s = some (blk b e' xs)) (hfit : xs.length = dn) (hdst : dst < n) (hl : LeftS B e' b E' E) :
    Eff P n B ops ⟨some dst, .call { callee := .builtin .copy, args := #[r, x], argTypes := #[t, t] }, ty, pos, after, none⟩ E ((dst, .v (.int .i64 (dn : Int))) :: (s, blk b e' us) :: E') := by
  obtain ⟨i, hi, _, hs, _⟩ := hinfo.get
  intro κ a w K Q h hK
  have hre : a.eval r = _ := h.at_ r _ hr
  obtain ⟨c, hby⟩ := hf.of (h.at_ x _ hx)
  obtain ⟨A, hxe, hle, hcm, hrow⟩ := vlist_open (us := us) hby
  obtain ⟨hlt, hh⟩ := h.of s _ hblk
  have hsz : (P.info? e).map (·.size) = some 1 := by rw [hi]; simp [hs]
  have hrun : ∃ w', (Builtin.copy_ #[t, t] ty #[a.eval r, .slice A us.length c]).run P w = .ok (.int .i64 (dn : Int)) w' ∧ Wrote B e' b w w' ∧ w'.heap[b]? = some (.cells us.toArray e' (0, 0)) ∧ b < w'.heap.size := by
    rw [hre]
    cases A with
    | none =>
      have hz : us = [] := by
        cases us with
        | nil => rfl
        | cons b l => obtain ⟨ad, h, _⟩ := hrow 0 b rfl; cases h
      subst hz
      simp only [List.length_nil] at hn
      subst hn
      have hx0 : xs = [] := List.eq_nil_of_length_eq_zero hfit
      subst hx0
      exact ⟨w, by simpa [goInt] using run_copy_none (P := P) w t t ty e (some ⟨b, 0, none⟩) none 0 dc 0 c ht hsz (by simp), ⟨hb, rfl, rfl, rfl, Nat.le_refl _, fun o h => by rw [hh] at h; injection h with h; exact ⟨_, _, h.symm⟩, fun _ _ _ => rfl⟩, hh, hlt⟩
    | some ad =>
      have hmin : Nat.min us.length dn = us.length := by rw [hn]; exact Nat.min_self _
      have hr := run_copy_row (P := P) w t t ty e b 0 dn dc ad us.length c xs.toArray e' us ht hsz hh (by rw [hmin]) hrow.cell (by simp; omega) (fun v hv => List.all_eq_true.1 h1 v hv)
      have hr : (Builtin.copy_ #[t, t] ty #[.slice (some ⟨b, 0, none⟩) dn dc, .slice (some ad) us.length c]).run P w = .ok (.int .i64 (dn : Int)) (w.setRow b us.toArray) := by
        have h2 : xs.drop dn = [] := by rw [List.drop_of_length_le (by omega)]
        simpa [goInt, hmin, hn, h2] using hr
      refine ⟨_, hr, ?_, ?_, ?_⟩
      · exact Wrote.setRow hb hh _
      · simp [World.setRow, Array.getElem?_modify, hh]
      · simpa [World.setRow] using hlt
  obtain ⟨w', hrun, hwr, hh', hlt'⟩ := hrun
  have hexec : (execOp a.eval ⟨some dst, .call { callee := .builtin .copy, args := #[r, x], argTypes := #[t, t] }, ty, pos, after, none⟩).run P w = .ok (.value (.int .i64 (dn : Int))) w' := by
    simp [execOp, resolve, invoke, builtin, hxe, hrun]
  rw [if_pos (by simp [Region.wanted])]
  refine opR (by nofun) ?_
  unfold Oper.wp
  rw [hexec, Oper.upon_value]
  exact hK _ _ (hwr.below h.base) (St.put ((hl.st h hwr).push (d := blk b e' us) ⟨hlt', hh'⟩) hdst rfl)
/-- clear of the whole of a block. -/
theorem eff_clear {t e : TypeId} {z : Value} {nb : Nat} {x : Operand} {b m c s : Nat} {e' : TypeId} {xs : List Value} {E' : Env} (ht : P.underlying t = some (.slice e)) (hinfo : InfoIs P e z nb) (hz1 : z.cells = #[z]) (h1 : z.oneCell' = true)
    (hx : E.at x = some (.v (.slice (some ⟨b, 0, none⟩) m c))) (hm : 0 < m) (hb : B ≤ b) (hblk : E.look s = some (blk b e' xs)) (hfit : xs.length = m) (hl : LeftS B e' b E' E) :
    Eff P n B ops ⟨none, .call { callee := .builtin .clear, args := #[x], argTypes := #[t] }, ty, pos, after, none⟩ E ((s, blk b e' (List.replicate m z)) :: E') := by
  obtain ⟨i, hi, hz, hs, _⟩ := hinfo.get
  intro κ a w K Q h hK
  have hxe : a.eval x = _ := h.at_ x _ hx
  obtain ⟨hlt, hh⟩ := h.of s _ hblk
  have hcell : ∀ j, j < m → (w.cell? ⟨b, 0 + j, none⟩).isSome = true := fun j hj => by
    simp [World.cell?, hh]; omega
  have hrun := Lib.run_clear_slice (P := P) w t e ty z ht (fun w => by simp [zeroValue, typeInfo, hi, hz]) hz1 h1 b 0 m c hm hcell (fun j hj => by simp [World.frozen?, hh])
  have hexec : (execOp a.eval ⟨none, .call { callee := .builtin .clear, args := #[x], argTypes := #[t] }, ty, pos, after, none⟩).run P w = .ok (.value (.tuple #[])) (w.setCells b 0 (List.replicate m z)) := by
    simp [execOp, resolve, invoke, builtin, hxe, hrun]
  have hw : (w.setCells b 0 (List.replicate m z)).heap[b]? = some (.cells (List.replicate m z).toArray e' (0, 0)) := by
    have := heap_setCells b e' (List.replicate m z) 0 w xs hh (by simp; omega)
    rw [this]
    simp [List.drop_of_length_le (Nat.le_of_eq hfit)]
  have hwr : Wrote B e' b w (w.setCells b 0 (List.replicate m z)) := Wrote.setCells hb hh 0 _
  rw [if_pos (by simp [Region.wanted])]
  refine opR (by nofun) ?_
  unfold Oper.wp
  rw [hexec, Oper.upon_value]
  exact hK _ _ (hwr.below h.base) ((hl.st h hwr).push (d := blk b e' (List.replicate m z)) ⟨(Array.getElem?_eq_some_iff.1 hw).1, hw⟩)
end
end Go.Proofs.Ytdnblilocdddpaa
