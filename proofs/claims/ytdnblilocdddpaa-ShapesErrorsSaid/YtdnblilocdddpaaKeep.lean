/-
  OWN WORDS: variables of struct type whose first field is told by a fact (a row of the call's own); rows with room behind, named where they are made. Nothing of one program stands here.
-/
import Derived.Test.YtdnblilocdddpaaHold
import Derived.Test.YtdnblilocdddpaaVals
namespace Go.Proofs.Ytdnblilocdddpaa
open Go Go.RowKit
variable {κ : Cx}
theorem EffG.strong {P : Program} {n B : Nat} {ops : Array Oper} {o : Oper} {E : Env} {ι : Type} {G H : ι → Prop} {E₂ : ι → Env} (h : EffG P n B ops o E G E₂) (hs : ∀ i κ a w, St κ n B (E₂ i) a w → H i) : EffG P n B ops o E (fun i => G i ∧ H i) E₂ :=
  fun κ a w K Q hst hK => h κ a w K Q hst fun i a' w' hi g h' => hK i a' w' ⟨hi, hs i κ a' w' h'⟩ g h'
theorem own_oneC {B' B n : Nat} {e : TypeId} {xs : List Value} {w : World} {v : Value} (h : (own B e n xs).OfB B' w v) : v.oneCell' = true := by
  obtain ⟨⟨_, h2⟩, _⟩ := h
  rcases h2 with ⟨rfl, _⟩ | ⟨g, cap, cur, rfl, _⟩ <;> rfl
theorem St.oneM {n B : Nat} {E : Env} {a : Act} {w : World} {k B' m : Nat} {v : Value} {e : TypeId} {xs : List Value} (h : St κ n B E a w) (hk : E.look k = some (ownM B' v e m xs)) : v.oneCell' = true := own_oneC (h.of k _ hk)
theorem own_slice {b : Nat} {e : TypeId} {xs : List Value} {n : Nat} : ∀ B w u, (own b e n xs).OfB B w u → ∃ A m c, u = .slice A m c := fun _ _ _ h => by
  obtain ⟨⟨_, h2⟩, _⟩ := h
  rcases h2 with ⟨rfl, _⟩ | ⟨g, cap, cur, rfl, _⟩ <;> exact ⟨_, _, _, rfl⟩
theorem own_vlst {B n : Nat} {e : TypeId} {xs : List Value} (hn : n = xs.length) : Le (own B e n xs) (vlst xs) := own_le hn
theorem hd_own {B' B b n c : Nat} {e : TypeId} {xs rest : List Value} {w : World} (hb : B ≤ b) (hlt : b < B') (hh : w.heap[b]? = some (.cells xs.toArray e (0, 0))) (hn : n = xs.length) (hc : c = xs.length) (hm : c ≤ maxLen) : (hdD (own B e n xs) rest).OfB B' w (aggV (.slice (some ⟨b, 0, none⟩) n c :: rest)) := by
  subst hn; subst hc
  exact ⟨_, rfl, rfl, ⟨by simp, .inr ⟨b, xs.length, xs.toArray, rfl, hb, hh, Nat.le_refl _, hm, by simp, by simp⟩⟩, fun g hg => by simp [Value.ownBlock] at hg; omega⟩
section
variable {P : Program} {B : Nat} {E : Env} {o : Oper}
theorem OpOk.valOwn {v : Value} {k B' m : Nat} {e : TypeId} {xs : List Value} (h : OpOk P B o E (.v v)) (hk : vbase ≤ k) (hl : E.look k = some (ownM B' v e m xs)) : OpOk P B o E (own B' e m xs) := fun ρ w hB hv hρ => by
  refine (h ρ w hB hv hρ).mono fun x w' hx => ⟨hx.1, ?_⟩
  have h2 : (ownM B' v e m xs).Of w' undef := D.Of.grow (hv k _ hk hl) hx.1
  rw [show x = v from hx.2]
  exact h2
theorem OpOk.hdOwn {v : Value} {k B' m : Nat} {e : TypeId} {xs rest : List Value} (h : OpOk P B o E (.v (aggV (v :: rest)))) (hv1 : v.oneCell' = true) (hk : vbase ≤ k) (hl : E.look k = some (ownM B' v e m xs)) : OpOk P B o E (hdD (own B' e m xs) rest) := fun ρ w hB hv hρ => by
  refine (h ρ w hB hv hρ).mono fun x w' hx => ⟨hx.1, ?_⟩
  have h2 : (ownM B' v e m xs).Of w' undef := D.Of.grow (hv k _ hk hl) hx.1
  rw [show x = _ from hx.2]
  exact ⟨v, hv1, rfl, h2⟩
end
section
variable {P : Program} {n : Nat} {w₀ : World} {E : Env}
theorem A.oneM {c : Code} {Q : Exit → Act → World → Prop} {k B' m : Nat} {v : Value} {e : TypeId} {xs : List Value} (hk : E.look k = some (ownM B' v e m xs)) (h : v.oneCell' = true → A κ P w₀ n c E Q) : A κ P w₀ n c E Q := fun a w g hs => h (own_oneC (hs.of k _ hk)) a w g hs
/-- return of a struct whose first field is an own row. -/
theorem End.hdOwn {fn : Func} {r s b k B' m m' : Nat} {T e' e : TypeId} {td : TypeDesc} {xs ys rest : List Value} {v : Value} (hr : fn.results = #[.cell r T]) (ht : P.underlying T = some td) (hp : (match td with | .struct _ | .array _ _ => true | _ => false) = true) (hsz : SizeIs P T (v :: rest).length)
    (h1 : E.look r = some (.v (.pointer (some ⟨b, 0, none⟩)))) (h2 : E.look s = some (blk b e' (v :: rest))) (hv : v.oneCell' = true) (h4 : E.look k = some (ownM B' v e m xs)) (hm : m = m') (hx : xs = ys) :
    End Cx.top w₀ n E (BP P fn (PostOf w₀ (hdD (own B' e m' ys) rest)) .ret) := fun a w gr hs => by
  subst hm; subst hx
  have h3 : a.tmps[r]?.getD undef = .pointer (some ⟨b, 0, none⟩) := by rw [← Array.getD_eq_getD_getElem?]; exact hs.of r _ h1
  obtain ⟨_, hh⟩ := hs.of s _ h2
  exact BP.ret hs.defers ⟨aggV (v :: rest), by simp [results, hr, h3, asAddr, load_cell ht hp hsz hh], _, rfl, gr, v, hv, rfl, hs.of k _ h4⟩
end
theorem own_mono2 {e : TypeId} {n : Nat} {xs rest : List Value} (B B' : Nat) (h : B ≤ B') : Le (hdD (own B' e n xs) rest) (hdD (own B e n xs) rest) := hd_le (own_mono h)

/-! ### A row with room behind it, named where it is made -/
theorem eff_nameZ {P : Program} {n B : Nat} {ops : Array Oper} {E : Env} {o : Oper} {d k m : Nat} {e : TypeId} {xs rest : List Value} (hm : 0 < m) (ht : o.dst = some d) (hg : o.guard = none) (hok : ∀ B', OpOk P B' o E (hdD (own B' e m xs) rest)) (hdn : d < n) (hnv : n ≤ vbase) :
    EffG P n B ops o E (fun p : Nat × List Value => NewB B E p.1 ∧ m + p.2.length ≤ maxLen) (fun p => (d, .v (aggV (.slice (some ⟨p.1, 0, none⟩) m (m + p.2.length) :: rest))) :: (k, blk p.1 e (xs ++ p.2)) :: E) := by
  intro κ a w K Q h hK
  rw [if_pos (by simp [Region.wanted, hg])]
  refine wp_of_out ht ((hok w.heap.size a.eval w (Nat.le_refl _) (h.virt hnv) fun x _ u hu => h.at_ x _ hu).mono ?_)
  rintro x w' ⟨hgr, v, hv1, rfl, ⟨hl, h2⟩, h3⟩
  rcases h2 with ⟨_, h0⟩ | ⟨b, cap, cur, rfl, hb, hh, hmc, hcm, hsz, htk⟩
  · omega
  simp only [Nat.mul_one] at hl hsz htk
  have hcur : cur.toList = xs ++ cur.toList.drop m := by rw [← htk, List.take_append_drop]
  have hlen : m + (cur.toList.drop m).length = cap := by simp; omega
  have hh' : w'.heap[b]? = some (.cells (xs ++ cur.toList.drop m).toArray e (0, 0)) := by rw [← hcur]; simpa using hh
  have hlt : b < w'.heap.size := h3 b rfl
  refine hK (b, cur.toList.drop m) _ _ ⟨⟨Nat.le_trans h.base hb, fun s b' e ys hs => Nat.lt_of_lt_of_le (h.of s _ hs).1 hb⟩, by show m + (cur.toList.drop m).length ≤ maxLen; omega⟩ (Below.mono hgr h.base) ?_
  show St κ n B ((d, .v (aggV (.slice (some ⟨b, 0, none⟩) m (m + (cur.toList.drop m).length) :: rest))) :: (k, blk b e (xs ++ cur.toList.drop m)) :: E) _ _
  rw [hlen]
  exact St.put ((h.grow hgr).push (t := k) (d := blk b e (xs ++ cur.toList.drop m)) ⟨hlt, hh'⟩) hdn rfl
theorem RunTK.nameZ {P : Program} {n B : Nat} {ops : Array Oper} {draw : Bool} {C : Env → Prop} {o : Oper} {E : Env} {s : Nat} (p : Nat) (hsp : s ≤ p) (ho : ops[p]? = some o) (hb : draw = false ∨ barrier ops p = true)
    (h : RunK P B ops ((ops.toList.drop s).take (p - s)) E (fun E₁ => ∃ (d k m : Nat) (e : TypeId) (xs rest : List Value), 0 < m ∧ o.dst = some d ∧ o.guard = none ∧ (∀ B', OpOk P B' o E₁ (hdD (own B' e m xs) rest)) ∧ d < n ∧ n ≤ vbase ∧
      ∀ b z, NewB B E₁ b → m + z.length ≤ maxLen → RunTK P n B ops draw C (p + 1) ((d, .v (aggV (.slice (some ⟨b, 0, none⟩) m (m + z.length) :: rest))) :: (k, blk b e (xs ++ z)) :: E₁))) : RunTK P n B ops draw C s E := by
  obtain ⟨E₁, h1, d, k, m, e, xs, rest, h2, h3, h4, h5, h6, h7, h8⟩ := h
  exact .effG hsp ho hb h1 (eff_nameZ (k := k) h2 h3 h4 h5 h6 h7) fun q hq => h8 q.1 q.2 hq.1 hq.2

/-! ### Variables -/
/-- Block b holds a struct whose first field is told by f. -/
def varA (b : Nat) (T : TypeId) (f : D) (rest : List Value) : D :=
  .p (fun B w _ => b < B ∧ ∃ v : Value, v.oneCell' = true ∧ w.heap[b]? = some (.cells (v :: rest : List Value).toArray T (0, 0)) ∧ f.OfB B w v)
    (fun _ _ _ _ g ⟨h1, v, h2, h3, h4⟩ => ⟨h1, v, h2, (g.block b h1).trans h3, h4.keep g⟩) (fun _ _ _ _ g ⟨h1, v, h2, h3, h4⟩ => ⟨by omega, v, h2, h3, h4.up g⟩)
theorem varA_le {b : Nat} {T : TypeId} {f f' : D} {rest : List Value} (h : Le f f') : Le (varA b T f rest) (varA b T f' rest) := fun _ _ _ ⟨h1, v, h2, h3, h4⟩ => ⟨h1, v, h2, h3, h _ _ _ h4⟩
theorem Surv.hd {B T g : Nat} {f : D} {rest : List Value} (h : Surv B T g f) : Surv B T g (hdD f rest) := fun w w' _ k ⟨v, h1, h2, h3⟩ => ⟨v, h1, h2, h w w' v k h3⟩
theorem Surv.valM {B T g : Nat} {f : D} {v : Value} (h : Surv B T g f) : Surv B T g (Go.Proofs.Ytdnblilocdddpaa.valM v f) := fun w w' _ k hx => h w w' v k hx
theorem Surv.varA {B T g b : Nat} {e : TypeId} {f : D} {rest : List Value} (h : b ≠ g) (hf : Surv B T g f) : Surv B T g (Go.Proofs.Ytdnblilocdddpaa.varA b e f rest) := fun w w' _ k ⟨h1, v, h2, h3, h4⟩ =>
  ⟨Nat.lt_of_lt_of_le h1 k.size, v, h2, (k.other b h1 h).trans h3, hf w w' v k h4⟩
section
variable {P : Program} {n B : Nat} {ops : Array Oper} {E : Env} {ty : TypeId} {pos : String} {after : Array Edge}
theorem eff_storeH {T : TypeId} {p x : Operand} {b s : Nat} {e : TypeId} {zs rest : List Value} {f : D} {E' : Env} (hsz : SizeIs P T (rest.length + 1)) (hp : E.at p = some (.v (.pointer (some ⟨b, 0, none⟩)))) (hx : E.at x = some (hdD f rest)) (h1 : rest.all (·.oneCell') = true)
    (hb : B ≤ b) (hblk : E.look s = some (blk b e zs)) (ho : zs.length = rest.length + 1) (hf : Surv B e b f) (hl : LeftS B e b E' E) : Eff P n B ops ⟨none, .store T p x, ty, pos, after, none⟩ E ((s, varA b e f rest) :: E') := by
  intro κ a w K Q h hK
  have hp' : a.eval p = _ := h.at_ p _ hp
  obtain ⟨v, hv, hx', hfv⟩ := h.at_ x _ hx
  obtain ⟨hlt, hh⟩ := h.of s _ hblk
  have hrun : (execOp a.eval ⟨none, .store T p x, ty, pos, after, none⟩).run P w = .ok .skip (w.setRow b (v :: rest).toArray) := by
    have := run_storeVar_row (P := P) w b e T zs.toArray (v :: rest).toArray hh (by simpa [SizeIs] using hsz) (by simpa using ho) (by simpa [hv] using h1)
    simp [execOp, hp', hx', Instr.storeAt, Instr.sureAddr, aggV] at this ⊢
    rw [this]
    rfl
  rw [if_pos (by simp [Region.wanted])]
  refine opR (by nofun) ?_
  unfold Oper.wp
  rw [hrun, Oper.upon_skip]
  have hwr := Wrote.setRow hb hh (v :: rest).toArray
  exact hK _ _ (hwr.below h.base) ((hl.st h hwr).push (d := varA b e f rest) ⟨by simpa using hlt, v, hv, setRow_heap w b _ _ e _ hh, hf _ _ _ hwr hfv⟩)
/-- The same over a variable that was told by a fact before. -/
theorem eff_storeHH {T : TypeId} {p x : Operand} {b s : Nat} {e : TypeId} {rest₀ rest : List Value} {f₀ f : D} {E' : Env} (hsz : SizeIs P T (rest.length + 1)) (hp : E.at p = some (.v (.pointer (some ⟨b, 0, none⟩)))) (hx : E.at x = some (hdD f rest)) (h1 : rest.all (·.oneCell') = true)
    (hb : B ≤ b) (hblk : E.look s = some (varA b e f₀ rest₀)) (ho : rest₀.length = rest.length) (hf : Surv B e b f) (hl : LeftS B e b E' E) : Eff P n B ops ⟨none, .store T p x, ty, pos, after, none⟩ E ((s, varA b e f rest) :: E') := by
  intro κ a w K Q h hK
  have hp' : a.eval p = _ := h.at_ p _ hp
  obtain ⟨v, hv, hx', hfv⟩ := h.at_ x _ hx
  obtain ⟨hlt, v₀, _, hh, _⟩ := h.of s _ hblk
  have hrun : (execOp a.eval ⟨none, .store T p x, ty, pos, after, none⟩).run P w = .ok .skip (w.setRow b (v :: rest).toArray) := by
    have := run_storeVar_row (P := P) w b e T (v₀ :: rest₀).toArray (v :: rest).toArray hh (by simpa [SizeIs] using hsz) (by simpa using ho) (by simpa [hv] using h1)
    simp [execOp, hp', hx', Instr.storeAt, Instr.sureAddr, aggV] at this ⊢
    rw [this]
    rfl
  rw [if_pos (by simp [Region.wanted])]
  refine opR (by nofun) ?_
  unfold Oper.wp
  rw [hrun, Oper.upon_skip]
  have hwr := Wrote.setRow hb hh (v :: rest).toArray
  exact hK _ _ (hwr.below h.base) ((hl.st h hwr).push (d := varA b e f rest) ⟨by simpa using hlt, v, hv, setRow_heap w b _ _ e _ hh, hf _ _ _ hwr hfv⟩)
theorem ok_loadH {dst : Option Tmp} {guard : Option (Nat × Bool)} {T : TypeId} {td : TypeDesc} {x : Operand} {b s : Nat} {e : TypeId} {f : D} {rest : List Value} (hsl : vbase ≤ s) (ht : P.underlying T = some td) (hp : (match td with | .struct _ | .array _ _ => true | _ => false) = true) (hsz : SizeIs P T (rest.length + 1))
    (hx : E.at x = some (.v (.pointer (some ⟨b, 0, none⟩)))) (hblk : E.look s = some (varA b e f rest)) : OpOk P B ⟨dst, .load T x, ty, pos, after, guard⟩ E (hdD f rest) := fun ρ w _ hv hρ => by
  have h1 : ρ x = _ := hρ x (by simp [Op.operands]) _ hx
  obtain ⟨hlt, v, hv1, hh, hfv⟩ := hv s _ hsl hblk
  exact out_val (x := aggV (v :: rest)) (w' := w) (by simp [execOp, h1, Instr.loadAt, Instr.sureAddr, load_cell (xs := v :: rest) ht hp (by simpa using hsz) hh]) ⟨Grow.refl w, v, hv1, rfl, hfv⟩
end
/-- Some value. -/
def anyD : D := .p (fun _ _ _ => True) (fun _ _ _ _ _ _ => trivial) (fun _ _ _ _ _ _ => trivial)
theorem Surv.any {B T g : Nat} : Surv B T g anyD := fun _ _ _ _ _ => trivial
/-- Some struct of k cells. -/
def anyS (k : Nat) : D := .p (fun _ _ x => ∃ xs : List Value, x = aggV xs ∧ xs.length = k ∧ xs.all (·.oneCell') = true) (fun _ _ _ _ _ h => h) (fun _ _ _ _ _ h => h)
theorem any_tup {k : Nat} {xs : List Value} {v : Value} (hk : xs.length = k) (h1 : xs.all (·.oneCell') = true) : Le (.v (.tuple #[aggV xs, v])) (tup [anyS k, anyD]) := fun B w x hx => by
  refine ⟨[aggV xs, v], hx, rfl, fun j d u hd hu => ?_⟩
  match j, hd, hu with
  | 0, hd, hu => simp at hd hu; subst hd; subst hu; exact ⟨xs, rfl, hk, h1⟩
  | 1, hd, hu => simp at hd hu; subst hd; subst hu; exact trivial
  | j + 2, hd, _ => simp at hd
theorem any_new {k base : Nat} {e : TypeId} {val : Nat → Value} {cells : List Value} {xs : Nat → List Value} {v : Value} (hv : ∀ b, val b = .tuple #[aggV (xs b), v]) (hk : ∀ b, (xs b).length = k) (h1 : ∀ b, (xs b).all (·.oneCell') = true) : Le (newD base e val cells) (tup [anyS k, anyD]) := fun B w x ⟨b, h, _⟩ => by
  rw [hv b] at h
  exact any_tup (hk b) (h1 b) B w x h
theorem eff_storeX {P : Program} {n B : Nat} {ops : Array Oper} {E : Env} {ty : TypeId} {pos : String} {after : Array Edge} {T : TypeId} {p x : Operand} {b s k : Nat} {e : TypeId} {zs : List Value} {E' : Env} (hsz : SizeIs P T k) (hp : E.at p = some (.v (.pointer (some ⟨b, 0, none⟩)))) (hx : E.at x = some (anyS k))
    (hb : B ≤ b) (hblk : E.look s = some (blk b e zs)) (ho : zs.length = k) (hl : LeftS B e b E' E) : Eff P n B ops ⟨none, .store T p x, ty, pos, after, none⟩ E E' := by
  intro κ a w K Q h hK
  have hp' : a.eval p = _ := h.at_ p _ hp
  obtain ⟨xs, hx', hk, h1⟩ := h.at_ x _ hx
  obtain ⟨hlt, hh⟩ := h.of s _ hblk
  have hrun : (execOp a.eval ⟨none, .store T p x, ty, pos, after, none⟩).run P w = .ok .skip (w.setRow b xs.toArray) := by
    have := run_storeVar_row (P := P) w b e T zs.toArray xs.toArray hh (by simpa [SizeIs, hk] using hsz) (by simpa [hk] using ho) (by simpa using h1)
    simp [execOp, hp', hx', Instr.storeAt, Instr.sureAddr, aggV, this]
  rw [if_pos (by simp [Region.wanted])]
  refine opR (by nofun) ?_
  unfold Oper.wp
  rw [hrun, Oper.upon_skip]
  have hwr := Wrote.setRow hb hh xs.toArray
  exact hK _ _ (hwr.below h.base) (hl.st h hwr)
theorem A.openA {P : Program} {w₀ : World} {n : Nat} {c : Code} {E : Env} {Q : Exit → Act → World → Prop} {k k' b : Nat} {T : TypeId} {f : D} {rest : List Value} (hk : E.look k = some (varA b T f rest)) (h : ∀ v : Value, v.oneCell' = true → A κ P w₀ n c ((k, blk b T (v :: rest)) :: (k', valM v f) :: E) Q) : A κ P w₀ n c E Q := fun a w g hs => by
  obtain ⟨h1, v, h2, h3, h4⟩ := hs.of k _ hk
  exact h v h2 a w g ((hs.push (t := k') (d := valM v f) h4).push (t := k) (d := blk b T (v :: rest)) ⟨h1, h3⟩)
end Go.Proofs.Ytdnblilocdddpaa
