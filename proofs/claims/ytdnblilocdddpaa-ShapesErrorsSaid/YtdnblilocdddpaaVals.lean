/-
  OWN WORDS: own rows by value. Where several rows of one type are built side by side, each row's value gets a name, its cells are a fact on memory, and that two rows lie apart is told of the values. Nothing of one program stands here.
-/
import Derived.Test.YtdnblilocdddpaaRange
namespace Go.Proofs.Ytdnblilocdddpaa
open Go Go.RowKit
variable {κ : Cx}

/-- The value v is an own row. -/
def ownM (base : Nat) (v : Value) (e : TypeId) (n : Nat) (xs : List Value) : D :=
  .p (fun B w _ => (own base e n xs).OfB B w v) (fun _ _ _ _ g h => D.OfB.keep h g) (fun _ _ _ _ g h => D.OfB.up h g)
def Disj (v u : Value) : Prop := ∀ g, v.ownBlock = some g → u.ownBlock ≠ some g
theorem Disj.symm {v u : Value} (h : Disj v u) : Disj u v := fun g hu hv => h g hv hu
theorem Disj.nil (u : Value) : Disj (.slice none 0 0) u := fun g h => by simp [Value.ownBlock] at h
theorem Surv.ownM {B T g base n : Nat} {e : TypeId} {u : Value} {xs : List Value} (h : u.ownBlock ≠ some g) : Surv B T g (Go.Proofs.Ytdnblilocdddpaa.ownM base u e n xs) := fun w w' _ k ⟨h1, h2⟩ => by
  obtain ⟨h3, h4⟩ := h1
  refine ⟨⟨h3, h4.imp id ?_⟩, fun j hj => Nat.lt_of_lt_of_le (h2 j hj) k.size⟩
  rintro ⟨j, cap, cur, rfl, hj, hh, hr⟩
  have hne : j ≠ g := fun hb => h (by subst hb; rfl)
  exact ⟨j, cap, cur, rfl, hj, (k.other j (h2 j (by simp [Value.ownBlock])) hne).trans hh, hr⟩
theorem Surv.ownMT {B T g base n : Nat} {e : TypeId} {u : Value} {xs : List Value} (h : e ≠ T) : Surv B T g (Go.Proofs.Ytdnblilocdddpaa.ownM base u e n xs) := fun w w' _ k hx => Surv.own (B := B) (T := T) (g := g) h w w' u k hx
section
variable {P : Program} {w₀ : World} {n : Nat} {c : Code} {E : Env} {Q : Exit → Act → World → Prop}
theorem A.openV {t k m : Nat} {e : TypeId} {xs : List Value} (ht : E.look t = some (own w₀.heap.size e m xs)) (h : ∀ v, A κ P w₀ n c ((t, .v v) :: (k, ownM w₀.heap.size v e m xs) :: E) Q) : A κ P w₀ n c E Q := fun a w g hs => by
  have h1 := hs.of t _ ht
  refine h (a.tmps.getD t undef) a w g ⟨hs.base, hs.defers, hs.size, fun s d hd => ?_⟩
  by_cases hts : t = s
  · subst hts
    rw [look_here] at hd; injection hd with hd; subst hd; rfl
  · rw [look_past _ _ hts] at hd
    by_cases hks : k = s
    · subst hks
      rw [look_here] at hd; injection hd with hd; subst hd; exact h1
    · rw [look_past _ _ hks] at hd
      exact hs.of s d hd
theorem A.closeV {t k m : Nat} {B : Nat} {e : TypeId} {xs : List Value} {v : Value} (ht : E.look t = some (.v v)) (hk : E.look k = some (ownM B v e m xs)) (h : A κ P w₀ n c ((t, own B e m xs) :: E) Q) : A κ P w₀ n c E Q := fun a w g hs => by
  have h1 : a.tmps.getD t undef = v := hs.of t _ ht
  have h2 := hs.of k _ hk
  refine h a w g ⟨hs.base, hs.defers, hs.size, fun s d hd => ?_⟩
  by_cases hts : t = s
  · subst hts
    rw [look_here] at hd; injection hd with hd; subst hd; rw [h1]; exact h2
  · rw [look_past _ _ hts] at hd
    exact hs.of s d hd
theorem A.nilV {k : Nat} (B : Nat) (e : TypeId) (h : A κ P w₀ n c ((k, ownM B (.slice none 0 0) e 0 []) :: E) Q) : A κ P w₀ n c E Q := fun a w g hs => by
  refine h a w g ⟨hs.base, hs.defers, hs.size, fun s d hd => ?_⟩
  by_cases hks : k = s
  · subst hks
    rw [look_here] at hd; injection hd with hd; subst hd
    exact (own_nil (B := B) (e := e)) _ _ _ (rfl : (D.v (.slice none 0 0)).OfB w.heap.size w (.slice none 0 0))
  · rw [look_past _ _ hks] at hd
    exact hs.of s d hd
end
/-- A row's value, with what its cells hold. -/
theorem ok_moveV {P : Program} {B : Nat} {E : Env} {dst : Option Tmp} {ty : TypeId} {pos : String} {after : Array Edge} {guard : Option (Nat × Bool)} {x : Operand} {k B' m : Nat} {v : Value} {e : TypeId} {xs : List Value} (hkv : vbase ≤ k) (hx : E.at x = some (.v v)) (hk : E.look k = some (ownM B' v e m xs)) :
    OpOk P B ⟨dst, .move x, ty, pos, after, guard⟩ E (own B' e m xs) := fun ρ w _ hv hρ => by
  have h1 : ρ x = v := hρ x (by simp [Op.operands]) _ hx
  exact out_val (x := v) (w' := w) (by simp [execOp, h1]) ⟨Grow.refl w, hv k _ hkv hk⟩
/-- An own row that was made in a region with a base of its own gets its value's name: it lies apart from every row that was there before. -/
theorem A.openVD {P : Program} {w₀ : World} {n : Nat} {c : Code} {E : Env} {Q : Exit → Act → World → Prop} {t k j m B' m' : Nat} {b₀ : Nat} {e e' : TypeId} {xs xs' : List Value} {u : Value} (ht : E.look t = some (own B' e m xs)) (hj : E.look j = some (old B' (ownM b₀ u e' m' xs')))
    (h : ∀ v, Disj v u → A κ P w₀ n c ((t, .v v) :: (k, ownM B' v e m xs) :: E) Q) : A κ P w₀ n c E Q := fun a w g hs => by
  have h1 : (own B' e m xs).Of w (a.tmps.getD t undef) := hs.of t _ ht
  obtain ⟨_, h2⟩ := hs.of j _ hj
  refine h (a.tmps.getD t undef) (fun b hb hu => ?_) a w g ⟨hs.base, hs.defers, hs.size, fun s d hd => ?_⟩
  · have h3 := h2.2 b hu
    rcases h1.1.2 with ⟨hv, _⟩ | ⟨g', cap, cur, hv, hb', _⟩
    · rw [hv] at hb; simp [Value.ownBlock] at hb
    · rw [hv] at hb; simp [Value.ownBlock] at hb; omega
  · by_cases hts : t = s
    · subst hts
      rw [look_here] at hd; injection hd with hd; subst hd; rfl
    · rw [look_past _ _ hts] at hd
      by_cases hks : k = s
      · subst hks
        rw [look_here] at hd; injection hd with hd; subst hd; exact h1
      · rw [look_past _ _ hks] at hd
        exact hs.of s d hd
theorem ownM_mono {B B' m : Nat} {v : Value} {e : TypeId} {xs : List Value} (h : B ≤ B') : Le (ownM B' v e m xs) (ownM B v e m xs) := fun b w _ hx => (own_mono h : Le (own B' e m xs) (own B e m xs)) b w v hx
theorem ownM_le {B m : Nat} {v : Value} {e : TypeId} {xs ys : List Value} {m' : Nat} (hm : m = m') (hx : xs = ys) : Le (ownM B v e m xs) (ownM B v e m' ys) := by subst hm; subst hx; exact Le.refl _
/-- An operation's fact in an environment that knows more. -/
theorem OpOk.subL {P : Program} {B : Nat} {o : Oper} {E₁ E : Env} {d : D} (hs : SubL E₁ E) (h : OpOk P B o E₁ d) : OpOk P B o E d := fun ρ w hB hv hρ => by
  have look : ∀ t e, E₁.look t = some e → ∃ e', E.look t = some e' ∧ Le e' e := fun t e he => hs (t, e) (look_mem he)
  refine h ρ w hB (fun t e ht he => ?_) fun x hx e he => ?_
  · obtain ⟨e', h1, h2⟩ := look t e he
    exact h2.of (hv t e' ht h1)
  · cases x with
    | tmp s =>
      obtain ⟨e', h1, h2⟩ := look s e he
      exact h2.of (hρ (.tmp s) hx e' h1)
    | const c => exact hρ _ hx e he
    | global g => exact hρ _ hx e he
    | func f => exact hρ _ hx e he
/-- The head of an own row is an own row. -/
theorem ok_sliceOwn {P : Program} {B : Nat} {E : Env} {dst : Option Tmp} {ty : TypeId} {pos : String} {after : Array Edge} {guard : Option (Nat × Bool)} {t e : TypeId} {z : Value} {nb : Nat} {x ho : Operand} {k : IntKind} {n m B' : Nat} {xs : List Value} (ht : P.underlying t = some (.slice e)) (hs : InfoIs P e z nb) (hx : E.at x = some (own B' e m xs)) (hho : E.at ho = some (.v (.int k (n : Int)))) (hnm : n ≤ m) :
    OpOk P B ⟨dst, .slice t x none (some ho) none, ty, pos, after, guard⟩ E (own B' e n (xs.take n)) := fun ρ w _ _ hρ => by
  obtain ⟨⟨hlen, hcase⟩, hob⟩ := hρ x (by simp [Op.operands]) _ hx
  have h1 : ρ ho = .int k (n : Int) := hρ ho (by simp [Op.operands]) _ hho
  rcases hcase with ⟨hv, hm0⟩ | ⟨g, cap, cur, hv, hb, hh, hnc, hcm, hcs, htake⟩
  · obtain rfl : n = 0 := by omega
    have hr := run_slice_list (P := P) ht hs w none 0 0 0 0 none (some (.int k 0)) k k (.inr ⟨rfl, rfl⟩) (.inl rfl) (Nat.le_refl _) (Nat.le_refl _)
    have h1 : ρ ho = .int k 0 := h1
    refine out_val (x := .slice none 0 0) (w' := w) (by simp [execOp, hv, h1, hr]) ⟨Grow.refl w, ⟨by simp, .inl ⟨rfl, rfl⟩⟩, fun b hb => by simp [Value.ownBlock] at hb⟩
  · have hr := run_slice_list (P := P) ht hs w (some ⟨g, 0, none⟩) m cap 0 n none (some (.int k (n : Int))) k k (.inr ⟨rfl, rfl⟩) (.inl rfl) (Nat.zero_le _) (by omega)
    have hadd : (⟨g, 0, none⟩ : Addr).add 0 = ⟨g, 0, none⟩ := rfl
    refine out_val (x := .slice (some ⟨g, 0, none⟩) n cap) (w' := w) (by simp [execOp, hv, h1, hr, hadd]) ⟨Grow.refl w, ⟨by simp [hlen]; omega, .inr ⟨g, cap, cur, rfl, hb, hh, by omega, hcm, hcs, ?_⟩⟩, fun b hb => hob b (by rw [hv]; exact hb)⟩
    rw [← htake, List.take_take, Nat.mul_one, Nat.mul_one, Nat.min_eq_left hnm]
/-- A new block's number: above the base, and no named block's or row's. -/
def NewV (B : Nat) (E : Env) (g : Nat) : Prop := B ≤ g ∧ (∀ s b' e xs, E.look s = some (blk b' e xs) → b' < g) ∧ ∀ s B' v e n xs, E.look s = some (ownM B' v e n xs) → v.ownBlock ≠ some g
/-- What an append makes of a row's value. -/
def Step (B : Nat) (E : Env) (v v' : Value) : Prop := v'.ownBlock = v.ownBlock ∨ ∃ g, v'.ownBlock = some g ∧ NewV B E g
theorem Disj.step {B : Nat} {E : Env} {v v' u : Value} {s B' n : Nat} {e : TypeId} {xs : List Value} (hs : Step B E v v') (hd : Disj v u) (hu : E.look s = some (ownM B' u e n xs)) : Disj v' u := fun g hg => by
  rcases hs with h | ⟨g', h, hn⟩
  · exact hd g (h ▸ hg)
  · rw [h] at hg; injection hg with hg; subst hg
    exact hn.2.2 s _ _ _ _ _ hu
theorem eff_appendV {P : Program} {n B : Nat} {ops : Array Oper} {E E' : Env} {ty : TypeId} {pos : String} {after : Array Edge} {t e : TypeId} {z : Value} {nb : Nat} {r x : Operand} {k m dst : Nat} {v : Value} {xs : List Value} {f : D} {vs : List Value} (ht : P.underlying t = some (.slice e)) (hinfo : InfoIs P e z nb) (hnb : nb ≤ 64) (hz1 : z.cells.size = 1)
    (hr : E.at r = some (.v v)) (hk : E.look k = some (ownM B v e m xs)) (hx : E.at x = some f) (hf : Le f (lst (vs.map .v))) (h1 : ∀ u ∈ vs, u.oneCell' = true) (hbd : m + vs.length ≤ 1099511627776) (hdst : dst < n) (hl : ∀ g, B ≤ g → (v.ownBlock = some g ∨ NewV B E g) → LeftS B e g E' E) :
    EffG P n B ops ⟨some dst, .call { callee := .builtin .append, args := #[r, x], argTypes := #[t, t] }, ty, pos, after, none⟩ E (Step B E v) (fun v' => (dst, .v v') :: (k, ownM B v' e (m + vs.length) (xs ++ vs)) :: E') := by
  obtain ⟨i, hi, hz, hs, hby⟩ := hinfo.get
  intro κ a w K Q h hK
  have hre : a.eval r = v := h.at_ r _ hr
  obtain ⟨hown, hob⟩ : (own B e m xs).OfB w.heap.size w v := h.of k _ hk
  obtain ⟨c, A, us, hxe, hle, hcm, hul, hrow, hus⟩ := hf.of (h.at_ x _ hx)
  have huv : us = vs := by
    apply List.ext_getElem?
    intro j
    simp only [List.length_map] at hul
    rcases Nat.lt_or_ge j vs.length with hj | hj
    · have hu : us[j]? = some us[j] := List.getElem?_eq_getElem (by omega)
      have h2 : us[j] = vs[j] := hus j (.v vs[j]) us[j] (by simp [hj]) hu
      rw [hu, h2, List.getElem?_eq_getElem hj]
    · rw [List.getElem?_eq_none (by omega), List.getElem?_eq_none hj]
  subst huv
  simp only [List.length_map] at hxe hle hul
  have hrun : ∃ v' w', (Builtin.append_ #[t, t] ty #[v, .slice A us.length c]).run P w = .ok v' w' ∧ w'.ownsRow B e 1 v' (m + us.length) (xs ++ us) ∧ w.grownBy w' v.ownBlock ∧ (v'.ownBlock = v.ownBlock ∨ v'.ownBlock = some w.heap.size) := by
    have hbb : (m + us.length) * i.bytes ≤ (m + us.length) * 64 := Nat.mul_le_mul_left _ (by omega)
    have hnil : us = [] → ∀ c', (Builtin.append_ #[t, t] ty #[v, .slice none 0 c']).run P w = .ok v w := by
      intro _ c'
      rcases hown.2 with ⟨hv, hn0⟩ | ⟨g, cap, cur, hv, _, _, hnc, _⟩
      · rw [hv]; simp [Builtin.append_, run_underlying ht, sizeOf, typeInfo, hi, Builtin.lenOf, Builtin.firstCells]
      · rw [hv]; simp [Builtin.append_, run_underlying ht, sizeOf, typeInfo, hi, Builtin.lenOf, Builtin.firstCells, hnc, storeCells]
    cases A with
    | none =>
      have hz : us = [] := by
        cases us with
        | nil => rfl
        | cons b l => obtain ⟨ad, h, _⟩ := hrow 0 b rfl; cases h
      subst hz
      exact ⟨v, w, hnil rfl c, by simpa using hown, World.grownBy.refl w _, .inl rfl⟩
    | some ad =>
      obtain ⟨v', w', h2, h3, h4, _, h6⟩ := run_append_own_at (P := P) w B t ty e i z 1 i.bytes ht hi hz hs rfl hz1 (by omega) v m xs hown ad us.length c us (by simp) hrow.cell h1 (by simp only [maxLen]; omega) (by omega) h.base
      exact ⟨v', w', h2, h3, h4, h6⟩
  obtain ⟨v', w', hrun, h3, h4, h5⟩ := hrun
  have hexec : (execOp a.eval ⟨some dst, .call { callee := .builtin .append, args := #[r, x], argTypes := #[t, t] }, ty, pos, after, none⟩).run P w = .ok (.value v') w' := by
    simp [execOp, resolve, invoke, builtin, hre, hxe, hrun]
  rw [if_pos (by simp [Region.wanted])]
  refine opR (by nofun) ?_
  unfold Oper.wp
  rw [hexec, Oper.upon_value]
  have hnew : NewV B E w.heap.size := ⟨h.base, fun s b' e' ys hs => (h.of s _ hs).1, fun s B' u e' n' ys hs hu => by
    have := (h.of s _ hs).2 _ hu
    omega⟩
  have hbase : ∀ g, v.ownBlock = some g → B ≤ g := fun g hg => by
    rcases hown.2 with ⟨hv, _⟩ | ⟨g', cap, cur, hv, hb, _⟩
    · rw [hv] at hg; simp [Value.ownBlock] at hg
    · rw [hv] at hg; simp [Value.ownBlock] at hg; omega
  have hbel : Below B w w' := (Below.refl B w).grown h4 h.base hbase
  have hlt : ∀ g, v'.ownBlock = some g → g < w'.heap.size := fun g hg => by
    rcases h3.2 with ⟨hv, _⟩ | ⟨g', cap, cur, hv, _, hh, _⟩
    · rw [hv] at hg; simp [Value.ownBlock] at hg
    · rw [hv] at hg; simp [Value.ownBlock] at hg; subst hg
      rcases Nat.lt_or_ge g' w'.heap.size with h | h
      · exact h
      · rw [Array.getElem?_eq_none h] at hh; cases hh
  have hwr : ∃ g, (v.ownBlock = some g ∨ NewV B E g) ∧ Wrote B e g w w' := by
    rcases hown.2 with ⟨hv, _⟩ | ⟨g', cap, cur, hv, hb, hh, _⟩
    · refine ⟨w.heap.size, .inr hnew, h.base, h4.os, h4.tape, h4.output, h4.size, fun o hx => ?_, fun k hk _ => h4.block k hk (by rw [hv]; simp [Value.ownBlock])⟩
      rw [Array.getElem?_eq_none (Nat.le_refl _)] at hx; cases hx
    · refine ⟨g', .inl (by rw [hv]; rfl), hb, h4.os, h4.tape, h4.output, h4.size, fun o hx => ?_, fun k hk hne => h4.block k hk (by rw [hv]; simp [Value.ownBlock]; omega)⟩
      rw [hh] at hx; injection hx with hx; exact ⟨_, _, hx.symm⟩
  obtain ⟨g, hg, hwr⟩ := hwr
  have hst : St κ n B E' a w' := (hl g hwr.base hg).st h hwr
  have hst2 : St κ n B ((k, ownM B v' e (m + us.length) (xs ++ us)) :: E') a w' := ⟨hst.base, hst.defers, hst.size, fun s d hd => by
    by_cases hks : k = s
    · subst hks
      rw [look_here] at hd; injection hd with hd; subst hd
      exact ⟨h3, hlt⟩
    · rw [look_past _ _ hks] at hd
      exact hst.of s d hd⟩
  exact hK v' _ _ (h5.imp id fun h6 => ⟨_, h6, hnew⟩) hbel (hst2.put hdst rfl)
theorem RunTK.newv {P : Program} {n B : Nat} {ops : Array Oper} {draw : Bool} {C : Env → Prop} {o : Oper} {E : Env} {s : Nat} (p : Nat) (hsp : s ≤ p) (ho : ops[p]? = some o) (hb : draw = false ∨ barrier ops p = true) (h : RunK P B ops ((ops.toList.drop s).take (p - s)) E (fun E₁ => ∃ (G : Value → Prop) (E₂ : Value → Env), EffG P n B ops o E₁ G E₂ ∧ ∀ b, G b → RunTK P n B ops draw C (p + 1) (E₂ b))) : RunTK P n B ops draw C s E := by
  obtain ⟨E₁, h1, G, E₂, h2, h3⟩ := h; exact .effG hsp ho hb h1 h2 h3
/-- The same, where the row needs no name any more. -/
theorem eff_appendVO {P : Program} {n B : Nat} {ops : Array Oper} {E E' : Env} {ty : TypeId} {pos : String} {after : Array Edge} {t e : TypeId} {z : Value} {nb : Nat} {r x : Operand} {k m dst : Nat} {v : Value} {xs : List Value} {f : D} {vs : List Value} (ht : P.underlying t = some (.slice e)) (hinfo : InfoIs P e z nb) (hnb : nb ≤ 64) (hz1 : z.cells.size = 1)
    (hr : E.at r = some (.v v)) (hk : E.look k = some (ownM B v e m xs)) (hx : E.at x = some f) (hf : Le f (lst (vs.map .v))) (h1 : ∀ u ∈ vs, u.oneCell' = true) (hbd : m + vs.length ≤ 1099511627776) (hdst : dst < n) (hkd : k ≠ dst) (hkE : E'.look k = none) (hl : ∀ g, B ≤ g → (v.ownBlock = some g ∨ NewV B E g) → LeftS B e g E' E) :
    Eff P n B ops ⟨some dst, .call { callee := .builtin .append, args := #[r, x], argTypes := #[t, t] }, ty, pos, after, none⟩ E ((dst, own B e (m + vs.length) (xs ++ vs)) :: E') := fun κ a w K Q h hK =>
  eff_appendV ht hinfo hnb hz1 hr hk hx hf h1 hbd hdst hl κ a w K Q h fun v' a' w' _ hbel hst => hK a' w' hbel ⟨hst.base, hst.defers, hst.size, fun s d hd => by
    by_cases hs : dst = s
    · subst hs
      rw [look_here] at hd; injection hd with hd; subst hd
      have h2 : a'.tmps.getD dst undef = v' := hst.of dst _ (look_here _ _ _)
      have h3 := hst.of k _ (by rw [look_past _ _ (Ne.symm hkd), look_here])
      rw [h2]; exact h3
    · rw [look_past _ _ hs] at hd
      by_cases hks : k = s
      · subst hks
        rw [hkE] at hd; cases hd
      · exact hst.of s d (by rw [look_past _ _ hs, look_past _ _ hks]; exact hd)⟩
end Go.Proofs.Ytdnblilocdddpaa
