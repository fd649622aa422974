/-
  OWN TEXTS of this seat, put together, part 3: Vals, Mac, C03a, Fresh, C03b, Hkdf, Any, C04a, Var, RangeX, Write, C04c, Scope, Gf, C05a.
-/
import Derived.Test.YthadcgkcgpinhaaGreatDoorKB2
import Derived.Test.YthadcgkcgpinhaaGreatDoorKB1
import Derived.Laws.IdiomStrings
import Derived.Scope
import Derived.Test.YthadcgkcgpinhaaGreatDoorProg
namespace Go.Proofs.YthadcgkcgpinhaaGreatDoor
open Go Go.RowKit
variable {κ : Cx}

/-- The value v is an own row. -/
def ownM (base : Nat) (v : Value) (e : TypeId) (n : Nat) (xs : List Value) : D :=
  .p (fun B w _ => (own base e n xs).OfB B w v) (fun _ _ _ _ g h => D.OfB.keep h g) (fun _ _ _ _ g h => D.OfB.up h g)
def Disj (v u : Value) : Prop := ∀ g, v.ownBlock = some g → u.ownBlock ≠ some g
theorem Disj.symm {v u : Value} (h : Disj v u) : Disj u v := fun g hu hv => h g hv hu
theorem Disj.nil (u : Value) : Disj (.slice none 0 0) u := fun g h => by simp [Value.ownBlock] at h
theorem Surv.ownM {B T g base n : Nat} {e : TypeId} {u : Value} {xs : List Value} (h : u.ownBlock ≠ some g) : Surv B T g (Go.Proofs.YthadcgkcgpinhaaGreatDoor.ownM base u e n xs) := fun w w' _ k ⟨h1, h2⟩ => by
  obtain ⟨h3, h4⟩ := h1
  refine ⟨⟨h3, h4.imp id ?_⟩, fun j hj => Nat.lt_of_lt_of_le (h2 j hj) k.size⟩
  rintro ⟨j, cap, cur, rfl, hj, hh, hr⟩
  have hne : j ≠ g := fun hb => h (by subst hb; rfl)
  exact ⟨j, cap, cur, rfl, hj, (k.other j (h2 j (by simp [Value.ownBlock])) hne).trans hh, hr⟩
theorem Surv.ownMT {B T g base n : Nat} {e : TypeId} {u : Value} {xs : List Value} (h : e ≠ T) : Surv B T g (Go.Proofs.YthadcgkcgpinhaaGreatDoor.ownM base u e n xs) := fun w w' _ k hx => Surv.own (B := B) (T := T) (g := g) h w w' u k hx
section
variable {P : Program} {w₀ : World} {n : Nat} {c : Code} {E : Env} {Q : Exit → Act → World → Prop}
theorem A.openV {t k m : Nat} {e : TypeId} {xs : List Value} (ht : E.look t = some (own w₀.heap.size e m xs)) (h : ∀ v, A κ P w₀ n c ((t, .v v) :: (k, ownM w₀.heap.size v e m xs) :: E) Q) : A κ P w₀ n c E Q := fun a w g hs => by
  have h1 := hs.of t _ ht
  refine h (a.tmps.getD t undef) a w g ⟨hs.base, hs.defers, hs.size, fun s d hd => ?_⟩
  by_cases hts : t = s
  · subst hts
    rw [look_here] at hd; injection hd with hd; subst hd; rfl
  · rw [look_past _ _ hts] at hd
    by_cases hks : k = s
    · subst hks
      rw [look_here] at hd; injection hd with hd; subst hd; exact h1
    · rw [look_past _ _ hks] at hd
      exact hs.of s d hd
theorem A.nilV {k : Nat} (B : Nat) (e : TypeId) (h : A κ P w₀ n c ((k, ownM B (.slice none 0 0) e 0 []) :: E) Q) : A κ P w₀ n c E Q := fun a w g hs => by
  refine h a w g ⟨hs.base, hs.defers, hs.size, fun s d hd => ?_⟩
  by_cases hks : k = s
  · subst hks
    rw [look_here] at hd; injection hd with hd; subst hd
    exact (own_nil (B := B) (e := e)) _ _ _ (rfl : (D.v (.slice none 0 0)).OfB w.heap.size w (.slice none 0 0))
  · rw [look_past _ _ hks] at hd
    exact hs.of s d hd
end
/-- A row's value, with what its cells hold. -/
theorem ok_moveV {P : Program} {B : Nat} {E : Env} {dst : Option Tmp} {ty : TypeId} {pos : String} {after : Array Edge} {guard : Option (Nat × Bool)} {x : Operand} {k B' m : Nat} {v : Value} {e : TypeId} {xs : List Value} (hkv : vbase ≤ k) (hx : E.at x = some (.v v)) (hk : E.look k = some (ownM B' v e m xs)) :
    OpOk P B ⟨dst, .move x, ty, pos, after, guard⟩ E (own B' e m xs) := fun ρ w _ hv hρ => by
  have h1 : ρ x = v := hρ x (by simp [Op.operands]) _ hx
  exact out_val (x := v) (w' := w) (by simp [execOp, h1]) ⟨Grow.refl w, hv k _ hkv hk⟩
/-- An operation's fact in an environment that knows more. -/
theorem OpOk.subL {P : Program} {B : Nat} {o : Oper} {E₁ E : Env} {d : D} (hs : SubL E₁ E) (h : OpOk P B o E₁ d) : OpOk P B o E d := fun ρ w hB hv hρ => by
  have look : ∀ t e, E₁.look t = some e → ∃ e', E.look t = some e' ∧ Le e' e := fun t e he => hs (t, e) (look_mem he)
  refine h ρ w hB (fun t e ht he => ?_) fun x hx e he => ?_
  · obtain ⟨e', h1, h2⟩ := look t e he
    exact h2.of (hv t e' ht h1)
  · cases x with
    | tmp s =>
      obtain ⟨e', h1, h2⟩ := look s e he
      exact h2.of (hρ (.tmp s) hx e' h1)
    | const c => exact hρ _ hx e he
    | global g => exact hρ _ hx e he
    | func f => exact hρ _ hx e he
/-- A new block's number: above the base, and no named block's or row's. -/
def NewV (B : Nat) (E : Env) (g : Nat) : Prop := B ≤ g ∧ (∀ s b' e xs, E.look s = some (blk b' e xs) → b' < g) ∧ ∀ s B' v e n xs, E.look s = some (ownM B' v e n xs) → v.ownBlock ≠ some g
/-- What an append makes of a row's value. -/
def Step (B : Nat) (E : Env) (v v' : Value) : Prop := v'.ownBlock = v.ownBlock ∨ ∃ g, v'.ownBlock = some g ∧ NewV B E g
theorem Disj.step {B : Nat} {E : Env} {v v' u : Value} {s B' n : Nat} {e : TypeId} {xs : List Value} (hs : Step B E v v') (hd : Disj v u) (hu : E.look s = some (ownM B' u e n xs)) : Disj v' u := fun g hg => by
  rcases hs with h | ⟨g', h, hn⟩
  · exact hd g (h ▸ hg)
  · rw [h] at hg; injection hg with hg; subst hg
    exact hn.2.2 s _ _ _ _ _ hu
theorem eff_appendV {P : Program} {n B : Nat} {ops : Array Oper} {E E' : Env} {ty : TypeId} {pos : String} {after : Array Edge} {t e : TypeId} {z : Value} {nb : Nat} {r x : Operand} {k m dst : Nat} {v : Value} {xs : List Value} {f : D} {vs : List Value} (ht : P.underlying t = some (.slice e)) (hinfo : InfoIs P e z nb) (hnb : nb ≤ 64) (hz1 : z.cells.size = 1)
    (hr : E.at r = some (.v v)) (hk : E.look k = some (ownM B v e m xs)) (hx : E.at x = some f) (hf : Le f (lst (vs.map .v))) (h1 : ∀ u ∈ vs, u.oneCell' = true) (hbd : m + vs.length ≤ 1099511627776) (hdst : dst < n) (hl : ∀ g, B ≤ g → (v.ownBlock = some g ∨ NewV B E g) → LeftS B e g E' E) :
    EffG P n B ops ⟨some dst, .call { callee := .builtin .append, args := #[r, x], argTypes := #[t, t] }, ty, pos, after, none⟩ E (Step B E v) (fun v' => (dst, .v v') :: (k, ownM B v' e (m + vs.length) (xs ++ vs)) :: E') := by
  obtain ⟨i, hi, hz, hs, hby⟩ := hinfo.get
  intro κ a w K Q h hK
  have hre : a.eval r = v := h.at_ r _ hr
  obtain ⟨hown, hob⟩ : (own B e m xs).OfB w.heap.size w v := h.of k _ hk
  obtain ⟨c, A, us, hxe, hle, hcm, hul, hrow, hus⟩ := hf.of (h.at_ x _ hx)
  have huv : us = vs := by
    apply List.ext_getElem?
    intro j
    simp only [List.length_map] at hul
    rcases Nat.lt_or_ge j vs.length with hj | hj
    · have hu : us[j]? = some us[j] := List.getElem?_eq_getElem (by omega)
      have h2 : us[j] = vs[j] := hus j (.v vs[j]) us[j] (by simp [hj]) hu
      rw [hu, h2, List.getElem?_eq_getElem hj]
    · rw [List.getElem?_eq_none (by omega), List.getElem?_eq_none hj]
  subst huv
  simp only [List.length_map] at hxe hle hul
  have hrun : ∃ v' w', (Builtin.append_ #[t, t] ty #[v, .slice A us.length c]).run P w = .ok v' w' ∧ w'.ownsRow B e 1 v' (m + us.length) (xs ++ us) ∧ w.grownBy w' v.ownBlock ∧ (v'.ownBlock = v.ownBlock ∨ v'.ownBlock = some w.heap.size) := by
    have hbb : (m + us.length) * i.bytes ≤ (m + us.length) * 64 := Nat.mul_le_mul_left _ (by omega)
    have hnil : us = [] → ∀ c', (Builtin.append_ #[t, t] ty #[v, .slice none 0 c']).run P w = .ok v w := by
      intro _ c'
      rcases hown.2 with ⟨hv, hn0⟩ | ⟨g, cap, cur, hv, _, _, hnc, _⟩
      · rw [hv]; simp [Builtin.append_, run_underlying ht, sizeOf, typeInfo, hi, Builtin.lenOf, Builtin.firstCells]
      · rw [hv]; simp [Builtin.append_, run_underlying ht, sizeOf, typeInfo, hi, Builtin.lenOf, Builtin.firstCells, hnc, storeCells]
    cases A with
    | none =>
      have hz : us = [] := by
        cases us with
        | nil => rfl
        | cons b l => obtain ⟨ad, h, _⟩ := hrow 0 b rfl; cases h
      subst hz
      exact ⟨v, w, hnil rfl c, by simpa using hown, World.grownBy.refl w _, .inl rfl⟩
    | some ad =>
      obtain ⟨v', w', h2, h3, h4, _, h6⟩ := run_append_own_at (P := P) w B t ty e i z 1 i.bytes ht hi hz hs rfl hz1 (by omega) v m xs hown ad us.length c us (by simp) hrow.cell h1 (by simp only [maxLen]; omega) (by omega) h.base
      exact ⟨v', w', h2, h3, h4, h6⟩
  obtain ⟨v', w', hrun, h3, h4, h5⟩ := hrun
  have hexec : (execOp a.eval ⟨some dst, .call { callee := .builtin .append, args := #[r, x], argTypes := #[t, t] }, ty, pos, after, none⟩).run P w = .ok (.value v') w' := by
    simp [execOp, resolve, invoke, builtin, hre, hxe, hrun]
  rw [if_pos (by simp [Region.wanted])]
  refine opR (by nofun) ?_
  unfold Oper.wp
  rw [hexec, Oper.upon_value]
  have hnew : NewV B E w.heap.size := ⟨h.base, fun s b' e' ys hs => (h.of s _ hs).1, fun s B' u e' n' ys hs hu => by
    have := (h.of s _ hs).2 _ hu
    omega⟩
  have hbase : ∀ g, v.ownBlock = some g → B ≤ g := fun g hg => by
    rcases hown.2 with ⟨hv, _⟩ | ⟨g', cap, cur, hv, hb, _⟩
    · rw [hv] at hg; simp [Value.ownBlock] at hg
    · rw [hv] at hg; simp [Value.ownBlock] at hg; omega
  have hbel : Below B w w' := (Below.refl B w).grown h4 h.base hbase
  have hlt : ∀ g, v'.ownBlock = some g → g < w'.heap.size := fun g hg => by
    rcases h3.2 with ⟨hv, _⟩ | ⟨g', cap, cur, hv, _, hh, _⟩
    · rw [hv] at hg; simp [Value.ownBlock] at hg
    · rw [hv] at hg; simp [Value.ownBlock] at hg; subst hg
      rcases Nat.lt_or_ge g' w'.heap.size with h | h
      · exact h
      · rw [Array.getElem?_eq_none h] at hh; cases hh
  have hwr : ∃ g, (v.ownBlock = some g ∨ NewV B E g) ∧ Wrote B e g w w' := by
    rcases hown.2 with ⟨hv, _⟩ | ⟨g', cap, cur, hv, hb, hh, _⟩
    · refine ⟨w.heap.size, .inr hnew, h.base, h4.os, h4.tape, h4.output, h4.size, fun o hx => ?_, fun k hk _ => h4.block k hk (by rw [hv]; simp [Value.ownBlock])⟩
      rw [Array.getElem?_eq_none (Nat.le_refl _)] at hx; cases hx
    · refine ⟨g', .inl (by rw [hv]; rfl), hb, h4.os, h4.tape, h4.output, h4.size, fun o hx => ?_, fun k hk hne => h4.block k hk (by rw [hv]; simp [Value.ownBlock]; omega)⟩
      rw [hh] at hx; injection hx with hx; exact ⟨_, _, hx.symm⟩
  obtain ⟨g, hg, hwr⟩ := hwr
  have hst : St κ n B E' a w' := (hl g hwr.base hg).st h hwr
  have hst2 : St κ n B ((k, ownM B v' e (m + us.length) (xs ++ us)) :: E') a w' := ⟨hst.base, hst.defers, hst.size, fun s d hd => by
    by_cases hks : k = s
    · subst hks
      rw [look_here] at hd; injection hd with hd; subst hd
      exact ⟨h3, hlt⟩
    · rw [look_past _ _ hks] at hd
      exact hst.of s d hd⟩
  exact hK v' _ _ (h5.imp id fun h6 => ⟨_, h6, hnew⟩) hbel (hst2.put hdst rfl)
theorem RunTK.newv {P : Program} {n B : Nat} {ops : Array Oper} {draw : Bool} {C : Env → Prop} {o : Oper} {E : Env} {s : Nat} (p : Nat) (hsp : s ≤ p) (ho : ops[p]? = some o) (hb : draw = false ∨ barrier ops p = true) (h : RunK P B ops ((ops.toList.drop s).take (p - s)) E (fun E₁ => ∃ (G : Value → Prop) (E₂ : Value → Env), EffG P n B ops o E₁ G E₂ ∧ ∀ b, G b → RunTK P n B ops draw C (p + 1) (E₂ b))) : RunTK P n B ops draw C s E := by
  obtain ⟨E₁, h1, G, E₂, h2, h3⟩ := h; exact .effG hsp ho hb h1 h2 h3
/-- The same, where the row needs no name any more. -/
theorem eff_appendVO {P : Program} {n B : Nat} {ops : Array Oper} {E E' : Env} {ty : TypeId} {pos : String} {after : Array Edge} {t e : TypeId} {z : Value} {nb : Nat} {r x : Operand} {k m dst : Nat} {v : Value} {xs : List Value} {f : D} {vs : List Value} (ht : P.underlying t = some (.slice e)) (hinfo : InfoIs P e z nb) (hnb : nb ≤ 64) (hz1 : z.cells.size = 1)
    (hr : E.at r = some (.v v)) (hk : E.look k = some (ownM B v e m xs)) (hx : E.at x = some f) (hf : Le f (lst (vs.map .v))) (h1 : ∀ u ∈ vs, u.oneCell' = true) (hbd : m + vs.length ≤ 1099511627776) (hdst : dst < n) (hkd : k ≠ dst) (hkE : E'.look k = none) (hl : ∀ g, B ≤ g → (v.ownBlock = some g ∨ NewV B E g) → LeftS B e g E' E) :
    Eff P n B ops ⟨some dst, .call { callee := .builtin .append, args := #[r, x], argTypes := #[t, t] }, ty, pos, after, none⟩ E ((dst, own B e (m + vs.length) (xs ++ vs)) :: E') := fun κ a w K Q h hK =>
  eff_appendV ht hinfo hnb hz1 hr hk hx hf h1 hbd hdst hl κ a w K Q h fun v' a' w' _ hbel hst => hK a' w' hbel ⟨hst.base, hst.defers, hst.size, fun s d hd => by
    by_cases hs : dst = s
    · subst hs
      rw [look_here] at hd; injection hd with hd; subst hd
      have h2 : a'.tmps.getD dst undef = v' := hst.of dst _ (look_here _ _ _)
      have h3 := hst.of k _ (by rw [look_past _ _ (Ne.symm hkd), look_here])
      rw [h2]; exact h3
    · rw [look_past _ _ hs] at hd
      by_cases hks : k = s
      · subst hks
        rw [hkE] at hd; cases hd
      · exact hst.of s d (by rw [look_past _ _ hs, look_past _ _ hks]; exact hd)⟩
end Go.Proofs.YthadcgkcgpinhaaGreatDoor
namespace Go.Proofs.YthadcgkcgpinhaaGreatDoor
open Go Go.RowKit
def kbase (k : List UInt8) : List UInt8 := if 64 < k.length then sha k else k
def kblock (k : List UInt8) : List UInt8 := kbase k ++ List.replicate (64 - (kbase k).length) 0
theorem kbase_length (k : List UInt8) : (kbase k).length ≤ 64 := by
  unfold kbase; split
  · rw [sha_length]; decide
  · omega
theorem kblock_length (k : List UInt8) : (kblock k).length = 64 := by
  have := kbase_length k
  simp [kblock]; omega
def kpad (c : UInt8) (k : List UInt8) : List UInt8 := (kblock k).map (· ^^^ c)
theorem kpad_length (c : UInt8) (k : List UInt8) : (kpad c k).length = 64 := by simp [kpad, kblock_length]
def hmac (k m : List UInt8) : List UInt8 := sha (kpad 0x5c k ++ sha (kpad 0x36 k ++ m))
theorem hmac_length (k m : List UInt8) : (hmac k m).length = 32 := sha_length _
theorem kblock_get {k : List UInt8} {i : Nat} (h : i < 64) : (kblock k)[i]? = some ((kblock k).getD i 0) := by
  rw [List.getD_eq_getElem?_getD, List.getElem?_eq_getElem (by rw [kblock_length]; exact h)]; rfl
theorem kpad_get {c : UInt8} {k : List UInt8} {i : Nat} (h : i < 64) : (kpad c k)[i]? = some ((kblock k).getD i 0 ^^^ c) := by
  rw [kpad, List.getElem?_map, kblock_get h]; rfl
theorem kpad_step {c : UInt8} {k : List UInt8} {i : Nat} (h : i < 64) : ((kpad c k).take i).map byteV ++ [byteV ((kblock k).getD i 0 ^^^ c)] = ((kpad c k).take (i + 1)).map byteV := by
  rw [List.take_add_one, kpad_get h]; simp
theorem map_getB {l : List UInt8} {i : Nat} (h : i < l.length) : (l.map byteV)[i]? = some (byteV (l.getD i 0)) := by
  rw [List.getElem?_map, List.getElem?_eq_getElem h, List.getD_eq_getElem?_getD, List.getElem?_eq_getElem h]; rfl
/-! ### Ways of computing these -/
/-- A key block whose first i bytes are exclusive-ored with c. -/
def kpart (c : UInt8) (k : List UInt8) (i : Nat) : List UInt8 := (kpad c k).take i ++ (kblock k).drop i
theorem kpart_zero (c : UInt8) (k : List UInt8) : kpart c k 0 = kblock k := by simp [kpart]
theorem kpart_full (c : UInt8) (k : List UInt8) : kpart c k 64 = kpad c k := by
  rw [kpart, List.take_of_length_le (by rw [kpad_length]; exact Nat.le_refl _), List.drop_eq_nil_of_le (by rw [kblock_length]; exact Nat.le_refl _), List.append_nil]
theorem kpart_length {c : UInt8} {k : List UInt8} {i : Nat} (h : i ≤ 64) : (kpart c k i).length = 64 := by
  rw [kpart, List.length_append, List.length_take, List.length_drop, kpad_length, kblock_length]; omega
theorem kpart_get {c : UInt8} {k : List UInt8} {i : Nat} (h : i < 64) : ((kpart c k i).map byteV)[i]? = some (byteV ((kblock k).getD i 0)) := by
  have hl : ((kpad c k).take i).length = i := by rw [List.length_take, kpad_length]; omega
  rw [List.getElem?_map, kpart, List.getElem?_append_right (by omega), hl, Nat.sub_self, List.getElem?_drop, Nat.add_zero, kblock_get h]
  rfl
theorem kpart_set {c : UInt8} {k : List UInt8} {i : Nat} (h : i < 64) : ((kpart c k i).map byteV).set i (byteV ((kblock k).getD i 0 ^^^ c)) = (kpart c k (i + 1)).map byteV := by
  have hl : ((kpad c k).take i).length = i := by rw [List.length_take, kpad_length]; omega
  rw [← List.map_set, kpart, List.set_append_right _ _ (by omega), hl, Nat.sub_self, List.drop_eq_getElem_cons (by rw [kblock_length]; exact h), List.set_cons_zero, kpart, List.take_add_one, kpad_get h]
  simp
theorem kblock_copy {k l : List UInt8} (h : kbase k = l) : (List.replicate 64 (Value.int .u8 0)).take 0 ++ (l.take 64).map byteV ++ (List.replicate 64 (Value.int .u8 0)).drop (0 + min l.length 64) = (kblock k).map byteV := by
  have hk := kbase_length k
  rw [h] at hk
  rw [kblock, h, List.take_zero, List.nil_append, List.take_of_length_le hk, Nat.zero_add, Nat.min_eq_left hk, List.drop_replicate, List.map_append, List.map_replicate]
  rfl
end Go.Proofs.YthadcgkcgpinhaaGreatDoor
namespace Go.Proofs.YthadcgkcgpinhaaGreatDoor
open Go Go.RowKit
set_option linter.unusedVariables false
set_option maxRecDepth 20000

theorem ref3Block_fnB (l : List UInt8) (hl : l.length ≤ 1000000) : FnB Tryz.prog 47 [byt l] (fun B => own B 5 64 ((kblock l).map byteV)) := by
 have hkb := kbase_length l
 refine FnB.of Tryz.func47 rfl (by kernel_rfl) Tryz.ntmps47 (by simp) (fun w => [(0, old w.heap.size (byt l))]) (fun w => (Start.old rfl Start.nil)) fun w₀ => ?_
 refine GS ?_
 refine TL ?_
 refine RA rfl ?_
 refine RN ?_
 refine GS ?_
 refine TF 2 ?_
 refine RS (ok_build0own Tryz.underlying49 info5) ?_
 refine RM rfl ?_
 refine RN ?_
 refine ⟨_, eff_appendS (vs := l.map byteV) Tryz.underlying49 info5 (by decide) rfl rfl rfl ((Le.old _ _).trans (Le.eq (byt_vals l))) (by simp [byteV, Value.oneCell']) (by simp; omega) (by decide) (fun g hg => (LO 0 rfl LN)), ?_⟩
 refine TL ?_
 refine RA rfl ?_
 refine RN ?_
 refine A.seq ?_
 refine GS ?_
 refine TL ?_
 refine RM rfl ?_
 refine RS (ok_lenB Tryz.underlying49 rfl (Le.old _ _)) ?_
 refine RB rfl rfl rfl ?_
 refine RN ?_
 refine A.cond rfl (fun hc10 => ?_) (fun hc10 => ?_)
 ·have h64 : 64 < l.length := by simp at hc10; omega
  refine GS ?_
  refine TN 2 ?_
  refine RM rfl ?_
  refine RS (ok_call (refSum_fn l (by omega)) (Args.cons rfl (Le.old _ _) Args.nil)) ?_
  refine RN ?_
  refine ⟨_, _, eff_alloc (n := 23) (d := 4) (k := 1000004) zero34 (by decide), fun b4 hb4 => ?_⟩
  have hBb4 := hb4.1
  refine TF 3 ?_
  refine RN ?_
  refine ⟨_, eff_storeA (n := 23) (s := 1000004) (size34.of (by rw [List.length_map, sha_length])) rfl rfl (all_bytes _) hBb4 rfl (by rw [List.length_map, sha_length, List.length_replicate]) (LV 4 rfl LN), ?_⟩
  refine TL ?_
  refine RN ?_
  refine GE ?_
  refine TF 2 ?_
  refine RS (ok_build0own Tryz.underlying49 info5) ?_
  refine RS (ok_sliceA (s := 1000004) 0 32 (by decide) Tryz.underlying34 info5 rfl rfl (.inr ⟨rfl, rfl⟩) (.inr ⟨rfl, rfl⟩) (by omega) (by omega) (by rw [List.length_map, sha_length]) (by decide)) ?_
  refine RN ?_
  refine ⟨_, eff_appendS (vs := (sha l).map byteV) Tryz.underlying49 info5 (by decide) rfl rfl rfl (Le.eq (by rw [List.drop_zero, List.take_of_length_le (by rw [List.length_map, sha_length]; exact Nat.le_refl _)])) (by simp [byteV, Value.oneCell']) (by simp [sha_length]) (by decide) (fun g hg => (LT 1000004 rfl LN)), ?_⟩
  refine TL ?_
  refine RA rfl ?_
  refine RN ?_
  refine EN ?_
  refine A.seq ?_
  refine A.block ?_
  refine A.loop (ι := Nat) (fun z => (kbase l).length + z ≤ 64) (fun z => [(3, own w₀.heap.size 5 ((kbase l).length + z) ((kbase l ++ List.replicate z 0).map byteV))]) (fun z => 64 - ((kbase l).length + z)) 0 ?_ ?_ ?_
  ·exact hkb
  ·exact (KE 3 rfl (by simp [kbase, h64]) KN)
  intro z hz
  refine A.seq ?_
  refine GS ?_
  refine TL ?_
  refine RM rfl ?_
  refine RS (ok_lenB (l := kbase l ++ List.replicate z 0) Tryz.underlying49 rfl (own_cat rfl (by simp))) ?_
  refine RB rfl rfl rfl ?_
  refine RN ?_
  refine A.cond rfl (fun hc18 => ?_) (fun hc18 => ?_)
  ·have hz2 : (kbase l).length + z < 64 := by simp at hc18; omega
   refine A.skip ?_
   refine EN ?_
   refine A.block ?_
   refine GE ?_
   refine TF 2 ?_
   refine RM rfl ?_
   refine RS (ok_build [byteD (0)] Tryz.underlying49 info5 rfl (by decide) (by decide) rfl ⟨rfl, rfl, trivial⟩ (fun d hd w x h => by simp only [List.mem_cons, List.not_mem_nil, or_false] at hd; rcases hd with rfl; exact v_one rfl h)) ?_
   refine RN ?_
   refine ⟨_, eff_appendS (vs := [byteV 0]) Tryz.underlying49 info5 (by decide) rfl rfl rfl (le_lst _ _) (by simp [byteV, Value.oneCell']) (by simp; omega) (by decide) (fun g hg => LN), ?_⟩
   refine TL ?_
   refine RA rfl ?_
   refine RN ?_
   refine End.normal_block ?_
   refine End.normal_then ?_
   refine End.again (z + 1) ?_ ?_ ?_
   ·show _ ≤ _; omega
   ·show _ - _ < _ - _; omega
   ·exact (KE 3 rfl (by rw [List.replicate_succ']; simp [Nat.add_assoc]) KN)
  ·have hz2 : z = 64 - (kbase l).length := by simp at hc18; omega
   refine A.exit ?_
   refine End.exit_then ?_
   refine End.exit_then ?_
   refine End.exit_here ?_
   refine EN ?_
   refine GS ?_
   refine TL ?_
   refine RM rfl ?_
   refine RA rfl ?_
   refine RN ?_
   refine A.ret ?_
   exact End.ret1 rfl rfl (Le.eq (by rw [hz2, kblock]; congr 1; omega))
 ·have h64 : ¬ 64 < l.length := by simp at hc10; omega
  refine A.skip ?_
  refine EN ?_
  refine A.seq ?_
  refine A.block ?_
  refine A.loop (ι := Nat) (fun z => (kbase l).length + z ≤ 64) (fun z => [(3, own w₀.heap.size 5 ((kbase l).length + z) ((kbase l ++ List.replicate z 0).map byteV))]) (fun z => 64 - ((kbase l).length + z)) 0 ?_ ?_ ?_
  ·exact hkb
  ·exact (KE 3 rfl (by simp [kbase, h64]) KN)
  intro z hz
  refine A.seq ?_
  refine GS ?_
  refine TL ?_
  refine RM rfl ?_
  refine RS (ok_lenB (l := kbase l ++ List.replicate z 0) Tryz.underlying49 rfl (own_cat rfl (by simp))) ?_
  refine RB rfl rfl rfl ?_
  refine RN ?_
  refine A.cond rfl (fun hc18 => ?_) (fun hc18 => ?_)
  ·have hz2 : (kbase l).length + z < 64 := by simp at hc18; omega
   refine A.skip ?_
   refine EN ?_
   refine A.block ?_
   refine GE ?_
   refine TF 2 ?_
   refine RM rfl ?_
   refine RS (ok_build [byteD (0)] Tryz.underlying49 info5 rfl (by decide) (by decide) rfl ⟨rfl, rfl, trivial⟩ (fun d hd w x h => by simp only [List.mem_cons, List.not_mem_nil, or_false] at hd; rcases hd with rfl; exact v_one rfl h)) ?_
   refine RN ?_
   refine ⟨_, eff_appendS (vs := [byteV 0]) Tryz.underlying49 info5 (by decide) rfl rfl rfl (le_lst _ _) (by simp [byteV, Value.oneCell']) (by simp; omega) (by decide) (fun g hg => LN), ?_⟩
   refine TL ?_
   refine RA rfl ?_
   refine RN ?_
   refine End.normal_block ?_
   refine End.normal_then ?_
   refine End.again (z + 1) ?_ ?_ ?_
   ·show _ ≤ _; omega
   ·show _ - _ < _ - _; omega
   ·exact (KE 3 rfl (by rw [List.replicate_succ']; simp [Nat.add_assoc]) KN)
  ·have hz2 : z = 64 - (kbase l).length := by simp at hc18; omega
   refine A.exit ?_
   refine End.exit_then ?_
   refine End.exit_then ?_
   refine End.exit_here ?_
   refine EN ?_
   refine GS ?_
   refine TL ?_
   refine RM rfl ?_
   refine RA rfl ?_
   refine RN ?_
   refine A.ret ?_
   exact End.ret1 rfl rfl (Le.eq (by rw [hz2, kblock]; congr 1; omega))
set_option maxHeartbeats 1000000 in
theorem ref3Sum_fn (k m : List UInt8) (hk : k.length ≤ 1000000) (hm : m.length ≤ 10000) : Fn Tryz.prog 29 [byt k, byt m] (.v (aggV ((hmac k m).map byteV))) := by
 refine Fn.of Tryz.func29 rfl (by kernel_rfl) Tryz.ntmps29 (by simp) (fun w => [(0, old w.heap.size (byt k)), (1, old w.heap.size (byt m))]) (fun w => (Start.old rfl (Start.old rfl Start.nil))) fun w₀ => ?_
 refine GS ?_
 refine TN 0 ?_
 refine RN ?_
 refine ⟨_, _, eff_alloc (n := 40) (d := 4) (k := 1000004) zero34 (by decide), fun b4 hb4 => ?_⟩
 have hBb4 := hb4.1
 refine TL ?_
 refine RN ?_
 refine GS ?_
 refine TL ?_
 refine RM rfl ?_
 refine RS (ok_callB (ref3Block_fnB k hk) (fun _ _ h => own_mono h) (Args.cons rfl (Le.old _ _) Args.nil)) ?_
 refine RA rfl ?_
 refine RN ?_
 refine A.openV (t := 5) (k := 1000205) rfl fun v5 => ?_
 refine GS ?_
 refine TL ?_
 refine RA rfl ?_
 refine RA rfl ?_
 refine RN ?_
 refine A.nilV (k := 1000206) w₀.heap.size 5 ?_
 refine A.nilV (k := 1000207) w₀.heap.size 5 ?_
 refine A.seq ?_
 refine GS ?_
 refine TL ?_
 refine RA rfl ?_
 refine RN ?_
 refine A.block ?_
 refine A.loop (ι := (Nat × Value × Value)) (fun s => s.1 ≤ 64 ∧ Disj s.2.1 s.2.2 ∧ Disj s.2.1 v5 ∧ Disj s.2.2 v5) (fun s => [(1, old w₀.heap.size (byt m)), (4, .v (.pointer (some ⟨b4, 0, none⟩))), (5, .v v5), (6, .v s.2.1), (7, .v s.2.2), (8, .v (.int .i64 ((s.1 : Nat) : Int))), (1000004, blk b4 34 (List.replicate 32 (.int .u8 0))), (1000205, ownM w₀.heap.size v5 5 (64) ((kblock k).map byteV)), (1000206, ownM w₀.heap.size s.2.1 5 (s.1) (((kpad 54 k).take s.1).map byteV)), (1000207, ownM w₀.heap.size s.2.2 5 (s.1) (((kpad 92 k).take s.1).map byteV))]) (fun s => 64 - s.1) (0, .slice none 0 0, .slice none 0 0) ?_ ?_ ?_
 ·exact ⟨Nat.zero_le _, Disj.nil _, Disj.nil _, Disj.nil _⟩
 ·exact (KC 1 rfl (KC 4 rfl (KC 5 rfl (KC 6 rfl (KC 7 rfl (KC 8 rfl (KC 1000004 rfl (KC 1000205 rfl (KE 1000206 rfl (by simp) (KE 1000207 rfl (by simp) KN))))))))))
 intro s hs
 obtain ⟨v6, hv6⟩ : ∃ v, s.2.1 = v := ⟨_, rfl⟩
 obtain ⟨v7, hv7⟩ : ∃ v, s.2.2 = v := ⟨_, rfl⟩
 rw [hv6, hv7] at hs
 obtain ⟨hi, hd_v6_v7, hd_v6_v5, hd_v7_v5⟩ := hs
 have hd_v7_v6 := hd_v6_v7.symm
 rw [hv6, hv7]
 refine A.seq ?_
 refine GS ?_
 refine TL ?_
 refine RM rfl ?_
 refine RB rfl rfl rfl ?_
 refine RN ?_
 refine A.cond rfl (fun hc13 => ?_) (fun hc13 => ?_)
 ·have hlt : s.1 < 64 := by simp at hc13; omega
  refine A.skip ?_
  refine EN ?_
  refine A.seq ?_
  refine A.block ?_
  refine GS ?_
  refine RunTK.newv 7 (by decide) rfl (.inl rfl) ?_
  refine RM rfl ?_
  refine RS (ok_moveV (k := 1000205) (by decide) rfl rfl) ?_
  refine RM rfl ?_
  refine RS (ok_index (d := byteD ((kblock k).getD s.1 0)) Tryz.underlying49 info5 rfl (own_cat rfl (kblock_length k).symm) rfl (by omega) (by rw [Int.toNat_natCast, List.getElem?_map, kblock_get hlt]; rfl)) ?_
  refine RS (ok_load Tryz.underlying5 rfl rfl) ?_
  refine RBS rfl rfl rfl (byteV ((kblock k).getD s.1 0 ^^^ 54)) (congrArg (Value.int .u8) (xor_u8_nat ((kblock k).getD s.1 0) 54)) ?_
  refine RS (ok_build [byteD ((kblock k).getD s.1 0 ^^^ 54)] Tryz.underlying49 info5 rfl (by decide) (by decide) rfl ⟨rfl, rfl, trivial⟩ (fun d hd w x h => by simp only [List.mem_cons, List.not_mem_nil, or_false] at hd; rcases hd with rfl; exact v_one rfl h)) ?_
  refine RN ?_
  refine ⟨_, _, eff_appendV (n := 40) (k := 1000206) (vs := [byteV ((kblock k).getD s.1 0 ^^^ 54)]) Tryz.underlying49 info5 (by decide) rfl rfl rfl rfl (le_lst _ _) (by simp [byteV, Value.oneCell']) (by simp; omega) (by decide) (fun g hB hg => (LO 1 rfl (LV 4 rfl (LV 5 rfl (LV 6 rfl (LV 7 rfl (LV 8 rfl (LV 13 rfl (LV 16 rfl (LV 18 rfl (LV 20 rfl (LV 21 rfl (LT 1000004 rfl (LeftS.cons (t := 1000205) rfl (Surv.ownM (by rcases hg with hg | hg; exact hd_v6_v5 g hg; exact hg.2.2 1000205 _ _ _ _ _ rfl)) (LeftS.cons (t := 1000207) rfl (Surv.ownM (by rcases hg with hg | hg; exact hd_v6_v7 g hg; exact hg.2.2 1000207 _ _ _ _ _ rfl)) LN))))))))))))))), fun v6a hv6a => ?_⟩
  have hd_v6a_v5 := Disj.step hv6a hd_v6_v5 (s := 1000205) rfl
  have hd_v5_v6a := hd_v6a_v5.symm
  have hd_v6a_v7 := Disj.step hv6a hd_v6_v7 (s := 1000207) rfl
  have hd_v7_v6a := hd_v6a_v7.symm
  refine TL ?_
  refine RA rfl ?_
  refine RN ?_
  refine GE ?_
  refine RunTK.newv 7 (by decide) rfl (.inl rfl) ?_
  refine RM rfl ?_
  refine RS (ok_moveV (k := 1000205) (by decide) rfl rfl) ?_
  refine RM rfl ?_
  refine RS (ok_index (d := byteD ((kblock k).getD s.1 0)) Tryz.underlying49 info5 rfl (own_cat rfl (kblock_length k).symm) rfl (by omega) (by rw [Int.toNat_natCast, List.getElem?_map, kblock_get hlt]; rfl)) ?_
  refine RS (ok_load Tryz.underlying5 rfl rfl) ?_
  refine RBS rfl rfl rfl (byteV ((kblock k).getD s.1 0 ^^^ 92)) (congrArg (Value.int .u8) (xor_u8_nat ((kblock k).getD s.1 0) 92)) ?_
  refine RS (ok_build [byteD ((kblock k).getD s.1 0 ^^^ 92)] Tryz.underlying49 info5 rfl (by decide) (by decide) rfl ⟨rfl, rfl, trivial⟩ (fun d hd w x h => by simp only [List.mem_cons, List.not_mem_nil, or_false] at hd; rcases hd with rfl; exact v_one rfl h)) ?_
  refine RN ?_
  refine ⟨_, _, eff_appendV (n := 40) (k := 1000207) (vs := [byteV ((kblock k).getD s.1 0 ^^^ 92)]) Tryz.underlying49 info5 (by decide) rfl rfl rfl rfl (le_lst _ _) (by simp [byteV, Value.oneCell']) (by simp; omega) (by decide) (fun g hB hg => (LO 1 rfl (LV 4 rfl (LV 5 rfl (LV 6 rfl (LV 7 rfl (LV 8 rfl (LV 24 rfl (LV 26 rfl (LV 28 rfl (LV 29 rfl (LT 1000004 rfl (LeftS.cons (t := 1000205) rfl (Surv.ownM (by rcases hg with hg | hg; exact hd_v7_v5 g hg; exact hg.2.2 1000205 _ _ _ _ _ rfl)) (LeftS.cons (t := 1000206) rfl (Surv.ownM (by rcases hg with hg | hg; exact hd_v7_v6a g hg; exact hg.2.2 1000206 _ _ _ _ _ rfl)) LN)))))))))))))), fun v7a hv7a => ?_⟩
  have hd_v7a_v5 := Disj.step hv7a hd_v7_v5 (s := 1000205) rfl
  have hd_v5_v7a := hd_v7a_v5.symm
  have hd_v7a_v6a := Disj.step hv7a hd_v7_v6a (s := 1000206) rfl
  have hd_v6a_v7a := hd_v7a_v6a.symm
  refine TL ?_
  refine RA rfl ?_
  refine RN ?_
  refine End.normal_block ?_
  refine EN ?_
  refine GE ?_
  refine TL ?_
  refine RM rfl ?_
  refine RBS rfl rfl rfl (.int .i64 ((s.1 + 1 : Nat) : Int)) (by rw [wrap_i64 (by omega) (by omega)]; first | rfl | (congr 1; omega)) ?_
  refine RA rfl ?_
  refine RN ?_
  refine End.normal_then ?_
  refine End.again (s.1 + 1, v6a, v7a) ?_ ?_ ?_
  ·exact ⟨by show _ ≤ _; omega, hd_v6a_v7a, hd_v6a_v5, hd_v7a_v5⟩
  ·show _ - _ < _ - _; omega
  ·exact (KC 1 rfl (KC 4 rfl (KC 5 rfl (KC 6 rfl (KC 7 rfl (KC 8 rfl (KC 1000004 rfl (KC 1000205 rfl (KE 1000206 rfl (congrArg (ownM _ _ _ _) (kpad_step hlt)) (KE 1000207 rfl (congrArg (ownM _ _ _ _) (kpad_step hlt)) KN))))))))))
 ·have hse : s.1 = 64 := by simp at hc13; omega
  rw [hse]
  refine A.exit ?_
  refine End.exit_then ?_
  refine End.exit_then ?_
  refine End.exit_here ?_
  refine EN ?_
  refine GS ?_
  refine TF 2 ?_
  refine RM rfl ?_
  refine RM rfl ?_
  refine RN ?_
  refine ⟨_, eff_appendVO (n := 40) (k := 1000206) (vs := m.map byteV) Tryz.underlying49 info5 (by decide) rfl rfl rfl rfl ((Le.old _ _).trans (Le.eq (byt_vals m))) (by simp [byteV, Value.oneCell']) (by simp; omega) (by decide) (by decide) rfl (fun g hB hg => (LO 1 rfl (LV 4 rfl (LV 5 rfl (LV 6 rfl (LV 7 rfl (LV 8 rfl (LV 13 rfl (LV 32 rfl (LO 33 rfl (LT 1000004 rfl (LeftS.cons (t := 1000205) rfl (Surv.ownM (by rcases hg with hg | hg; exact hd_v6_v5 g hg; exact hg.2.2 1000205 _ _ _ _ _ rfl)) (LeftS.cons (t := 1000207) rfl (Surv.ownM (by rcases hg with hg | hg; exact hd_v6_v7 g hg; exact hg.2.2 1000207 _ _ _ _ _ rfl)) LN))))))))))))), ?_⟩
  refine TN 4 ?_
  refine RS (ok_call (refSum_fn (kpad 54 k ++ m) (by simp [kpad_length]; omega)) (Args.cons rfl (own_cat (by simp [List.take_of_length_le, kpad_length]) (by simp [kpad_length])) Args.nil)) ?_
  refine RN ?_
  refine ⟨_, _, eff_alloc (n := 40) (d := 9) (k := 1000009) zero34 (by decide), fun b9 hb9 => ?_⟩
  have hBb9 := hb9.1
  have hlt_b4_b9 : b4 < b9 := hb9.2 1000004 _ _ _ rfl
  refine TF 5 ?_
  refine RN ?_
  refine ⟨_, eff_storeA (n := 40) (s := 1000009) (size34.of (by rw [List.length_map, sha_length])) rfl rfl (all_bytes _) hBb9 rfl (by rw [List.length_map, sha_length, List.length_replicate]) (LV 4 rfl (LV 7 rfl (LV 9 rfl (LB 1000004 rfl (LeftS.cons (t := 1000205) rfl (Surv.ownMT (by decide)) (LeftS.cons (t := 1000207) rfl (Surv.ownMT (by decide)) LN)))))), ?_⟩
  refine TL ?_
  refine RN ?_
  refine GS ?_
  refine TF 2 ?_
  refine RM rfl ?_
  refine RS (ok_sliceA (s := 1000009) 0 32 (by decide) Tryz.underlying34 info5 rfl rfl (.inr ⟨rfl, rfl⟩) (.inr ⟨rfl, rfl⟩) (by omega) (by omega) (by rw [List.length_map, sha_length]) (by decide)) ?_
  refine RN ?_
  refine ⟨_, eff_appendVO (n := 40) (k := 1000207) (vs := (sha (kpad 54 k ++ m)).map byteV) Tryz.underlying49 info5 (by decide) rfl rfl rfl rfl (Le.eq (by rw [List.drop_zero, List.take_of_length_le (by rw [List.length_map, sha_length]; exact Nat.le_refl _)])) (by simp [byteV, Value.oneCell']) (by simp [sha_length]) (by decide) (by decide) rfl (fun g hB hg => (LV 4 rfl (LV 7 rfl (LV 9 rfl (LV 36 rfl (LT 1000004 rfl (LT 1000009 rfl (LeftS.cons (t := 1000205) rfl (Surv.ownM (by rcases hg with hg | hg; exact hd_v7_v5 g hg; exact hg.2.2 1000205 _ _ _ _ _ rfl)) LN)))))))), ?_⟩
  refine TF 4 ?_
  refine RS (ok_call (refSum_fn (kpad 92 k ++ sha (kpad 54 k ++ m)) (by simp [kpad_length, sha_length])) (Args.cons rfl (own_cat (by simp [List.take_of_length_le, kpad_length]) (by simp [kpad_length])) Args.nil)) ?_; refine RZ (aggV ((hmac k m).map byteV)) (rfl) ?_
  refine RN ?_
  refine ⟨_, eff_storeA (n := 40) (s := 1000004) (size34.of (by rw [List.length_map, hmac_length])) rfl rfl (all_bytes _) hBb4 rfl (by rw [List.length_map, hmac_length, List.length_replicate]) (LV 4 rfl (LB 1000009 rfl (LeftS.cons (t := 1000205) rfl (Surv.ownMT (by decide)) LN))), ?_⟩
  refine TL ?_
  refine RN ?_
  refine A.ret ?_
  exact End.cell1 (s := 1000004) rfl Tryz.underlying34 rfl (size34.of (by rw [List.length_map, hmac_length])) rfl rfl (Le.refl _)
end Go.Proofs.YthadcgkcgpinhaaGreatDoor
namespace Go.Proofs.YthadcgkcgpinhaaGreatDoor
open Go Go.RowKit
section
variable {P : Program} {n B : Nat} {ops : Array Oper} {E : Env} {ty : TypeId} {pos : String} {after : Array Edge}
/-- Blocks that the environment knows whole. -/
def Named (E : Env) (L : List Nat) : Prop := ∀ b ∈ L, ∃ s e xs, vbase ≤ s ∧ E.look s = some (blk b e xs)
theorem Named.nil : Named E [] := fun _ h => by cases h
theorem Named.cons {b s : Nat} {e : TypeId} {xs : List Value} {L : List Nat} (hs : vbase ≤ s) (h : E.look s = some (blk b e xs)) (hr : Named E L) : Named E (b :: L) := fun b' hb => by
  rcases List.mem_cons.1 hb with rfl | hb
  · exact ⟨s, e, xs, hs, h⟩
  · exact hr b' hb
/-- A pointer to a block of its own, above the blocks L. -/
def freshV (base : Nat) (L : List Nat) (T : TypeId) (zs : List Value) : D :=
  .p (fun B w x => ∃ b, x = .pointer (some ⟨b, 0, none⟩) ∧ base ≤ b ∧ (∀ b' ∈ L, b' < b) ∧ b < B ∧ w.heap[b]? = some (.cells zs.toArray T (0, 0)))
    (fun _ _ _ _ g ⟨b, h1, h2, h3, h4, h5⟩ => ⟨b, h1, h2, h3, h4, (g.block b h4).trans h5⟩) (fun _ _ _ _ g ⟨b, h1, h2, h3, h4, h5⟩ => ⟨b, h1, h2, h3, by omega, h5⟩)
theorem ok_allocF {dst : Option Tmp} {guard : Option (Nat × Bool)} {T : TypeId} {zs : List Value} (L : List Nat) (hz : ZeroIs P T zs) (hL : Named E L) : OpOk P B ⟨dst, .alloc T, ty, pos, after, guard⟩ E (freshV B L T zs) := fun ρ w hB hv _ => by
  obtain ⟨i, z, hi, hz, hc⟩ := hz.get
  refine out_val (x := .pointer (some ⟨w.heap.size, 0, none⟩)) (w' := w.alloc (.cells zs.toArray T)) (by simp [execOp, Instr.alloc, zeroValue, typeInfo, hi, hz, newVar, newRow, hc]) ⟨Grow.alloc w _, w.heap.size, rfl, hB, fun b' hb' => ?_, by simp, heap_alloc_new w _⟩
  obtain ⟨s, e, xs, hs, hl⟩ := hL b' hb'
  exact (hv s _ hs hl).1
/-- The number of such a block. -/
def NewF (B : Nat) (L : List Nat) (b : Nat) : Prop := B ≤ b ∧ ∀ b' ∈ L, b' < b
theorem eff_storeF {T : TypeId} {x : Operand} {d k : Nat} {L : List Nat} {zs ys : List Value} {E' : Env} (hsz : SizeIs P T ys.length) (hp : E.look d = some (freshV B L T zs)) (hx : E.at x = some (.v (aggV ys))) (h1 : ys.all (·.oneCell') = true) (ho : zs.length = ys.length) (hl : ∀ b, NewF B L b → LeftS B T b E' E) :
    EffG P n B ops ⟨none, .store T (.tmp d) x, ty, pos, after, none⟩ E (NewF B L) (fun b => (d, .v (.pointer (some ⟨b, 0, none⟩))) :: (k, blk b T ys) :: E') := by
  intro κ a w K Q h hK
  obtain ⟨b, hp', hb, hL, hlt, hh⟩ := h.of d _ hp
  have hp' : a.eval (.tmp d) = .pointer (some ⟨b, 0, none⟩) := hp'
  have hx' : a.eval x = _ := h.at_ x _ hx
  have hrun : (execOp a.eval ⟨none, .store T (.tmp d) x, ty, pos, after, none⟩).run P w = .ok .skip (w.setRow b ys.toArray) := by
    have := run_storeVar_row (P := P) w b T T zs.toArray ys.toArray hh (by simpa [SizeIs] using hsz) (by simpa using ho) (by simpa using h1)
    simp [execOp, hp', hx', Instr.storeAt, Instr.sureAddr, aggV, this]
  rw [if_pos (by simp [Region.wanted])]
  refine opR (by nofun) ?_
  unfold Oper.wp
  rw [hrun, Oper.upon_skip]
  have hwr := Wrote.setRow hb hh ys.toArray
  have hst := (hl b ⟨hb, hL⟩).st h hwr
  refine hK b _ _ ⟨hb, hL⟩ (hwr.below h.base) ⟨hst.base, hst.defers, hst.size, fun t' e he => ?_⟩
  by_cases hts : d = t'
  · subst hts
    rw [look_here] at he; injection he with he; subst he
    exact hp'
  · rw [look_past _ _ hts] at he
    by_cases hks : k = t'
    · subst hks
      rw [look_here] at he; injection he with he; subst he
      exact ⟨by simpa using hlt, setRow_heap w b _ _ T _ hh⟩
    · rw [look_past _ _ hks] at he
      exact hst.of t' e he
end
end Go.Proofs.YthadcgkcgpinhaaGreatDoor
namespace Go.Proofs.YthadcgkcgpinhaaGreatDoor
open Go Go.RowKit
set_option linter.unusedVariables false
set_option maxRecDepth 20000

set_option maxHeartbeats 1000000 in
theorem macBlock_fn (k : List UInt8) (hk : k.length ≤ 1000) : FnM Tryz.prog 56 tabs [byt k] (.v (aggV ((kblock k).map byteV))) := by
 refine FnM.of Tryz.func56 rfl (by kernel_rfl) Tryz.ntmps56 (by simp) (by decide) (fun w => [(0, old w.heap.size (byt k)), (1900000, tab 0 (H8.list.map u32V)), (1900001, tab 1 (K64.map u32V))]) (fun w => (StartM.old rfl (StartM.m (by simp [tabs]) (by decide) (StartM.m (by simp [tabs]) (by decide) StartM.nil)))) fun w₀ hM => ?_
 have htab := tabs_hi hM
 refine GS ?_
 refine TN 0 ?_
 refine RN ?_
 refine ⟨_, _, eff_alloc (n := 16) (d := 2) (k := 1000002) zero103 (by decide), fun b2 hb2 => ?_⟩
 have hBb2 := hb2.1
 refine TL ?_
 refine RN ?_
 refine GS ?_
 refine TN 0 ?_
 refine RN ?_
 refine ⟨_, _, eff_alloc (n := 16) (d := 3) (k := 1000003) zero103 (by decide), fun b3 hb3 => ?_⟩
 have hBb3 := hb3.1
 have hlt_b2_b3 : b2 < b3 := hb3.2 1000002 _ _ _ rfl
 refine TL ?_
 refine RN ?_
 refine A.seq ?_
 refine GS ?_
 refine TL ?_
 refine RM rfl ?_
 refine RS (ok_lenB Tryz.underlying49 rfl (Le.old _ _)) ?_
 refine RB rfl rfl rfl ?_
 refine RN ?_
 refine A.cond rfl (fun hc7 => ?_) (fun hc7 => ?_)
 ·have h64 : 64 < k.length := by simp at hc7; omega
  obtain ⟨L, hL⟩ : ∃ L, sha k = L := ⟨_, rfl⟩
  have hkb : kbase k = L := by rw [kbase, if_pos h64, hL]
  refine GS ?_
  refine TN 3 ?_
  refine RM rfl ?_
  refine RS (ok_build [old w₀.heap.size (byt k)] Tryz.underlying102 info49 rfl (by decide) (by decide) rfl ⟨rfl, rfl, trivial⟩ (fun d hd w x h => by simp only [List.mem_cons, List.not_mem_nil, or_false] at hd; subst hd; exact old_one (fun _ _ h => lst_one h) h)) ?_
  refine RS (ok_callM (Of_fn [k] k (by simp) (by simp) (by omega)) (Sub.cons rfl (Sub.cons rfl KN)) tabs_v (Args.cons rfl (list_lst1 (Le.old _ _)) Args.nil)) ?_
  refine RN ?_
  refine ⟨_, _, eff_alloc (n := 16) (d := 4) (k := 1000004) zero34 (by decide), fun b4 hb4 => ?_⟩
  have hBb4 := hb4.1
  refine TF 4 ?_
  refine RN ?_
  refine ⟨_, eff_storeA (n := 16) (s := 1000004) (size34.of (by rw [List.length_map, sha_length])) rfl rfl (all_bytes _) hBb4 rfl (by rw [List.length_map, sha_length, List.length_replicate]) (LV 2 rfl (LV 3 rfl (LV 4 rfl (LT 1000002 rfl (LT 1000003 rfl (LeftS.cons (t := 1900000) rfl (Surv.tab (by omega)) (LeftS.cons (t := 1900001) rfl (Surv.tab (by omega)) LN))))))), ?_⟩
  refine TL ?_
  refine RN ?_
  refine GE ?_
  refine TL ?_
  refine RS (ok_sliceA (s := 1000004) 0 32 (by decide) Tryz.underlying34 info5 rfl rfl (.inr ⟨rfl, rfl⟩) (.inr ⟨rfl, rfl⟩) (by omega) (by omega) (by rw [List.length_map, sha_length]) (by decide)) ?_
  refine RA rfl ?_
  refine RN ?_
  refine EN ?_
  refine GS ?_
  refine TF 2 ?_
  refine RS (ok_sliceX (l := 0) (h := 64) (m := 64) Tryz.underlying103 info5 rfl (.inr ⟨rfl, rfl⟩) (.inr ⟨rfl, rfl, rfl⟩) (.inr ⟨rfl, rfl⟩) (by omega) (by omega) (by omega) (.inr rfl)) ?_
  refine RM rfl ?_
  refine RN ?_
  refine ⟨_, eff_copyS (n := 16) (s := 1000003) (l := L) Tryz.underlying49 info5 rfl rfl (by first | exact hL ▸ Le.old _ _ | (rw [← hL]; exact (Le.eq (by rw [byt_vals]; congr 2 <;> rw [List.drop_zero, List.take_of_length_le (by rw [List.length_map, sha_length]; exact Nat.le_refl _)])))) hBb3 rfl (by simp) (by decide) (LV 2 rfl (LV 3 rfl (LB 1000002 rfl (LT 1000004 rfl (LeftS.cons (t := 1900000) rfl (Surv.tab (by omega)) (LeftS.cons (t := 1900001) rfl (Surv.tab (by omega)) LN)))))), ?_⟩
  refine TL ?_
  refine RN ?_
  refine A.sub (KC 2 rfl (KC 3 rfl (KC 1000002 rfl (KE 1000003 rfl (show blk b3 103 _ = blk b3 103 ((kblock k).map byteV) from congrArg _ (kblock_copy hkb)) (KC 1000004 rfl (KC 1900000 rfl (KC 1900001 rfl KN))))))) ?_
  refine GS ?_
  refine TF 1 ?_
  refine RS (ok_loadA (s := 1000003) (by decide) Tryz.underlying103 rfl (size103.of (by rw [List.length_map, kblock_length])) rfl rfl) ?_
  refine RN ?_
  refine ⟨_, eff_storeA (n := 16) (s := 1000002) (size103.of (by rw [List.length_map, kblock_length])) rfl rfl (all_bytes _) hBb2 rfl (by rw [List.length_map, kblock_length, List.length_replicate]) (LV 2 rfl (LB 1000003 rfl (LT 1000004 rfl (LeftS.cons (t := 1900000) rfl (Surv.tab (by omega)) (LeftS.cons (t := 1900001) rfl (Surv.tab (by omega)) LN))))), ?_⟩
  refine TL ?_
  refine RN ?_
  refine A.ret ?_
  exact End.cell1 (s := 1000002) rfl Tryz.underlying103 rfl (size103.of (by rw [List.length_map, kblock_length])) rfl rfl (Le.refl _)
 ·have h64 : ¬ 64 < k.length := by simp at hc7; omega
  obtain ⟨L, hL⟩ : ∃ L, k = L := ⟨_, rfl⟩
  have hkb : kbase k = L := by rw [kbase, if_neg h64, hL]
  refine A.skip ?_
  refine EN ?_
  refine GS ?_
  refine TF 2 ?_
  refine RS (ok_sliceX (l := 0) (h := 64) (m := 64) Tryz.underlying103 info5 rfl (.inr ⟨rfl, rfl⟩) (.inr ⟨rfl, rfl, rfl⟩) (.inr ⟨rfl, rfl⟩) (by omega) (by omega) (by omega) (.inr rfl)) ?_
  refine RM rfl ?_
  refine RN ?_
  refine ⟨_, eff_copyS (n := 16) (s := 1000003) (l := L) Tryz.underlying49 info5 rfl rfl (by first | exact hL ▸ Le.old _ _ | (rw [← hL]; exact (Le.eq (by rw [byt_vals]; congr 2 <;> rw [List.drop_zero, List.take_of_length_le (by rw [List.length_map, sha_length]; exact Nat.le_refl _)])))) hBb3 rfl (by simp) (by decide) (LV 2 rfl (LV 3 rfl (LB 1000002 rfl (LeftS.cons (t := 1900000) rfl (Surv.tab (by omega)) (LeftS.cons (t := 1900001) rfl (Surv.tab (by omega)) LN))))), ?_⟩
  refine TL ?_
  refine RN ?_
  refine A.sub (KC 2 rfl (KC 3 rfl (KC 1000002 rfl (KE 1000003 rfl (show blk b3 103 _ = blk b3 103 ((kblock k).map byteV) from congrArg _ (kblock_copy hkb)) (KC 1900000 rfl (KC 1900001 rfl KN)))))) ?_
  refine GS ?_
  refine TF 1 ?_
  refine RS (ok_loadA (s := 1000003) (by decide) Tryz.underlying103 rfl (size103.of (by rw [List.length_map, kblock_length])) rfl rfl) ?_
  refine RN ?_
  refine ⟨_, eff_storeA (n := 16) (s := 1000002) (size103.of (by rw [List.length_map, kblock_length])) rfl rfl (all_bytes _) hBb2 rfl (by rw [List.length_map, kblock_length, List.length_replicate]) (LV 2 rfl (LB 1000003 rfl (LeftS.cons (t := 1900000) rfl (Surv.tab (by omega)) (LeftS.cons (t := 1900001) rfl (Surv.tab (by omega)) LN)))), ?_⟩
  refine TL ?_
  refine RN ?_
  refine A.ret ?_
  exact End.cell1 (s := 1000002) rfl Tryz.underlying103 rfl (size103.of (by rw [List.length_map, kblock_length])) rfl rfl (Le.refl _)
set_option maxHeartbeats 1000000 in
theorem macKeyed_fn (c : UInt8) (k : List UInt8) : FnM Tryz.prog 57 tabs [.v (aggV ((kblock k).map byteV)), .v (byteV c)] (.v (stV (kpad c k))) := by
 refine FnM.of Tryz.func57 rfl (by kernel_rfl) Tryz.ntmps57 (by simp) (by decide) (fun w => [(0, .v (aggV ((kblock k).map byteV))), (1, .v (byteV c)), (1900000, tab 0 (H8.list.map u32V)), (1900001, tab 1 (K64.map u32V))]) (fun w => (StartM.v rfl (StartM.v rfl (StartM.m (by simp [tabs]) (by decide) (StartM.m (by simp [tabs]) (by decide) StartM.nil))))) fun w₀ hM => ?_
 have htab := tabs_hi hM
 refine GS ?_
 refine TN 0 ?_
 refine RN ?_
 refine ⟨_, _, eff_box (n := 19) (d := 2) (k := 1000002) rfl (by decide), fun b2 hb2 => ?_⟩
 have hBb2 := hb2.1
 refine TN 1 ?_
 refine RN ?_
 refine ⟨_, _, eff_alloc (n := 19) (d := 4) (k := 1000004) zero107 (by decide), fun b4 hb4 => ?_⟩
 have hBb4 := hb4.1
 refine TL ?_
 refine RN ?_
 refine A.seq ?_
 refine GS ?_
 refine TL ?_
 refine RM rfl ?_
 refine RN ?_
 refine A.block ?_
 refine A.loop (ι := Nat) (fun i => i ≤ 64) (fun i => [(1, .v (byteV c)), (2, .v (.pointer (some ⟨b2, 0, none⟩))), (4, .v (.pointer (some ⟨b4, 0, none⟩))), (6, .v (.int .i64 ((i : Nat) : Int))), (1000002, blk b2 103 ((kpart c k i).map byteV)), (1000004, blk b4 107 (List.replicate 8 (.int .u32 0) ++ List.replicate 64 (.int .u8 0) ++ [.int .u64 0])), (1900000, tab 0 (H8.list.map u32V)), (1900001, tab 1 (K64.map u32V))]) (fun i => 64 - i) 0 ?_ ?_ ?_
 ·exact Nat.zero_le _
 ·exact (KC 1 rfl (KC 2 rfl (KC 4 rfl (KC 6 rfl (KE 1000002 rfl (by rw [kpart_zero]) (KC 1000004 rfl (KC 1900000 rfl (KC 1900001 rfl KN))))))))
 intro i hi
 refine GS ?_
 refine TL ?_
 refine RB rfl rfl rfl ?_
 refine RN ?_
 refine A.seq ?_
 refine A.cond rfl (fun hc7 => ?_) (fun hc7 => ?_)
 ·have hlt : i < 64 := by simp at hc7; omega
  refine A.skip ?_
  refine EN ?_
  refine A.seq ?_
  refine A.block ?_
  refine GS ?_
  refine TL ?_
  refine RM rfl ?_
  refine RA rfl ?_
  refine RN ?_
  refine GE ?_
  refine TF 6 ?_
  refine RM rfl ?_
  refine RS (ok_index0 _ Tryz.underlying103 info5 rfl rfl (rfl) (by omega)) ?_
  refine RS (ok_loadV (s := 1000002) (by decide) Tryz.underlying5 rfl rfl rfl (kpart_get (by omega))) ?_
  refine RM rfl ?_
  refine RBS rfl rfl rfl (byteV ((kblock k).getD i 0 ^^^ c)) (congrArg (Value.int .u8) (xor_u8_nat ((kblock k).getD i 0) c)) ?_
  refine RS (ok_index0 _ Tryz.underlying103 info5 rfl rfl (rfl) (by omega)) ?_
  refine RN ?_
  refine ⟨_, eff_storeS (n := 19) (s := 1000002) info5 rfl rfl rfl hBb2 rfl (by rw [List.length_map, kpart_length (by omega)]; exact hlt) (LV 1 rfl (LV 2 rfl (LV 4 rfl (LV 6 rfl (LT 1000004 rfl (LeftS.cons (t := 1900000) rfl (Surv.tab (by omega)) (LeftS.cons (t := 1900001) rfl (Surv.tab (by omega)) LN))))))), ?_⟩
  refine TL ?_
  refine RN ?_
  refine End.sub (KC 1 rfl (KC 2 rfl (KC 4 rfl (KC 6 rfl (KE 1000002 rfl (show blk b2 103 _ = blk b2 103 ((kpart c k (i + 1)).map byteV) from congrArg _ (kpart_set hlt)) (KC 1000004 rfl (KC 1900000 rfl (KC 1900001 rfl KN)))))))) ?_
  refine End.normal_block ?_
  refine EN ?_
  refine GE ?_
  refine TL ?_
  refine RBS rfl rfl rfl (.int .i64 ((i + 1 : Nat) : Int)) (by rw [wrap_i64 (by omega) (by omega)]; first | rfl | (congr 1; omega)) ?_
  refine RM rfl ?_
  refine RN ?_
  refine End.normal_then ?_
  refine End.again (i + 1) ?_ ?_ ?_
  ·show _ ≤ _; omega
  ·show _ - _ < _ - _; omega
  ·exact (KC 1 rfl (KC 2 rfl (KC 4 rfl (KC 6 rfl (KC 1000002 rfl (KC 1000004 rfl (KC 1900000 rfl (KC 1900001 rfl KN))))))))
 ·obtain rfl : i = 64 := by simp at hc7; omega
  rw [kpart_full]
  refine A.exit ?_
  refine End.exit_then ?_
  refine End.exit_then ?_
  refine End.exit_here ?_
  refine EN ?_
  refine GD ?_
  refine TD 3 ?_
  refine RS (ok_call New_fn Args.nil) ?_
  refine RS ((ok_sliceA (s := 1000002) 0 64 (by decide) Tryz.underlying103 info5 rfl rfl (.inr ⟨rfl, rfl⟩) (.inr ⟨rfl, rfl⟩) (by omega) (by omega) (by rw [List.length_map, kpad_length]) (by decide)).le (d' := byt (kpad c k)) (Le.eq (by rw [byt_vals]; congr 2 <;> rw [List.drop_zero, List.take_of_length_le (by rw [List.length_map, kpad_length]; exact Nat.le_refl _)]))) ?_
  refine RS (ok_callM (Write_fn [] (kpad c k) (by simp [kpad_length])) (Sub.cons rfl (Sub.cons rfl KN)) tabs_v (A2 rfl rfl)) ?_; refine RZ (stV (kpad c k)) (by rw [List.nil_append]) ?_
  refine RN ?_
  refine ⟨_, eff_storeA (n := 19) (s := 1000004) (size107.of (stL_length _)) rfl rfl (stL_ones _) hBb4 rfl (by first | exact (stL_length _).trans (stL_length _).symm | exact (stL_length _).symm | rfl) (LV 4 rfl (LT 1000002 rfl (LeftS.cons (t := 1900000) rfl (Surv.tab (by omega)) (LeftS.cons (t := 1900001) rfl (Surv.tab (by omega)) LN)))), ?_⟩
  refine TL ?_
  refine RN ?_
  refine A.ret ?_
  exact End.cell1 (s := 1000004) rfl Tryz.underlying107 rfl (size107.of (stL_length _)) rfl rfl (Le.refl _)
set_option maxHeartbeats 2000000 in
theorem macOf_fn (k : List UInt8) (ps : List (List UInt8)) (m : List UInt8) (hm : ps.flatten = m) (hk : k.length ≤ 1000) (hps : ps.length ≤ 1000) (hml : m.length ≤ 10000) : FnM Tryz.prog 38 tabs [byt k, lst (ps.map byt)] (.v (aggV ((hmac k m).map byteV))) := by
 subst hm
 refine FnM.of Tryz.func38 rfl (by kernel_rfl) Tryz.ntmps38 (by simp) (by decide) (fun w => [(0, old w.heap.size (byt k)), (1, old w.heap.size (lst (ps.map byt))), (1900000, tab 0 (H8.list.map u32V)), (1900001, tab 1 (K64.map u32V))]) (fun w => (StartM.old rfl (StartM.old rfl (StartM.m (by simp [tabs]) (by decide) (StartM.m (by simp [tabs]) (by decide) StartM.nil))))) fun w₀ hM => ?_
 have htab := tabs_hi hM
 refine GS ?_
 refine TN 0 ?_
 refine RN ?_
 refine ⟨_, _, eff_alloc (n := 31) (d := 4) (k := 1000004) zero34 (by decide), fun b4 hb4 => ?_⟩
 have hBb4 := hb4.1
 refine TL ?_
 refine RN ?_
 refine GS ?_
 refine TN 2 ?_
 refine RM rfl ?_
 refine RS (ok_callM (macBlock_fn k hk) (Sub.cons rfl (Sub.cons rfl KN)) tabs_v (Args.cons rfl LA Args.nil)) ?_
 refine RN ?_
 refine ⟨_, _, eff_alloc (n := 31) (d := 5) (k := 1000005) zero103 (by decide), fun b5 hb5 => ?_⟩
 have hBb5 := hb5.1
 refine TF 3 ?_
 refine RN ?_
 refine ⟨_, eff_storeA (n := 31) (s := 1000005) (size103.of (by rw [List.length_map, kblock_length])) rfl rfl (all_bytes _) hBb5 rfl (by rw [List.length_map, kblock_length, List.length_replicate]) (LO 1 rfl (LV 4 rfl (LV 5 rfl (LT 1000004 rfl (LeftS.cons (t := 1900000) rfl (Surv.tab (by omega)) (LeftS.cons (t := 1900001) rfl (Surv.tab (by omega)) LN)))))), ?_⟩
 refine TL ?_
 refine RN ?_
 refine GS ?_
 refine TN 2 ?_
 refine RS (ok_loadA (s := 1000005) (by decide) Tryz.underlying103 rfl (size103.of (by rw [List.length_map, kblock_length])) rfl rfl) ?_
 refine RS (ok_callM (macKeyed_fn 54 k) (Sub.cons rfl (Sub.cons rfl KN)) tabs_v (A2 rfl rfl)) ?_
 refine RN ?_
 refine ⟨_, _, eff_alloc (n := 31) (d := 6) (k := 1000006) zero107 (by decide), fun b6 hb6 => ?_⟩
 have hBb6 := hb6.1
 refine TF 3 ?_
 refine RN ?_
 refine ⟨_, eff_storeA (n := 31) (s := 1000006) (size107.of (stL_length _)) rfl rfl (stL_ones _) hBb6 rfl (by first | exact (stL_length _).trans (stL_length _).symm | exact (stL_length _).symm | rfl) (LO 1 rfl (LV 4 rfl (LV 5 rfl (LV 6 rfl (LT 1000004 rfl (LT 1000005 rfl (LeftS.cons (t := 1900000) rfl (Surv.tab (by omega)) (LeftS.cons (t := 1900001) rfl (Surv.tab (by omega)) LN)))))))), ?_⟩
 refine TL ?_
 refine RN ?_
 refine A.seq ?_
 refine GS ?_
 refine TL ?_
 refine RM rfl ?_
 refine RS (ok_len Tryz.underlying102 rfl LA) ?_; refine RZ (.int .i64 (ps.length : Int)) (by simp) ?_
 refine RM rfl ?_
 refine RN ?_
 refine A.block ?_
 refine A.loop (ι := Nat) (fun i => i ≤ ps.length) (fun i => [(14, old w₀.heap.size (lst (ps.map byt))), (4, .v (.pointer (some ⟨b4, 0, none⟩))), (5, .v (.pointer (some ⟨b5, 0, none⟩))), (6, .v (.pointer (some ⟨b6, 0, none⟩))), (15, .v (.int .i64 (ps.length : Int))), (16, .v (.int .i64 ((i : Nat) : Int))), (1000004, blk b4 34 (List.replicate 32 (.int .u8 0))), (1000005, blk b5 103 ((kblock k).map byteV)), (1000006, blk b6 107 (stL ((kpad 54 k) ++ (ps.take i).flatten))), (1900000, tab 0 (H8.list.map u32V)), (1900001, tab 1 (K64.map u32V))]) (fun i => ps.length - i) 0 ?_ ?_ ?_
 ·exact Nat.zero_le _
 ·exact (KC 14 rfl (KC 4 rfl (KC 5 rfl (KC 6 rfl (KC 15 rfl (KC 16 rfl (KC 1000004 rfl (KC 1000005 rfl (KE 1000006 rfl (by simp) (KC 1900000 rfl (KC 1900001 rfl KN)))))))))))
 intro i hi
 refine GS ?_
 refine TL ?_
 refine RB rfl rfl rfl ?_
 refine RN ?_
 refine A.seq ?_
 refine A.cond rfl (fun hc17 => ?_) (fun hc17 => ?_)
 ·have hlt : i < ps.length := by simp at hc17; omega
  have hget : ps[i]? = some ps[i] := List.getElem?_eq_getElem hlt
  have hT := flatten_take_le ps (i + 1)
  rw [flatten_take_succ hget, List.length_append] at hT
  refine A.skip ?_
  refine EN ?_
  refine A.seq ?_
  refine A.block ?_
  refine GS ?_
  refine TL ?_
  refine RS (ok_index (d := byt ps[i]) Tryz.underlying102 info49 rfl LA rfl (by omega) (by simp [hlt])) ?_
  refine RS (ok_load Tryz.underlying49 rfl rfl) ?_
  refine RA rfl ?_
  refine RN ?_
  refine GE ?_
  refine TF 3 ?_
  refine RS (ok_loadA (s := 1000006) (by decide) Tryz.underlying107 rfl (size107.of (stL_length _)) rfl rfl) ?_
  refine RM rfl ?_
  refine RS (ok_callM (Write_fn ((kpad 54 k) ++ (ps.take i).flatten) ps[i] (by simp only [List.length_append, kpad_length]; omega)) (Sub.cons rfl (Sub.cons rfl KN)) tabs_v (A2 rfl rfl)) ?_; refine RZ (stV ((kpad 54 k) ++ (ps.take (i + 1)).flatten)) (by rw [flatten_take_succ hget, List.append_assoc]) ?_
  refine RN ?_
  refine ⟨_, eff_storeA (n := 31) (s := 1000006) (size107.of (stL_length _)) rfl rfl (stL_ones _) hBb6 rfl (by first | exact (stL_length _).trans (stL_length _).symm | exact (stL_length _).symm | rfl) (LV 4 rfl (LV 5 rfl (LV 6 rfl (LO 14 rfl (LV 15 rfl (LV 16 rfl (LT 1000004 rfl (LT 1000005 rfl (LeftS.cons (t := 1900000) rfl (Surv.tab (by omega)) (LeftS.cons (t := 1900001) rfl (Surv.tab (by omega)) LN)))))))))), ?_⟩
  refine TL ?_
  refine RN ?_
  refine End.normal_block ?_
  refine EN ?_
  refine GE ?_
  refine TL ?_
  refine RBS rfl rfl rfl (.int .i64 ((i + 1 : Nat) : Int)) (by rw [wrap_i64 (by omega) (by omega)]; first | rfl | (congr 1; omega)) ?_
  refine RM rfl ?_
  refine RN ?_
  refine End.normal_then ?_
  refine End.again (i + 1) ?_ ?_ ?_
  ·show _ ≤ _; omega
  ·show _ - _ < _ - _; omega
  ·exact (KC 14 rfl (KC 4 rfl (KC 5 rfl (KC 6 rfl (KC 15 rfl (KC 16 rfl (KC 1000004 rfl (KC 1000005 rfl (KC 1000006 rfl (KC 1900000 rfl (KC 1900001 rfl KN)))))))))))
 ·obtain rfl : i = ps.length := by simp at hc17; omega
  rw [List.take_length]
  refine A.exit ?_
  refine End.exit_then ?_
  refine End.exit_then ?_
  refine End.exit_here ?_
  refine EN ?_
  refine GS ?_
  refine TN 2 ?_
  refine RS (ok_loadA (s := 1000006) (by decide) Tryz.underlying107 rfl (size107.of (stL_length _)) rfl rfl) ?_
  refine RS (ok_callM (Sum_fn ((kpad 54 k) ++ ps.flatten) (by simp only [List.length_append, kpad_length]; omega)) (Sub.cons rfl (Sub.cons rfl KN)) tabs_v (A1 rfl)) ?_
  refine RN ?_
  refine ⟨_, _, eff_alloc (n := 31) (d := 9) (k := 1000009) zero34 (by decide), fun b9 hb9 => ?_⟩
  have hBb9 := hb9.1
  have hlt_b4_b9 : b4 < b9 := hb9.2 1000004 _ _ _ rfl
  refine TF 3 ?_
  refine RN ?_
  refine ⟨_, eff_storeA (n := 31) (s := 1000009) (size34.of (by rw [List.length_map, sha_length])) rfl rfl (all_bytes _) hBb9 rfl (by rw [List.length_map, sha_length, List.length_replicate]) (LV 4 rfl (LV 5 rfl (LV 9 rfl (LB 1000004 rfl (LT 1000005 rfl (LT 1000006 rfl (LeftS.cons (t := 1900000) rfl (Surv.tab (by omega)) (LeftS.cons (t := 1900001) rfl (Surv.tab (by omega)) LN)))))))), ?_⟩
  refine TL ?_
  refine RN ?_
  refine GD ?_
  refine TD 5 ?_
  refine RS (ok_loadA (s := 1000005) (by decide) Tryz.underlying103 rfl (size103.of (by rw [List.length_map, kblock_length])) rfl rfl) ?_
  refine RS (ok_callM (macKeyed_fn 92 k) (Sub.cons rfl (Sub.cons rfl KN)) tabs_v (A2 rfl rfl)) ?_
  refine RS ((ok_sliceA (s := 1000009) 0 32 (by decide) Tryz.underlying34 info5 rfl rfl (.inr ⟨rfl, rfl⟩) (.inr ⟨rfl, rfl⟩) (by omega) (by omega) (by rw [List.length_map, sha_length]) (by decide)).le (d' := byt (sha ((kpad 54 k) ++ ps.flatten))) (Le.eq (by rw [byt_vals]; congr 2 <;> rw [List.drop_zero, List.take_of_length_le (by rw [List.length_map, sha_length]; exact Nat.le_refl _)]))) ?_
  refine RS (ok_callM (Write_fn (kpad 92 k) (sha ((kpad 54 k) ++ ps.flatten)) (by simp [kpad_length, sha_length])) (Sub.cons rfl (Sub.cons rfl KN)) tabs_v (A2 rfl rfl)) ?_
  refine RS (ok_callM (Sum_fn (kpad 92 k ++ sha ((kpad 54 k) ++ ps.flatten)) (by simp [kpad_length, sha_length])) (Sub.cons rfl (Sub.cons rfl KN)) tabs_v (A1 rfl)) ?_; refine RZ (aggV ((hmac k ps.flatten).map byteV)) (rfl) ?_
  refine RN ?_
  refine ⟨_, eff_storeA (n := 31) (s := 1000004) (size34.of (by rw [List.length_map, hmac_length])) rfl rfl (all_bytes _) hBb4 rfl (by rw [List.length_map, hmac_length, List.length_replicate]) (LV 4 rfl (LT 1000005 rfl (LT 1000006 rfl (LB 1000009 rfl (LeftS.cons (t := 1900000) rfl (Surv.tab (by omega)) (LeftS.cons (t := 1900001) rfl (Surv.tab (by omega)) LN)))))), ?_⟩
  refine TL ?_
  refine RN ?_
  refine A.ret ?_
  exact End.cell1 (s := 1000004) rfl Tryz.underlying34 rfl (size34.of (by rw [List.length_map, hmac_length])) rfl rfl (Le.refl _)
end Go.Proofs.YthadcgkcgpinhaaGreatDoor
namespace Go.Proofs.YthadcgkcgpinhaaGreatDoor
open Go Go.RowKit
/-- T(i). -/
def hkT (prk info : List UInt8) : Nat → List UInt8
  | 0 => []
  | i + 1 => hmac prk (hkT prk info i ++ info ++ [UInt8.ofNat (i + 1)])
/-- T(1) to T(i), one after another. -/
def hkO (prk info : List UInt8) : Nat → List UInt8
  | 0 => []
  | i + 1 => hkO prk info i ++ hkT prk info (i + 1)
def hkdf (prk info : List UInt8) (n : Nat) : List UInt8 := (hkO prk info ((n + 31) / 32)).take n
variable {prk info : List UInt8}
theorem hkT_length (i : Nat) : (hkT prk info (i + 1)).length = 32 := by rw [hkT, hmac_length]
theorem hkT_le (i : Nat) : (hkT prk info i).length ≤ 32 := by
  cases i with
  | zero => simp [hkT]
  | succ i => rw [hkT_length]; exact Nat.le_refl _
theorem hkO_length : ∀ i, (hkO prk info i).length = 32 * i
  | 0 => rfl
  | i + 1 => by rw [hkO, List.length_append, hkO_length i, hkT_length]; omega
theorem hkO_take {i : Nat} : ∀ {j : Nat}, i ≤ j → (hkO prk info j).take (32 * i) = hkO prk info i
  | 0, h => by obtain rfl : i = 0 := by omega
               rfl
  | j + 1, h => by
    rcases Nat.lt_or_ge j i with hj | hj
    · obtain rfl : i = j + 1 := by omega
      rw [List.take_of_length_le (by rw [hkO_length]; exact Nat.le_refl _)]
    · rw [hkO, List.take_append_of_le_length (by rw [hkO_length]; omega)]
      exact hkO_take hj
theorem hkdf_length (n : Nat) : (hkdf prk info n).length = n := by rw [hkdf, List.length_take, hkO_length]; omega
theorem hkO_hkdf {n j : Nat} (h : n ≤ 32 * j) : (hkO prk info j).take n = hkdf prk info n := by
  have h1 : (n + 31) / 32 ≤ j := by omega
  rw [hkdf, ← hkO_take h1, List.take_take, Nat.min_eq_left (by omega)]
end Go.Proofs.YthadcgkcgpinhaaGreatDoor
namespace Go.Proofs.YthadcgkcgpinhaaGreatDoor
open Go Go.RowKit
section
variable {P : Program} {n B : Nat} {ops : Array Oper} {C : Env → Prop} {κ : Cx} {Q : Exit → Act → World → Prop}
/-- What is to be shown from here on, in every order. -/
def AnyT (P : Program) (n B : Nat) (ops : Array Oper) (C : Env → Prop) : Nat → Array Bool → Env → Prop
  | 0, listed, E => Region.ready .any ops listed = [] ∧ C E
  | fuel + 1, listed, E => (Region.ready .any ops listed = [] ∧ C E) ∨ (Region.ready .any ops listed ≠ [] ∧ ∀ i ∈ Region.ready .any ops listed, ∃ o, ops[i]? = some o ∧ ∃ (ι : Type) (G : ι → Prop) (E₂ : ι → Env), EffG P n B ops o E G E₂ ∧ ∀ j, G j → AnyT P n B ops C fuel (listed.setIfInBounds i true) (E₂ j))
/-- One operation after the other. -/
def NextT (P : Program) (n B : Nat) (ops : Array Oper) (C : Env → Prop) (fuel : Nat) (listed : Array Bool) (E : Env) : List Nat → Prop
  | [] => True
  | i :: r => (∃ o, ops[i]? = some o ∧ ∃ (ι : Type) (G : ι → Prop) (E₂ : ι → Env), EffG P n B ops o E G E₂ ∧ ∀ j, G j → AnyT P n B ops C fuel (listed.setIfInBounds i true) (E₂ j)) ∧ NextT P n B ops C fuel listed E r
theorem NextT.all {fuel : Nat} {listed : Array Bool} {E : Env} : ∀ {is : List Nat}, NextT P n B ops C fuel listed E is → ∀ i ∈ is, ∃ o, ops[i]? = some o ∧ ∃ (ι : Type) (G : ι → Prop) (E₂ : ι → Env), EffG P n B ops o E G E₂ ∧ ∀ j, G j → AnyT P n B ops C fuel (listed.setIfInBounds i true) (E₂ j)
  | [], _, i, hi => by cases hi
  | k :: r, h, i, hi => by
    rcases List.mem_cons.1 hi with rfl | hi
    · exact h.1
    · exact NextT.all h.2 i hi
theorem AnyT.last {fuel : Nat} {listed : Array Bool} {E : Env} (hr : Region.ready .any ops listed = []) (hC : C E) : AnyT P n B ops C fuel listed E := by
  cases fuel with
  | zero => exact ⟨hr, hC⟩
  | succ fuel => exact .inl ⟨hr, hC⟩
theorem AnyT.step {fuel : Nat} {listed : Array Bool} {E : Env} (i : Nat) (is : List Nat) (hr : Region.ready .any ops listed = i :: is) (h : NextT P n B ops C fuel listed E (i :: is)) : AnyT P n B ops C (fuel + 1) listed E :=
  .inr ⟨by rw [hr]; simp, by rw [hr]; exact h.all⟩
theorem OpOk.asV {o : Oper} {E : Env} (x : Value) {y : Value} (h : y = x) (hok : OpOk P B o E (.v y)) : OpOk P B o E (.v x) := h ▸ hok
/-- An operation that changes nothing. -/
theorem NextT.pure {fuel : Nat} {listed : Array Bool} {E : Env} {i t : Nat} {d : D} {o : Oper} {r : List Nat} (hf : fits n ops = true) (ho : ops[i]? = some o) (ht : o.dst = some t) (hg : o.guard = none) (hok : OpOk P B o E d) (h : AnyT P n B ops C fuel (listed.setIfInBounds i true) ((t, d) :: E)) (hr : NextT P n B ops C fuel listed E r) :
    NextT P n B ops C fuel listed E (i :: r) := by
  refine ⟨⟨o, ho, Unit, fun _ => True, fun _ => (t, d) :: E, fun κ a w K Q hs hK => ?_, fun _ _ => h⟩, hr⟩
  have hfo := fits_mem hf (o := o) (by simpa using Array.mem_of_getElem? ho)
  exact good_wp hs.base (hs.virt (fits_base hf)) ht (.inl ⟨by simp [GuardIs, hg], hok⟩) (fun s e _ he => hs.of s e he) (fun s hs' => by rw [hs.size]; exact hfo.1 s hs') fun x w' g hx => hK () _ _ trivial (Below.mono g hs.base) ((hs.grow g).put (hfo.2 t ht) hx)
/-- An operation that changes memory. -/
theorem NextT.eff {fuel : Nat} {listed : Array Bool} {E E' : Env} {i : Nat} {o : Oper} {r : List Nat} (ho : ops[i]? = some o) (he : Eff P n B ops o E E') (h : AnyT P n B ops C fuel (listed.setIfInBounds i true) E') (hr : NextT P n B ops C fuel listed E r) :
    NextT P n B ops C fuel listed E (i :: r) := ⟨⟨o, ho, Unit, fun _ => True, fun _ => E', he.g, fun _ _ => h⟩, hr⟩
end
end Go.Proofs.YthadcgkcgpinhaaGreatDoor
namespace Go.Proofs.YthadcgkcgpinhaaGreatDoor
open Go Go.RowKit
set_option linter.unusedVariables false
set_option maxRecDepth 20000

theorem zero22 : ZeroIs Tryz.prog 22 (List.replicate 16 (.int .u8 0)) := by unfold ZeroIs; kernel_rfl
theorem size22 : SizeIs Tryz.prog 22 16 := by unfold SizeIs; kernel_rfl
theorem zero24 : ZeroIs Tryz.prog 24 (List.replicate 32 (.int .u8 0)) := by unfold ZeroIs; kernel_rfl
theorem size24 : SizeIs Tryz.prog 24 32 := by unfold SizeIs; kernel_rfl
theorem getD_get {l : List UInt8} {i : Nat} (h : i < l.length) : l[i]? = some (l.getD i 0) := by
 rw [List.getElem?_eq_getElem h, List.getD_eq_getElem?_getD, List.getElem?_eq_getElem h]; rfl
end Go.Proofs.YthadcgkcgpinhaaGreatDoor
namespace Go.Proofs.YthadcgkcgpinhaaGreatDoor
open Go Go.RowKit
variable {κ : Cx}

theorem St.push {n B : Nat} {E : Env} {a : Act} {w : World} {t : Nat} {d : D} (h : St κ n B E a w) (hd : d.Of w (a.tmps.getD t undef)) : St κ n B ((t, d) :: E) a w :=
  ⟨h.base, h.defers, h.size, fun s e he => by
    by_cases hts : t = s
    · subst hts
      rw [look_here] at he; injection he with he; subst he; exact hd
    · rw [look_past _ _ hts] at he
      exact h.of s e he⟩

/-! ### A variable that holds something of which d is known -/
def varD (b : Nat) (T : TypeId) (d : D) : D :=
  .p (fun B w _ => b < B ∧ ∃ u : Value, w.heap[b]? = some (.cells #[u] T (0, 0)) ∧ d.OfB B w u)
    (fun _ _ _ _ g ⟨h1, u, h2, h3⟩ => ⟨h1, u, (g.block b h1).trans h2, h3.keep g⟩) (fun _ _ _ _ g ⟨h1, u, h2, h3⟩ => ⟨by omega, u, h2, h3.up g⟩)
theorem varD_le {b : Nat} {T : TypeId} {d d' : D} (h : Le d d') : Le (varD b T d) (varD b T d') := fun _ _ _ ⟨h1, u, h2, h3⟩ => ⟨h1, u, h2, h _ _ _ h3⟩
theorem varD_eq {b : Nat} {T : TypeId} {d d' : D} (h : d = d') : varD b T d = varD b T d' := by rw [h]
theorem Surv.varD {B T g b : Nat} {e : TypeId} {d : D} (h : b ≠ g) (hd : Surv B T g d) : Surv B T g (Go.Proofs.YthadcgkcgpinhaaGreatDoor.varD b e d) := fun w w' _ k ⟨h1, u, h2, h3⟩ =>
  ⟨Nat.lt_of_lt_of_le h1 k.size, u, (k.other b h1 h).trans h2, hd w w' u k h3⟩
theorem Surv.varDT {B T g b : Nat} {e : TypeId} {d : D} (h : e ≠ T) (hd : Surv B T g d) : Surv B T g (Go.Proofs.YthadcgkcgpinhaaGreatDoor.varD b e d) := fun w w' x k hx => by
  refine Surv.varD (B := B) (T := T) (fun hb => h ?_) hd w w' x k hx
  subst hb
  obtain ⟨_, u, h2, _⟩ := hx
  exact k.row _ _ _ h2
theorem Firm.varD {l b : Nat} {e : TypeId} {d : D} (hd : Firm l d) : Firm l (Go.Proofs.YthadcgkcgpinhaaGreatDoor.varD b e d) := fun w o o' _ hl ho ⟨h1, u, h2, h3⟩ => by
  have hne : b ≠ l := fun hb => by subst hb; rw [h2] at hl; injection hl with hl; subst hl; cases ho
  exact ⟨by simpa using h1, u, (World.putObj_heap_other hne).trans h2, hd w o o' u hl ho h3⟩
theorem Firm.own {l base n : Nat} {e : TypeId} {xs : List Value} : Firm l (Go.Proofs.YthadcgkcgpinhaaGreatDoor.own base e n xs) := fun w o o' x hl ho ⟨h1, h2⟩ => by
  obtain ⟨h3, h4⟩ := h1
  refine ⟨⟨h3, h4.imp id ?_⟩, fun j hj => by simpa using h2 j hj⟩
  rintro ⟨j, cap, cur, rfl, hj, hh, hr⟩
  have hne : j ≠ l := fun hb => by subst hb; rw [hh] at hl; injection hl with hl; subst hl; cases ho
  exact ⟨j, cap, cur, rfl, hj, (World.putObj_heap_other hne).trans hh, hr⟩
theorem Firm.ownM {l base n : Nat} {v : Value} {e : TypeId} {xs : List Value} : Firm l (Go.Proofs.YthadcgkcgpinhaaGreatDoor.ownM base v e n xs) := fun w o o' _ hl ho h => Firm.own w o o' v hl ho h
theorem Firm.list {l c : Nat} {ds : List D} (hd : ∀ d ∈ ds, Firm l d) : Firm l (Go.Proofs.YthadcgkcgpinhaaGreatDoor.list ds c) := fun w o o' x hl ho ⟨A, vs, h1, h2, h3, h4, h5, h6⟩ =>
  ⟨A, vs, h1, h2, h3, h4, fun j u hu => by
    obtain ⟨ad, g1, g2, g3⟩ := h5 j u hu
    refine ⟨ad, g1, by simpa using g2, ?_⟩
    have hne : (ad.add j).block ≠ l := fun hb => by
      unfold World.cell? at g3
      rw [hb, hl] at g3
      cases o <;> simp_all [Obj.isCells]
    unfold World.cell? at g3 ⊢
    rw [World.putObj_heap_other hne]; exact g3, fun j d u hd' hu => hd d (List.mem_of_getElem? hd') w o o' u hl ho (h6 j d u hd' hu)⟩
theorem Firm.bytes {l c : Nat} {xs : List UInt8} : Firm l (Go.Proofs.YthadcgkcgpinhaaGreatDoor.bytes xs c) := Firm.list fun d hd => by
  obtain ⟨b, _, rfl⟩ := List.mem_map.1 hd
  exact Firm.v l _

section
variable {P : Program} {n B : Nat} {ops : Array Oper} {E : Env} {dst : Option Tmp} {ty : TypeId} {pos : String} {after : Array Edge} {guard : Option (Nat × Bool)}
/-- A store into a variable of one cell: what is known of the value is known of the variable. -/
theorem eff_storeD {t : TypeId} {z : Value} {nb : Nat} {p x : Operand} {b s : Nat} {e : TypeId} {z₀ : Value} {d : D} {E' : Env} (hinfo : InfoIs P t z nb) (hp : E.at p = some (.v (.pointer (some ⟨b, 0, none⟩)))) (hx : E.at x = some d) (hu : ∀ w u, d.Of w u → u.oneCell' = true)
    (hb : B ≤ b) (hblk : E.look s = some (blk b e [z₀])) (hd : Surv B e b d) (hl : LeftS B e b E' E) :
    Eff P n B ops ⟨none, .store t p x, ty, pos, after, none⟩ E ((s, varD b e d) :: E') := by
  obtain ⟨i, hi, _, hs, _⟩ := hinfo.get
  intro κ a w K Q h hK
  have hp' : a.eval p = _ := h.at_ p _ hp
  have hx' : d.Of w (a.eval x) := h.at_ x _ hx
  obtain ⟨u, hu'⟩ : ∃ u, a.eval x = u := ⟨_, rfl⟩
  rw [hu'] at hx'
  have hu := hu w u hx'
  obtain ⟨hlt, hh⟩ := h.of s _ hblk
  have hcell : w.cell? ⟨b, 0, none⟩ = some z₀ := by simp [World.cell?, hh]
  have hfr : w.frozen? ⟨b, 0, none⟩ = false := by simp [World.frozen?, hh]
  have hcu : u.cells = #[u] := by cases u <;> simp_all [Value.oneCell', Value.cells]
  have hadd : (⟨b, 0, none⟩ : Addr).add 0 = ⟨b, 0, none⟩ := rfl
  have hset := setCell_eq_setRow w b 0 [z₀].toArray e (0, 0) u hh
  have hrun : (execOp a.eval ⟨none, .store t p x, ty, pos, after, none⟩).run P w = .ok .skip (w.setRow b ([z₀].toArray.setIfInBounds 0 u)) := by
    rw [← hset]
    simp [execOp, hp', hu', Instr.storeAt, Instr.sureAddr, storeVar, hcu, sizeOf, typeInfo, hi, hs, storeCells, hadd, run_store P w ⟨b, 0, none⟩ u .plain hu, hcell, hfr]
  rw [if_pos (by simp [Region.wanted])]
  refine opR (by nofun) ?_
  unfold Oper.wp
  rw [hrun, Oper.upon_skip]
  have hwr := Wrote.setRow hb hh ([z₀].toArray.setIfInBounds 0 u)
  have hst := hl.st h hwr
  refine hK _ _ (hwr.below h.base) (hst.push ?_)
  exact ⟨by simpa using hlt, u, by rw [setRow_heap w b _ _ e _ hh]; simp, hd _ _ _ hwr hx'⟩
/-- What a variable holds. -/
theorem ok_loadD {t : TypeId} {td : TypeDesc} {x : Operand} {b s : Nat} {e : TypeId} {d : D} (hsl : vbase ≤ s) (ht : P.underlying t = some td) (hp : plainTD td = true) (hx : E.at x = some (.v (.pointer (some ⟨b, 0, none⟩)))) (hblk : E.look s = some (varD b e d)) :
    OpOk P B ⟨dst, .load t x, ty, pos, after, guard⟩ E d := fun ρ w _ hv hρ => by
  have h1 : ρ x = _ := hρ x (by simp [Op.operands]) _ hx
  obtain ⟨hlt, u, hh, hd⟩ := hv s _ hsl hblk
  have hc : w.cell? ⟨b, 0, none⟩ = some u := by simp [World.cell?, hh]
  exact out_val (w' := w) (by simp [execOp, h1, run_load_plain ht hp hc]) ⟨Grow.refl w, hd⟩
/-- The number of a new block: above all that are known by name. -/
def NewD (B : Nat) (E : Env) (b : Nat) : Prop := B ≤ b ∧ (∀ s b' e xs, E.look s = some (blk b' e xs) → b' < b) ∧ ∀ s b' e d, E.look s = some (varD b' e d) → b' < b
/-- A variable of one cell that is given a value. -/
theorem eff_boxD {T : TypeId} {x : Operand} {dd : D} {d k : Nat} (hx : E.at x = some dd) (hu : ∀ w u, dd.Of w u → u.oneCell' = true) (hdn : d < n) :
    EffG P n B ops ⟨some d, .box T x, ty, pos, after, none⟩ E (NewD B E) (fun b => (d, .v (.pointer (some ⟨b, 0, none⟩))) :: (k, varD b T dd) :: E) := by
  intro κ a w K Q h hK
  have h1 : dd.Of w (a.eval x) := h.at_ x _ hx
  obtain ⟨u, hu'⟩ : ∃ u, a.eval x = u := ⟨_, rfl⟩
  rw [hu'] at h1
  have hu := hu w u h1
  have hc : u.cells = #[u] := by cases u <;> simp_all [Value.oneCell', Value.cells]
  have hrun : (execOp a.eval ⟨some d, .box T x, ty, pos, after, none⟩).run P w = .ok (.value (.pointer (some ⟨w.heap.size, 0, none⟩))) (w.alloc (.cells #[u] T)) := by
    simp [execOp, Instr.box, newVar, newRow, hu', hc]
  rw [if_pos (by simp [Region.wanted])]
  refine opR (by nofun) ?_
  unfold Oper.wp
  rw [hrun, Oper.upon_value]
  have hg := Grow.alloc w (.cells #[u] T)
  have hst := h.grow hg
  refine hK w.heap.size _ _ ⟨h.base, fun s b' e ys hs => (h.of s _ hs).1, fun s b' e d' hs => (h.of s _ hs).1⟩ ((Below.refl B w).alloc h.base _) (St.put (hst.push ?_) hdn rfl)
  refine ⟨by simp, u, heap_alloc_new w _, ?_⟩
  exact D.Of.grow h1 hg
/-- A variable of its zero value, its number above all that are known by name. -/
theorem eff_allocN {T : TypeId} {zs : List Value} {d k : Nat} (hz : ZeroIs P T zs) (hdn : d < n) :
    EffG P n B ops ⟨some d, .alloc T, ty, pos, after, none⟩ E (NewD B E) (fun b => (d, .v (.pointer (some ⟨b, 0, none⟩))) :: (k, blk b T zs) :: E) := by
  intro κ a w K Q h hK
  obtain ⟨i, z, hi, hz, hc⟩ := hz.get
  have hrun : (execOp a.eval ⟨some d, .alloc T, ty, pos, after, none⟩).run P w = .ok (.value (.pointer (some ⟨w.heap.size, 0, none⟩))) (w.alloc (.cells zs.toArray T)) := by
    simp [execOp, Instr.alloc, zeroValue, typeInfo, hi, hz, newVar, newRow, hc]
  rw [if_pos (by simp [Region.wanted])]
  refine opR (by nofun) ?_
  unfold Oper.wp
  rw [hrun, Oper.upon_value]
  have hst := h.grow (Grow.alloc w (.cells zs.toArray T))
  refine hK w.heap.size _ _ ⟨h.base, fun s b' e ys hs => (h.of s _ hs).1, fun s b' e d' hs => (h.of s _ hs).1⟩ ((Below.refl B w).alloc h.base _) (St.put (hst.push ?_) hdn rfl)
  exact ⟨by simp, heap_alloc_new w _⟩

/-- []byte(s) of a string. -/
theorem ok_strB {s t e : TypeId} {x : Operand} {l : List UInt8} (hs : P.underlying s = some .string) (ht : P.underlying t = some (.slice e)) (he : P.underlying e = some (.int .u8)) (hx : E.at x = some (str l)) (hl : l.length ≤ maxLen) :
    OpOk P B ⟨dst, .convert s t x, ty, pos, after, guard⟩ E (byt l) := fun ρ w hB _ hρ => by
  have h1 : ρ x = .string ⟨l.toArray⟩ := hρ x (by simp [Op.operands]) _ hx
  have hr := run_bytes_of_string (P := P) w s t e ⟨l.toArray⟩ hs ht he
  have hc1 : l.length ≤ grownCap w l.length 0 e := grownCap_ge w _ 0 e
  have hc2 := grownCap_le_maxLen w l.length 0 e hl
  have hsz : (⟨l.toArray⟩ : ByteArray).size = l.length := rfl
  rw [hsz] at hr
  obtain ⟨c, hc⟩ : ∃ c, grownCap w l.length 0 e = c := ⟨_, rfl⟩
  rw [hc] at hr hc1 hc2
  obtain ⟨fr, hfr⟩ : ∃ fr, ((bytesRow ⟨l.toArray⟩ c).size, (bytesRow ⟨l.toArray⟩ c).size + 1) = fr := ⟨_, rfl⟩
  rw [hfr] at hr
  have hg : Grow w (w.drew.alloc (.cells (bytesRow ⟨l.toArray⟩ c) e fr)) := ((Grow.refl w).drew).trans (Grow.alloc w.drew _)
  refine out_val (x := .slice (some ⟨w.heap.size, 0, none⟩) l.length c) (w' := w.drew.alloc (.cells (bytesRow ⟨l.toArray⟩ c) e fr)) (by simp only [execOp, h1, Sem.run_bind, hr, Result.andThen_ok, Sem.run_pure]) ⟨hg, c, ?_⟩
  refine bytes_mk (l := l) hc1 hc2 fun j u hu => ⟨_, rfl, ?_, ?_⟩
  · show w.heap.size < (w.drew.alloc _).heap.size
    rw [World.size_alloc]; exact Nat.lt_succ_self _
  · have hh := World.alloc_heap_new w.drew (.cells (bytesRow ⟨l.toArray⟩ c) e fr)
    have hd : w.drew.heap.size = w.heap.size := rfl
    rw [hd] at hh
    rw [add_lit0, Nat.zero_add]
    unfold World.cell?
    simp only
    rw [hh]
    simp only [bytesRow, Option.isSome_none, Bool.false_eq_true, if_false]
    have hj : j < l.length := by have := (List.getElem?_eq_some_iff.1 hu).1; simpa using this
    rw [Array.getElem?_append_left (by simpa using hj)]
    simpa [byteV] using hu
/-- A row of no elements, with room. -/
theorem ok_make0 {t e : TypeId} {x y : Operand} {z : Value} {nb : Nat} {k k' : IntKind} {m n₀ : Int} (c : Nat) (ht : P.underlying t = some (.slice e)) (hinfo : InfoIs P e z nb) (hnb : nb ≤ 64) (hz1 : z.cells = #[z])
    (hx : E.at x = some (.v (.int k n₀))) (hy : E.at y = some (.v (.int k' m))) (hn : n₀ = 0) (hm : m = (c : Int)) (hc : c ≤ 4398046511104) :
    OpOk P B ⟨dst, .makeSlice t x y, ty, pos, after, guard⟩ E (own B e 0 []) := fun ρ w hB _ hρ => by
  obtain ⟨i, hi, hz, hs, hb⟩ := hinfo.get
  have h1 : ρ x = _ := hρ x (by simp [Op.operands]) _ hx
  have h2 : ρ y = _ := hρ y (by simp [Op.operands]) _ hy
  subst hm; subst hn
  have hbc : i.bytes * c ≤ 64 * c := Nat.mul_le_mul_right c (by omega)
  have hr := run_make (P := P) w t e i z ht hi hz k k' (0 : Int) (c : Int) (by omega) (by omega) (by rw [← Int.natCast_mul]; omega) (by omega)
  have hcells : madeCells z.cells (c * i.size) = (List.replicate c z).toArray := by
    rw [hs, hz1, Nat.mul_one]
    apply Array.ext
    · simp [madeCells]
    · intro j h1 h2; simp [madeCells, Nat.mod_one]
  refine out_val (x := .slice (some ⟨w.heap.size, 0, none⟩) 0 c) (w' := w.alloc (.cells (madeCells z.cells (c * i.size)) e)) ?_ ⟨Grow.alloc w _, ⟨rfl, .inr ⟨w.heap.size, c, (List.replicate c z).toArray, rfl, hB, ?_, Nat.zero_le _, ?_, by simp, by simp⟩⟩, fun g hg => ?_⟩
  · simp only [execOp, h1, h2, Sem.run_bind, hr, Result.andThen_ok, Sem.run_pure, Int.toNat_natCast, Int.toNat_zero]
  · rw [hcells]; exact heap_alloc_new w _
  · simp only [maxLen]; omega
  · simp [Value.ownBlock] at hg; subst hg; simp
/-- The head of an own row, without room behind it. -/
theorem ok_slice3 {t e : TypeId} {z : Value} {nb : Nat} {x ho mo : Operand} {k k' : IntKind} {m B' : Nat} (l : List UInt8) {xs : List Value} (ht : P.underlying t = some (.slice e)) (hs : InfoIs P e z nb) (hx : E.at x = some (own B' e m xs)) (hho : E.at ho = some (.v (.int k (l.length : Int)))) (hmo : E.at mo = some (.v (.int k' (l.length : Int))))
    (hl : xs.take l.length = l.map byteV) (hm : m = xs.length) (hmax : l.length ≤ maxLen) :
    OpOk P B ⟨dst, .slice t x none (some ho) (some mo), ty, pos, after, guard⟩ E (bytes l l.length) := fun ρ w _ _ hρ => by
  obtain ⟨⟨hlen, hcase⟩, hob⟩ := hρ x (by simp [Op.operands]) _ hx
  have h1 : ρ ho = .int k (l.length : Int) := hρ ho (by simp [Op.operands]) _ hho
  have h2 : ρ mo = .int k' (l.length : Int) := hρ mo (by simp [Op.operands]) _ hmo
  have hlm : l.length ≤ m := by have := congrArg List.length hl; simp at this; omega
  obtain ⟨info, hinfo, _, hsize, _⟩ := hs.get
  rcases hcase with ⟨hv, hm0⟩ | ⟨g, cap, cur, hv, hb, hh, hnc, hcm, hcs, htake⟩
  · have hl0 : l = [] := List.eq_nil_of_length_eq_zero (by omega)
    subst hl0
    have hb := sliceBounds_run (P := P) (sl := true) (len := 0) (cap := 0) (l := 0) (h := 0) (m := 0) (L := none) (H := some (.int k 0)) (M := some (.int k' 0)) w (.inr ⟨rfl, rfl⟩) (.inl ⟨k, rfl⟩) (.inl ⟨k', rfl⟩) (Nat.le_refl _) (Nat.le_refl _) (Nat.le_refl _)
    have hr : (Instr.sliceAt t (.slice none 0 0) none (some (.int k 0)) (some (.int k' 0))).run P w = .ok (.slice none 0 0) w := by
      simp only [Instr.sliceAt, Instr.slice, Sem.run_bind, run_underlying ht, Result.andThen_ok, hb, sizeOf, typeInfo]
      simp [hinfo, hsize]
    have h1 : ρ ho = .int k 0 := h1
    have h2 : ρ mo = .int k' 0 := h2
    refine out_val (x := .slice none 0 0) (w' := w) (by simp only [execOp, hv, h1, h2, Option.map_none, Option.map_some, Sem.run_bind, hr, Result.andThen_ok, Sem.run_pure]) ⟨Grow.refl w, bytes_nil_le _ _ _ rfl⟩
  · have hb := sliceBounds_run (P := P) (sl := true) (len := m) (cap := cap) (l := 0) (h := l.length) (m := l.length) (L := none) (H := some (.int k l.length)) (M := some (.int k' l.length)) w (.inr ⟨rfl, rfl⟩) (.inl ⟨k, rfl⟩) (.inl ⟨k', rfl⟩) (Nat.zero_le _) (Nat.le_refl _) (by omega)
    have hr : (Instr.sliceAt t (.slice (some ⟨g, 0, none⟩) m cap) none (some (.int k l.length)) (some (.int k' l.length))).run P w = .ok (.slice (some ⟨g, 0, none⟩) l.length l.length) w := by
      have haddr : (⟨g, 0, none⟩ : Addr).add 0 = ⟨g, 0, none⟩ := rfl
      simp only [Instr.sliceAt, Instr.slice, Sem.run_bind, run_underlying ht, Result.andThen_ok, hb, sizeOf, typeInfo]
      simp [hinfo, hsize, haddr]
    refine out_val (x := .slice (some ⟨g, 0, none⟩) l.length l.length) (w' := w) (by simp only [execOp, hv, h1, h2, Option.map_none, Option.map_some, Sem.run_bind, hr, Result.andThen_ok, Sem.run_pure]) ⟨Grow.refl w, bytes_mk (Nat.le_refl _) hmax fun j u hu => ⟨_, rfl, hob g (by rw [hv]; rfl), ?_⟩⟩
    rw [add_lit0, Nat.zero_add]
    have hcell : cur[j]? = some u := by
      rw [← hl] at hu
      rw [List.getElem?_take] at hu
      split at hu
      · rw [← htake] at hu
        rw [List.getElem?_take] at hu
        split at hu
        · simpa using hu
        · cases hu
      · cases hu
    simp [World.cell?, hh, hcell]
end

/-- The bytes of a whole array. -/
theorem byt_all {l : List UInt8} {n : Nat} (h : l.length = n) : Le (lst ((((l.map byteV).take n).drop 0).map .v)) (byt l) :=
  Le.eq (by rw [byt_vals, List.drop_zero, List.take_of_length_le (Nat.le_of_eq (by rw [List.length_map, h]))])

/-! ### Functions that hold variables -/
def VArgs (E : Env) : List Value → List Operand → Prop
  | [], [] => True
  | u :: us, x :: xs => E.at x = some (.v u) ∧ VArgs E us xs
  | _, _ => False
theorem VArgs.map {E : Env} {ρ : Operand → Value} : ∀ {us : List Value} {xs : List Operand}, VArgs E us xs → (∀ x ∈ xs, ∀ v, E.at x = some (.v v) → ρ x = v) → xs.map ρ = us
  | [], [], _, _ => rfl
  | [], _ :: _, h, _ => h.elim
  | _ :: _, [], h, _ => h.elim
  | u :: us, x :: xs, ⟨h1, h2⟩, hρ => by rw [List.map_cons, hρ x List.mem_cons_self u h1, VArgs.map h2 fun y hy v hv => hρ y (List.mem_cons_of_mem _ hy) v hv]
section
variable {P : Program} {n B : Nat} {w₀ : World} {ops : Array Oper} {E : Env} {dst : Option Tmp} {ty : TypeId} {pos : String} {after : Array Edge} {guard : Option (Nat × Bool)}
theorem ok_makeFuncN {f : FuncId} {xs : Array Operand} (us : List Value) (h : VArgs E us xs.toList) : OpOk P B ⟨dst, .makeFunc (.func f) #[] xs, ty, pos, after, guard⟩ E (.v (.func (.func f) #[] us.toArray)) := fun ρ w _ _ hρ => by
  have hmem : ∀ x ∈ xs.toList, x ∈ (Op.makeFunc (.func f) #[] xs).operands := fun x hx => by
    have hx' : x ∈ xs := by simpa using hx
    simp [Op.operands, hx']
  have h1 := h.map (ρ := ρ) fun x hx v hv => hρ x (hmem x hx) _ hv
  have h2 : xs.map ρ = us.toArray := by
    apply Array.ext'
    rw [Array.toList_map]; exact h1
  exact out_val (w' := w) (by simp [execOp, h2, Instr.makeFunc]) ⟨Grow.refl w, rfl⟩
abbrev ptr (b : Nat) : Value := .pointer (some ⟨b, 0, none⟩)
/-- A function value that holds three variables of its own, new ones. -/
def clos3 (base f : Nat) (T₁ : TypeId) (d₁ : D) (T₂ : TypeId) (d₂ : D) (T₃ : TypeId) (d₃ : D) : D :=
  .p (fun B w x => ∃ p q r, (base ≤ p ∧ base ≤ q ∧ base ≤ r) ∧ (p ≠ q ∧ p ≠ r ∧ q ≠ r) ∧ x = .func (.func f) #[] #[ptr p, ptr q, ptr r] ∧ (varD p T₁ d₁).OfB B w undef ∧ (varD q T₂ d₂).OfB B w undef ∧ (varD r T₃ d₃).OfB B w undef)
    (fun _ _ _ _ g ⟨p, q, r, h1, h2, h3, h4, h5, h6⟩ => ⟨p, q, r, h1, h2, h3, h4.keep g, h5.keep g, h6.keep g⟩) (fun _ _ _ _ g ⟨p, q, r, h1, h2, h3, h4, h5, h6⟩ => ⟨p, q, r, h1, h2, h3, h4.up g, h5.up g, h6.up g⟩)
variable {f : Nat} {T₁ T₂ T₃ : TypeId} {d₁ d₂ d₃ : D}
theorem clos3_mono (B B' : Nat) (h : B ≤ B') : Le (clos3 B' f T₁ d₁ T₂ d₂ T₃ d₃) (clos3 B f T₁ d₁ T₂ d₂ T₃ d₃) := fun _ _ _ ⟨p, q, r, ⟨h1, h2, h3⟩, h4⟩ => ⟨p, q, r, ⟨by omega, by omega, by omega⟩, h4⟩
theorem End.clos3 {fn : Func} {t k₁ k₂ k₃ p q r : Nat} {e₁ e₂ e₃ : D} (hr : fn.results = #[.tmp t]) (hb : w₀.heap.size ≤ p ∧ w₀.heap.size ≤ q ∧ w₀.heap.size ≤ r) (hne : p ≠ q ∧ p ≠ r ∧ q ≠ r) (ht : E.look t = some (.v (.func (.func f) #[] #[ptr p, ptr q, ptr r])))
    (h1 : E.look k₁ = some (varD p T₁ e₁)) (l1 : Le e₁ d₁) (h2 : E.look k₂ = some (varD q T₂ e₂)) (l2 : Le e₂ d₂) (h3 : E.look k₃ = some (varD r T₃ e₃)) (l3 : Le e₃ d₃) : End Cx.top w₀ n E (BP P fn (PostOf w₀ (Go.Proofs.YthadcgkcgpinhaaGreatDoor.clos3 w₀.heap.size f T₁ d₁ T₂ d₂ T₃ d₃)) .ret) := fun a w g hs =>
  BP.ret hs.defers ⟨a.tmps.getD t undef, by simp [results, hr], _, rfl, g, p, q, r, hb, hne, hs.of t _ ht, varD_le l1 _ _ _ (hs.of k₁ _ h1), varD_le l2 _ _ _ (hs.of k₂ _ h2), varD_le l3 _ _ _ (hs.of k₃ _ h3)⟩
theorem A.openClos3 {c : Code} {Q : Exit → Act → World → Prop} {t k₁ k₂ k₃ : Nat} {B : Nat} (ht : E.look t = some (clos3 B f T₁ d₁ T₂ d₂ T₃ d₃))
    (h : ∀ p q r, B ≤ p → B ≤ q → B ≤ r → p ≠ q → p ≠ r → q ≠ r → A κ P w₀ n c ((t, .v (.func (.func f) #[] #[ptr p, ptr q, ptr r])) :: (k₁, varD p T₁ d₁) :: (k₂, varD q T₂ d₂) :: (k₃, varD r T₃ d₃) :: E) Q) : A κ P w₀ n c E Q := fun a w g hs => by
  obtain ⟨p, q, r, ⟨h1, h2, h3⟩, ⟨h4, h5, h6⟩, h7, h8, h9, h10⟩ := hs.of t _ ht
  exact h p q r h1 h2 h3 h4 h5 h6 a w g ((((hs.push (t := k₃) (d := varD r T₃ d₃) h10).push (t := k₂) (d := varD q T₂ d₂) h9).push (t := k₁) (d := varD p T₁ d₁) h8).push (d := .v _) h7)
/-- A variable that was there at a region's beginning lies below what the region makes. -/
theorem A.ltVar {c : Code} {Q : Exit → Act → World → Prop} {k b B' : Nat} {T : TypeId} {d : D} (hk : E.look k = some (old B' (varD b T d))) (h : b < B' → A κ P w₀ n c E Q) : A κ P w₀ n c E Q := fun a w g hs => h (hs.of k _ hk).2.1 a w g hs
/-- The row that a variable holds gets its value's name, and back. -/
theorem A.openVar {c : Code} {Q : Exit → Act → World → Prop} {k k' b B' m : Nat} {T e : TypeId} {xs : List Value} (hk : E.look k = some (varD b T (own B' e m xs))) (h : ∀ v, A κ P w₀ n c ((k, blk b T [v]) :: (k', ownM B' v e m xs) :: E) Q) : A κ P w₀ n c E Q := fun a w g hs => by
  obtain ⟨h1, u, h2, h3⟩ := hs.of k _ hk
  exact h u a w g ((hs.push (t := k') (d := ownM B' u e m xs) h3).push (d := blk b T [u]) ⟨h1, h2⟩)
/-- A pointer to a new block gets the block's name. -/
theorem A.openFresh {c : Code} {Q : Exit → Act → World → Prop} {t k B' : Nat} {L : List Nat} {T : TypeId} {zs : List Value} (ht : E.look t = some (freshV B' L T zs)) (h : ∀ b, B' ≤ b → A κ P w₀ n c ((t, .v (ptr b)) :: (k, blk b T zs) :: E) Q) : A κ P w₀ n c E Q := fun a w g hs => by
  obtain ⟨b, h1, h2, _, h4, h5⟩ := hs.of t _ ht
  exact h b h2 a w g ((hs.push (t := k) (d := blk b T zs) ⟨h4, h5⟩).push (d := .v _) h1)
theorem Firm.freshV {l base : Nat} {L : List Nat} {T : TypeId} {zs : List Value} : Firm l (Go.Proofs.YthadcgkcgpinhaaGreatDoor.freshV base L T zs) := fun w o o' _ hl ho ⟨b, h1, h2, h3, h4, h5⟩ => by
  have hne : b ≠ l := fun hb => by subst hb; rw [h5] at hl; injection hl with hl; subst hl; cases ho
  exact ⟨b, h1, h2, h3, by simpa using h4, (World.putObj_heap_other hne).trans h5⟩
end

/-! ### A region with a base of its own, where tables stay tables -/
def OldH (B : Nat) (E' E : Env) : Prop := ∀ p ∈ E', ∃ d, E.look p.1 = some d ∧ (p.2 = d ∨ p.2 = old B d)
theorem OldH.nil {B : Nat} {E : Env} : OldH B [] E := fun _ h => by cases h
theorem OldH.same {B : Nat} {E E' : Env} {t : Nat} {d : D} (h : E.look t = some d) (hr : OldH B E' E) : OldH B ((t, d) :: E') E := fun p hp => by
  rcases List.mem_cons.1 hp with rfl | hp
  · exact ⟨_, h, .inl rfl⟩
  · exact hr p hp
theorem OldH.p {B : Nat} {E E' : Env} {t : Nat} {d : D} (h : E.look t = some d) (hr : OldH B E' E) : OldH B ((t, old B d) :: E') E := fun p hp => by
  rcases List.mem_cons.1 hp with rfl | hp
  · exact ⟨d, h, .inr rfl⟩
  · exact hr p hp
theorem A.regsH {P : Program} {w₀ : World} {n : Nat} {y : Code} {E : Env} {Q : Exit → Act → World → Prop} {id : Nat} {ops : Array Oper} {draw : Bool} (E' : Nat → Env) (hE : ∀ B, OldH B (E' B) E) (hm : P.follows .mixedOrders = true) (hf : fits n ops = true) (ht : draw = false ∨ tied ops = true)
    (hr : ∀ B, w₀.heap.size ≤ B → RunTK P n B ops draw (fun E₁ => A κ P w₀ n y E₁ Q) 0 (E' B)) : A κ P w₀ n (.seq (.region id ops draw) y) E Q := A.seq fun a w g hst => by
  have hst' : St κ n w.heap.size (E' w.heap.size) a w := ⟨Nat.le_refl _, hst.defers, hst.size, fun t d hd => by
    obtain ⟨d', hd', h⟩ := hE w.heap.size _ (look_mem hd)
    have h1 := hst.of t d' hd'
    rcases h with h2 | h2
    · simp only at h2; rw [h2]; exact h1
    · simp only at h2; rw [h2]; exact ⟨Nat.le_refl _, h1⟩⟩
  exact wp_regT hm hf ht hst' (hr w.heap.size hst.base) fun _ a' w' h2 g' h' => h2 a' w' (g.trans (g'.mono hst.base)) ⟨Nat.le_trans hst.base g'.size, h'.defers, h'.size, h'.of⟩
end Go.Proofs.YthadcgkcgpinhaaGreatDoor
namespace Go.Proofs.YthadcgkcgpinhaaGreatDoor
open Go Go.RowKit
variable {κ : Cx}
section
variable {P : Program} {n : Nat} {w₀ : World} {ops : Array Oper} {E : Env} {ty : TypeId} {pos : String} {after : Array Edge}
def YieldsX (P : Program) (N : Nat) (l : Nat) (arg : Nat → D) (J : Nat → World → Prop) {X : Type} (XE : X → Env) : Prop :=
  ∀ (i : Nat) (W : World) (u : Value) (x : X), i < N → J i W → (arg i).Of W u → (∀ p ∈ XE x, p.2.Of W undef) → YieldAt (FR none) 0 P l #[u] W fun e W' => e = .returned (.bool true) ∧ J (i + 1) W' ∧ W.heap.size ≤ W'.heap.size ∧ ∀ p ∈ XE x, p.2.Of W' undef
structure SeqsX (P : Program) (w₀ : World) (N : Nat) (l : Nat) (arg : Nat → D) (V : Nat → Env) (J : Nat → World → Prop) {X : Type} (XE : X → Env) : Prop where
  grow : ∀ i a b, J i a → Grow a b → J i b
  holds : ∀ i W, J i W → Holds w₀ (V i) W
  yields : YieldsX P N l arg J XE
theorem SeqsX.sub {N l : Nat} {arg : Nat → D} {V V' : Nat → Env} {J : Nat → World → Prop} {X : Type} {XE : X → Env} (h : SeqsX P w₀ N l arg V J XE) (hs : ∀ i, ∀ p ∈ V' i, p ∈ V i) : SeqsX P w₀ N l arg V' J XE :=
  ⟨h.grow, fun i W hJ => ⟨(h.holds i W hJ).1, (h.holds i W hJ).2.1, fun p hp => (h.holds i W hJ).2.2 p (hs i p hp)⟩, h.yields⟩
theorem eff_yieldX {N l : Nat} {arg : Nat → D} {V : Nat → Env} {J : Nat → World → Prop} {X : Type} {XE : X → Env} {d vJ : Nat} {fv x : Operand} {ex : D} {tys : Array TypeId} {E' : Env} (hq : SeqsX P w₀ N l arg V J XE) (z : X) (i : Nat) (hi : i < N)
    (hJ : E.look vJ = some (jD (J i))) (hf : E.at fv = some (.v (.func (.yield l) #[] #[]))) (hx : E.at x = some ex) (hle : Le ex (arg i)) (hd : d < n) (hV : ∀ p ∈ V (i + 1), vbase ≤ p.1) (hXv : ∀ p ∈ XE z, vbase ≤ p.1) (hXE : ∀ p ∈ XE z, E.look p.1 = some p.2) (hn : n ≤ vbase)
    (hl : Left w₀.heap.size E' E) :
    Eff P n w₀.heap.size ops ⟨some d, .call { callee := .value fv, args := #[x], argTypes := tys }, ty, pos, after, none⟩ E ((d, .v (.bool true)) :: (vJ, jD (J (i + 1))) :: (V (i + 1) ++ XE z ++ E')) := by
  intro κ a w K Q h hK
  have h1 : a.eval fv = _ := h.at_ fv _ hf
  have h2 := hle.of (h.at_ x _ hx)
  have hJw : J i w := jD_get (hq.grow i) (h.of vJ _ hJ)
  have hund : ∀ t, vbase ≤ t → a.tmps.getD t undef = undef := fun t ht => by
    rw [Array.getD_eq_getD_getElem?, Array.getElem?_eq_none (by rw [h.size]; omega)]; rfl
  obtain ⟨fn, tmps, assign, body, hy, hr⟩ := hq.yields i w _ z hi hJw h2 fun p hp => by
    have := h.of _ _ (hXE p hp)
    rwa [hund _ (hXv p hp)] at this
  rw [if_pos (by simp [Region.wanted])]
  refine ⟨fun _ _ => trivial, ?_⟩
  rw [Oper.semAt_eq _ _ _ (by nofun)]
  have hrun : (execOp a.eval ⟨some d, .call { callee := .value fv, args := #[x], argTypes := tys }, ty, pos, after, none⟩).run P w = .ok (.round l fn tmps assign body) w := by
    simp [execOp, resolve, Deferred.ofValue, h1, invoke, hy]
  rw [hrun, Oper.uponIn_round]
  refine ⟨fun e => absurd e (by simp [FR, Fence.wide]), RoundIn.mono (F := FR κ.rd) (n := 0) hr ?_⟩
  rintro e W' ⟨rfl, hJ', hs, hX'⟩
  obtain ⟨hb, hsz, hv⟩ := hq.holds _ _ hJ'
  have hb0 := (hq.holds _ _ hJw).1
  have hbel := below_two hb0 hb hs
  refine hK _ _ hbel (St.put ⟨hsz, h.defers, h.size, fun t e he => ?_⟩ hd rfl)
  by_cases hts : vJ = t
  · subst hts
    rw [look_here] at he; injection he with he; subst he
    exact jD_mk hJ'
  · rw [look_past _ _ hts] at he
    rcases List.mem_append.1 (look_mem he) with hm | hm
    · rcases List.mem_append.1 hm with hm | hm
      · have := hv _ hm
        rwa [hund t (hV _ hm)]
      · have := hX' _ hm
        rwa [hund t (hXv _ hm)]
    · obtain ⟨h7, h8⟩ := hl _ hm
      exact h8 _ _ _ hbel h.base (h.of t e h7)
/-- The end of a function that is ranged over. -/
theorem End.seqX {fn : Func} {N l : Nat} {arg : Nat → D} {V : Nat → Env} {J : Nat → World → Prop} {X : Type} {XE : X → Env} {vJ : Nat} (hq : SeqsX P w₀ N l arg V J XE) (hr : fn.results = #[]) (hJ : E.look vJ = some (jD (J N))) :
    End Cx.top w₀ n E (BP P fn (fun e W => (∃ v, e = .returned v) ∧ J N W) .normal) := fun a w _ hs => by
  show LeavesInM (FR none) 0 P fn a.tmps _ a.defers .returning w
  rw [show a.defers = [] from hs.defers]
  exact ⟨_, by simp [results, hr]; rfl, ⟨_, rfl⟩, jD_get (hq.grow N) (hs.of vJ _ hJ)⟩

/-- The loop's variable is a new block, filled with the round's value. -/
theorem assign_box {l tp t : Nat} {id : Nat} {ty ty' pos pos'} {e1 e2 : Array Edge} {T : TypeId} {zs ys : List Value} {E : Env} {a : Act} {w : World} (hz : ZeroIs P T zs) (hsz : SizeIs P T ys.length) (h1 : ys.all (·.oneCell') = true) (ho : zs.length = ys.length)
    (ht : t < n) (hne : t ≠ tp) (hb : w₀.heap.size ≤ w.heap.size) (h : St ⟨some l, []⟩ n w₀.heap.size ((tp, .v (aggV ys)) :: E) a w) :
    (Code.region id #[⟨some t, .alloc T, ty, pos, e1, none⟩, ⟨none, .store T (.tmp t) (.tmp tp), ty', pos', e2, none⟩] false).wpIn (FR (some l)) 0 P (fun e a' w' => e = .normal ∧ Grow w w' ∧ St ⟨some l, []⟩ n w₀.heap.size ((t, freshV w₀.heap.size [] T ys) :: (tp, .v (aggV ys)) :: E) a' w') a w := by
  obtain ⟨zi, zv, hzi, hzv, hzc⟩ := hz.get
  have ht' : t < a.tmps.size := by rw [h.size]; exact ht
  have hv : a.eval (.tmp tp) = aggV ys := h.at_ (.tmp tp) _ (look_here _ _ _)
  refine wpIn_region_list ?_
  obtain ⟨W1, hW1⟩ : ∃ W1, w.alloc (.cells zs.toArray T) = W1 := ⟨_, rfl⟩
  have hh : W1.heap[w.heap.size]? = some (.cells zs.toArray T (0, 0)) := by rw [← hW1]; exact heap_alloc_new w _
  have hg1 : Grow w W1 := by rw [← hW1]; exact Grow.alloc w _
  have hlt : w.heap.size < W1.heap.size := (Array.getElem?_eq_some_iff.1 hh).1
  refine wpListR_step (κ := ⟨some l, []⟩) fun K hK => ?_
  rw [if_pos (by simp [Region.wanted])]
  refine opR (by nofun) ?_
  unfold Oper.wp
  have hr1 : (execOp a.eval ⟨some t, .alloc T, ty, pos, e1, none⟩).run P w = .ok (.value (ptr w.heap.size)) W1 := by
    rw [← hW1]; simp [execOp, Instr.alloc, zeroValue, typeInfo, hzi, hzv, newVar, newRow, hzc]
  rw [hr1, Oper.upon_value]
  refine hK _ _ ?_
  refine wpListR_step (κ := ⟨some l, []⟩) fun K' hK' => ?_
  rw [if_pos (by simp [Region.wanted])]
  refine opR (by nofun) ?_
  unfold Oper.wp
  have hp : (a.put (some t) (ptr w.heap.size)).eval (.tmp t) = ptr w.heap.size := getD_put_here a _ ht'
  have hx : (a.put (some t) (ptr w.heap.size)).eval (.tmp tp) = aggV ys := (getD_put_past a _ hne).trans hv
  have hr2 : (execOp (a.put (some t) (ptr w.heap.size)).eval ⟨none, .store T (.tmp t) (.tmp tp), ty', pos', e2, none⟩).run P W1 = .ok .skip (W1.setRow w.heap.size ys.toArray) := by
    have := run_storeVar_row (P := P) W1 w.heap.size T T zs.toArray ys.toArray hh (by simpa [SizeIs] using hsz) (by simpa using ho) (by simpa using h1)
    simp [execOp, hp, hx, Instr.storeAt, Instr.sureAddr, aggV, this]
  rw [hr2, Oper.upon_skip]
  refine hK' _ _ (wpListIn_nil ?_)
  have hwr := Wrote.setRow (B := w.heap.size) (Nat.le_refl _) hh ys.toArray
  have hg2 : Grow w (W1.setRow w.heap.size ys.toArray) := Below.trans hg1 (hwr.below (Nat.le_of_lt hlt))
  refine ⟨rfl, hg2, ?_⟩
  have hst := h.grow hg2
  exact St.put (t := t) (d := freshV w₀.heap.size [] T ys) (h.grow hg2) ht ⟨w.heap.size, rfl, hb, (fun _ h => by cases h), by simpa using hlt, setRow_heap W1 _ _ _ T _ hh⟩

theorem A.rangeX {X : Type} {XE : X → Env} {Q : Exit → Act → World → Prop} {g : Operand} {tp gf N vL vD : Nat} {assign body : Code} {lb : List Value} {S : Env} {V : Nat → Env} {Eb : Nat → X → Env} {arg : Nat → D} (hg : E.at g = some (.v (.func (.func gf) #[] lb.toArray)))
    (hgf : ∃ fn, P.funcs[gf]? = some fn ∧ (fn.name == "runtime.NumGoroutine") = false ∧ fn.body.isNone = false) (htp : tp < n) (hn : n ≤ vbase) (h0 : Sub (V 0 ++ S) E)
    (hS : ∀ p ∈ S, p.1 < vbase ∧ ((∃ x, p.2 = .v x) ∨ ∃ d, p.2 = old w₀.heap.size d)) (hV : ∀ i, ∀ p ∈ V i, vbase ≤ p.1) (hX : ∀ x, ∀ p ∈ XE x, vbase ≤ p.1) (hfX : ∀ x l, w₀.heap.size ≤ l → ∀ p ∈ XE x, Firm l p.2)
    (hfV : ∀ i l, w₀.heap.size ≤ l → ∀ p ∈ V i, Firm l p.2) (hfE : ∀ i x l, w₀.heap.size ≤ l → ∀ p ∈ Eb i x, Firm l p.2)
    (hseq : ∀ (J : Nat → World → Prop) (l : Nat) (w : World), SeqsX P w₀ N l arg V J XE → J 0 w → Calls P gf (.func (.yield l) #[] #[] :: lb).toArray w fun e W => (∃ v, e = .returned v) ∧ J N W)
    (hassign : ∀ i l a w x, i < N → w₀.heap.size ≤ w.heap.size → St ⟨some l, []⟩ n w₀.heap.size ((tp, arg i) :: (V i ++ S ++ XE x)) a w → assign.wpIn (FR (some l)) 0 P (fun e a' w' => e = .normal ∧ Grow w w' ∧ St ⟨some l, []⟩ n w₀.heap.size (Eb i x) a' w') a w)
    (hbody : ∀ i l D r m x, i < N → A ⟨some l, []⟩ P w₀ n body ((vL, recD l (.loop r) m) :: (vD, recD D (.deferred (some [])) 0) :: Eb i x) (RoundQ w₀ ((vL, recD l (.loop r) m) :: (vD, recD D (.deferred (some [])) 0) :: (V (i + 1) ++ XE x))))
    (hend : ∀ D, w₀.heap.size ≤ D → End ⟨none, [{ target := .collected D, args := #[] }]⟩ w₀ n ((vD, recD D (.deferred (some [])) 0) :: (V N ++ S)) (Q .normal)) :
    A ⟨none, []⟩ P w₀ n (.rangeFunc g #[tp] assign body) E Q := fun a w hb hst => by
  show (Code.rangeFunc g #[tp] assign body).wpIn (FR none) 0 P Q a w
  refine wpIn_rangeFunc fun fn _ => ?_
  obtain ⟨rec, hrec⟩ : ∃ rec : LoopState → Option Code → Loop, rec = fun st pe => { state := st, pending := pe, fn, tmps := a.tmps, params := #[tp], assign, body, defers := w.heap.size } := ⟨_, rfl⟩
  obtain ⟨W1, hW1⟩ : ∃ W1, (w.alloc (.deferred (some []))).alloc (.loop (rec .ready none)) = W1 := ⟨_, rfl⟩
  have hg' : a.eval g = .func (.func gf) #[] lb.toArray := hst.at_ g _ hg
  obtain ⟨gfn, hf1, hf2, hf3⟩ := hgf
  have eg : ∀ args w, (callFunc gf args).run P w = .ok (.enter gf args) w := fun args w => by
    have h2' : ¬ gfn.name = "runtime.NumGoroutine" := by simpa using hf2
    have h3' : ¬ gfn.body = none := by intro h; rw [h] at hf3; cases hf3
    simp [callFunc, hf1, h2', h3']
  have hgr : Grow w W1 := by
    rw [← hW1]; exact (Grow.alloc w _).trans (Grow.alloc _ _)
  have hL1 : W1.heap[w.heap.size + 1]? = some (.loop (rec .ready none)) := by
    rw [← hW1]; have := World.alloc_heap_new (w.alloc (.deferred (some []))) (.loop (rec .ready none)); rwa [World.size_alloc] at this
  have hK1 : W1.heap[w.heap.size]? = some (.deferred (some [])) := by
    rw [← hW1]; exact (Below.heap_alloc _ _ _ (by simp)).trans (World.alloc_heap_new w _)
  have hund : ∀ t, vbase ≤ t → a.tmps.getD t undef = undef := fun t ht => by
    rw [Array.getD_eq_getD_getElem?, Array.getElem?_eq_none (by rw [hst.size]; omega)]; rfl
  have hH0 : Holds w₀ (V 0) w := ⟨hb, hst.base, fun p hp => by
    have h1 := hst.of p.1 p.2 (h0 p (List.mem_append_left _ hp))
    rwa [hund _ (hV 0 p hp)] at h1⟩
  -- what holds between two rounds
  have hstS : ∀ (κ' : Cx) (i : Nat) (W : World) (a' : Act) (E' : Env), κ'.df = a'.defers → a'.tmps.size = n → Holds w₀ (V i) W → w.heap.size ≤ W.heap.size → (∀ t e, E'.look t = some e → e.Of W (a'.tmps.getD t undef) ∨ ((t, e) ∈ V i ++ S ∧ (t < vbase → a'.tmps.getD t undef = a.tmps.getD t undef))) → St κ' n w₀.heap.size E' a' W := by
    intro κ' i W a' E' hd hsz hH hs hE
    refine ⟨hH.2.1, hd.symm, hsz, fun t e he => ?_⟩
    rcases hE t e he with h | ⟨hm, hsame⟩
    · exact h
    · rcases List.mem_append.1 hm with hm | hm
      · have h1 := hH.2.2 _ hm
        have ht := hV i _ hm
        simp only at ht
        rwa [Array.getD_eq_getD_getElem?, Array.getElem?_eq_none (by rw [hsz]; omega)]
      · obtain ⟨ht, hk⟩ := hS _ hm
        rw [hsame ht]
        have h1 := hst.of t e (h0 _ (List.mem_append_right _ hm))
        rcases hk with ⟨x, hx⟩ | ⟨d, hd'⟩
        · simp only at hx; subst hx; exact h1
        · simp only at hd'; subst hd'
          exact ⟨hH.2.1, D.OfB.keep h1.2 (below_two hb hH.1 hs)⟩
  refine ⟨w.heap.size + 1, [{ target := .collected w.heap.size, args := #[] }], W1, { target := .fn (.func gf) lb.toArray, args := #[.func (.yield (w.heap.size + 1)) #[] #[]] }, W1, gf,
    #[.func (.yield (w.heap.size + 1)) #[] #[]] ++ lb.toArray, W1, ?_, ?_, fun _ _ => trivial, ?_, fun e => absurd e (by simp [FR, Fence.wide]), ?_⟩
  · rw [← hW1, hrec]; exact run_enterLoop_outer _ _ _ _ _
  · have hy : a.eval (.const (.func (.yield (w.heap.size + 1)) #[] #[])) = .func (.yield (w.heap.size + 1)) #[] #[] := rfl
    simp only [resolve, hg']
    simp [Deferred.ofValue, hy]
  · simp [invoke, eg]
  · have harr : (#[.func (.yield (w.heap.size + 1)) #[] #[]] ++ lb.toArray : Array Value) = (.func (.yield (w.heap.size + 1)) #[] #[] :: lb).toArray := by simp
    rw [harr]
    refine callsIn_FR.2 ((hseq (fun i W => Holds w₀ (V i) W ∧ W.heap[w.heap.size + 1]? = some (.loop (rec .ready none)) ∧ W.heap[w.heap.size]? = some (.deferred (some []))) (w.heap.size + 1) W1 ⟨?_, fun i W h => h.1, ?_⟩ ⟨hH0.grow hgr, hL1, hK1⟩).mono ?_)
    · rintro i x y ⟨h1, h2, h3⟩ k
      exact ⟨h1.grow k, (k.block _ (Array.getElem?_eq_some_iff.1 h2).1).trans h2, (k.block _ (Array.getElem?_eq_some_iff.1 h3).1).trans h3⟩
    · -- one round
      rintro i W u x hi ⟨hH, hl, hk⟩ hu hXE
      have hlt : w.heap.size + 1 < W.heap.size := (Array.getElem?_eq_some_iff.1 hl).1
      have hBl : w₀.heap.size ≤ w.heap.size + 1 := by have := hst.base; omega
      have hy := run_yield (P := P) (args := #[u]) hl (by rw [hrec]; rfl)
      rw [hrec] at hy
      refine ⟨fn, _, assign, body, hy, roundIn_of_wpIn (F := FR none) trivial ?_⟩
      have htm : (List.foldl (fun (tmps : Array Value) (x : Tmp × Value) => tmps.setIfInBounds x.1 x.2) a.tmps ((#[tp].zip #[u]).toList)) = a.tmps.setIfInBounds tp u := by simp
      have hsta : St ⟨some (w.heap.size + 1), []⟩ n w₀.heap.size ((tp, arg i) :: (V i ++ S ++ XE x)) { tmps := a.tmps.setIfInBounds tp u, defers := [] } W := by
        refine hstS _ i W _ _ rfl (by simp [hst.size]) hH (by omega) fun t e he => ?_
        by_cases hts : tp = t
        · subst hts
          rw [look_here] at he; injection he with he; subst he
          left
          have : tp < a.tmps.size := by rw [hst.size]; exact htp
          simpa [this] using hu
        · rw [look_past _ _ hts] at he
          rcases List.mem_append.1 (look_mem he) with hm | hm
          · exact .inr ⟨hm, fun _ => by simp [Array.getElem?_setIfInBounds_ne hts]⟩
          · left
            have h1 := hXE _ hm
            have h2 := hX x _ hm
            simp only at h2 h1
            have h3 : ({ tmps := a.tmps.setIfInBounds tp u, defers := [] } : Act).tmps.getD t undef = undef := by
              rw [Array.getD_eq_getD_getElem?, Array.getElem?_eq_none (by simp [hst.size]; omega)]; rfl
            rw [h3]; exact h1
      have has := hassign i (w.heap.size + 1) _ W x hi hH.2.1 hsta
      have hrun0 : ({ tmps := Array.foldl (fun (tmps : Array Value) (x : Tmp × Value) => tmps.setIfInBounds x.1 x.2) a.tmps (#[tp].zip #[u]), defers := [] } : Act) = { tmps := a.tmps.setIfInBounds tp u, defers := [] } := by simp
      show assign.wpIn (FR (some (w.heap.size + 1))) 0 P _ _ W
      refine wpIn_mono (F := FR (some (w.heap.size + 1))) (n := 0) (by first | exact has | (rw [← hrun0] at has; exact has)) ?_
      rintro e a1 W2 ⟨rfl, hg2, hst2⟩
      have hl2 : W2.heap[w.heap.size + 1]? = some (.loop (rec .ready none)) := (hg2.block _ hlt).trans hl
      have hk2 : W2.heap[w.heap.size]? = some (.deferred (some [])) := (hg2.block _ (by omega)).trans hk
      have hH2 := hH.grow hg2
      have hlt2 : w.heap.size + 1 < W2.heap.size := (Array.getElem?_eq_some_iff.1 hl2).1
      refine ⟨_, run_beginRound hl2 (by rw [hrec]), ?_⟩
      have hl3 : (W2.putObj (w.heap.size + 1) (.loop { rec .ready none with state := .busy })).heap[w.heap.size + 1]? = some (.loop { rec .ready none with state := .busy }) := World.putObj_heap_same hlt2
      have hk3 : (W2.putObj (w.heap.size + 1) (.loop { rec .ready none with state := .busy })).heap[w.heap.size]? = some (.deferred (some [])) := (World.putObj_heap_other (by omega)).trans hk2
      have hH3 := hH2.putObj (.loop { rec .ready none with state := .busy }) hl2 rfl hBl (hfV i _ hBl)
      have hst3 : St ⟨some (w.heap.size + 1), []⟩ n w₀.heap.size ((vL, recD (w.heap.size + 1) (.loop { rec .ready none with state := .busy }) W.heap.size) :: (vD, recD w.heap.size (.deferred (some [])) 0) :: Eb i x) a1 (W2.putObj (w.heap.size + 1) (.loop { rec .ready none with state := .busy })) := by
        refine ⟨hH3.2.1, hst2.defers, hst2.size, fun t e he => ?_⟩
        by_cases hts : vL = t
        · subst hts
          rw [look_here] at he; injection he with he; subst he
          exact ⟨by simpa using hlt2, by simpa using hg2.size, hl3⟩
        · rw [look_past _ _ hts] at he
          by_cases hts' : vD = t
          · subst hts'
            rw [look_here] at he; injection he with he; subst he
            exact ⟨by simp; omega, Nat.zero_le _, hk3⟩
          · rw [look_past _ _ hts'] at he
            exact hfE i x _ hBl _ (look_mem he) W2 _ _ _ hl2 rfl (hst2.of t e he)
      refine wpIn_mono (F := FR (some (w.heap.size + 1))) (n := 0) (hbody i _ _ _ _ x hi a1 _ hH3.1 hst3) ?_
      rintro e a3 W3 hp
      cases e with
      | normal =>
        obtain ⟨hb3, hs3, hv3⟩ := hp
        obtain ⟨hlt3, hm3, hl4⟩ := hv3 _ List.mem_cons_self
        obtain ⟨_, _, hk4⟩ := hv3 _ (List.mem_cons_of_mem _ List.mem_cons_self)
        have hH4 : Holds w₀ (V (i + 1)) W3 := ⟨hb3, hs3, fun p hp => hv3 p (List.mem_cons_of_mem _ (List.mem_cons_of_mem _ (List.mem_append_left _ hp)))⟩
        have hX4 : ∀ p ∈ XE x, p.2.Of W3 undef := fun p hp => hv3 p (List.mem_cons_of_mem _ (List.mem_cons_of_mem _ (List.mem_append_right _ hp)))
        have hend := run_endRound (P := P) none hl4
        refine ⟨_, _, hend, rfl, ⟨hH4.putObj _ hl4 rfl hBl (hfV _ _ hBl), ?_, (World.putObj_heap_other (by omega)).trans hk4⟩, by simpa using hm3, fun p hp => hfX x _ hBl p hp W3 _ _ _ hl4 rfl (hX4 p hp)⟩
        have := World.putObj_heap_same (o := .loop { { rec .ready none with state := .busy } with state := .ready, pending := none }) hlt3
        rw [hrec] at this ⊢
        exact this
      | _ => exact hp.elim
    · -- behind it
      rintro e W2 ⟨⟨v, rfl⟩, hH, hl, hk⟩
      have hBl : w₀.heap.size ≤ w.heap.size + 1 := by have := hst.base; omega
      have hlt2 : w.heap.size + 1 < W2.heap.size := (Array.getElem?_eq_some_iff.1 hl).1
      have hel := run_endLoop (P := P) hl (by rw [hrec]; simp)
      refine ⟨none, _, by rw [hrec] at hel; exact hel, ?_⟩
      have hH3 := hH.putObj (.loop { state := .exhausted, pending := none, fn, tmps := a.tmps, params := #[tp], assign, body, defers := w.heap.size }) hl rfl hBl (hfV N _ hBl)
      refine hend w.heap.size hst.base _ _ hH3.1 (hstS _ N _ _ _ (by simp [hst.defers]) hst.size hH3 (by simp; omega) fun t e he => ?_)
      by_cases hts : vD = t
      · subst hts
        rw [look_here] at he; injection he with he; subst he
        exact .inl ⟨by simp; omega, Nat.zero_le _, (World.putObj_heap_other (by omega)).trans hk⟩
      · rw [look_past _ _ hts] at he
        exact .inr ⟨look_mem he, fun _ => rfl⟩


/-- return of values, from a function in which a range over a function ended. -/
theorem End.ret2C {fn : Func} {D vD r₁ r₂ : Nat} {f₁ f₂ d₁ d₂ : Go.Proofs.YthadcgkcgpinhaaGreatDoor.D} {m : Nat} (hD : E.look vD = some (recD D (.deferred (some [])) m)) (hDB : w₀.heap.size ≤ D) (hr : fn.results = #[.tmp r₁, .tmp r₂])
    (h1 : E.look r₁ = some f₁) (hf1 : Firm D f₁) (hl1 : Le f₁ d₁) (h2 : E.look r₂ = some f₂) (hf2 : Firm D f₂) (hl2 : Le f₂ d₂) : End ⟨none, [{ target := .collected D, args := #[] }]⟩ w₀ n E (BP P fn (PostOf w₀ (tup [d₁, d₂])) .ret) := fun a w g hs => by
  obtain ⟨hlt, _, hk⟩ := hs.of vD _ hD
  have k1 := hl1.of (hf1 w _ (.deferred none) _ hk rfl (hs.of r₁ _ h1))
  have k2 := hl2.of (hf2 w _ (.deferred none) _ hk rfl (hs.of r₂ _ h2))
  show LeavesInM (FR none) 0 P fn a.tmps _ a.defers .returning w
  rw [show a.defers = [{ target := .collected D, args := #[] }] from hs.defers]
  refine ⟨by simp, .inl ⟨D, _, rfl, run_takeDeferred hk, ?_⟩⟩
  refine ⟨.tuple #[a.tmps.getD r₁ undef, a.tmps.getD r₂ undef], by simp [results, hr], _, rfl, Below.trans g (below_putObj w _ hDB), [a.tmps.getD r₁ undef, a.tmps.getD r₂ undef], rfl, rfl, fun j e u he hu => ?_⟩
  match j, he, hu with
  | 0, he, hu => simp only [List.getElem?_cons_zero, Option.some.injEq] at he hu; subst he; subst hu; exact k1
  | 1, he, hu => simp only [List.getElem?_cons_succ, List.getElem?_cons_zero, Option.some.injEq] at he hu; subst he; subst hu; exact k2
  | j + 2, he, _ => simp at he
end
end Go.Proofs.YthadcgkcgpinhaaGreatDoor
namespace Go.Proofs.YthadcgkcgpinhaaGreatDoor
open Go Go.RowKit
variable {κ : Cx}

/-- Since the world w₁ nothing that was there has changed but block g. -/
def wroteD (T : TypeId) (g : Nat) (w₁ : World) : D :=
  .p (fun B w _ => w₁.heap.size ≤ B ∧ Wrote g T g w₁ w) (fun _ _ _ _ h ⟨h1, h2⟩ => ⟨h1, ⟨h2.base, h.os.trans h2.os, h.tape.trans h2.tape, h.output.trans h2.output, Nat.le_trans h2.size h.size, h2.cel, fun k hk hne => (h.block k (Nat.lt_of_lt_of_le hk h1)).trans (h2.other k hk hne)⟩⟩)
    (fun _ _ _ _ h ⟨h1, h2⟩ => ⟨Nat.le_trans h1 h, h2⟩)
theorem Surv.wrote {B T g : Nat} {w₁ : World} : Surv B T g (wroteD T g w₁) := fun _ _ _ k ⟨h1, h2⟩ =>
  ⟨Nat.le_trans h1 k.size, ⟨h2.base, k.os.trans h2.os, k.tape.trans h2.tape, k.output.trans h2.output, Nat.le_trans h2.size k.size, h2.cel, fun j hj hne => (k.other j (Nat.lt_of_lt_of_le hj h1) hne).trans (h2.other j hj hne)⟩⟩
/-- The world with its first g blocks alone. -/
def cutW (w : World) (g : Nat) : World := { w with heap := w.heap.extract 0 g }
theorem cutW_size {w : World} {g : Nat} (h : g ≤ w.heap.size) : (cutW w g).heap.size = g := by simp [cutW]; omega
theorem cutW_below {w : World} {g : Nat} (h : g ≤ w.heap.size) : Below (cutW w g).heap.size (cutW w g) w :=
  ⟨rfl, rfl, rfl, by rw [cutW_size h]; exact h, fun k hk => by
    rw [cutW_size h] at hk
    simp only [cutW, Array.getElem?_extract]
    rw [if_pos (by omega), Nat.zero_add]⟩

/-- A contract: block g, whose cells are xs, is left with the cells ys; the tables M lie below it. -/
structure FnW (P : Program) (f : FuncId) (M : Env) (T g : Nat) (xs ys : List Value) (ds : List D) : Prop where
  body : ∃ fn, P.funcs[f]? = some fn ∧ (fn.name == "runtime.NumGoroutine") = false ∧ fn.body.isNone = false
  calls : ∀ (vs : List Value) (w : World), vs.length = ds.length → (∀ (j : Nat) (e : D) (u : Value), ds[j]? = some e → vs[j]? = some u → e.Of w u) → (∀ p ∈ M, p.2.OfB g w undef) → g < w.heap.size → w.heap[g]? = some (.cells xs.toArray T (0, 0)) →
    Calls P f vs.toArray w fun e w' => e = .returned (.tuple #[]) ∧ Wrote g T g w w' ∧ w'.heap[g]? = some (.cells ys.toArray T (0, 0))
section
variable {P : Program} {n B : Nat} {ops : Array Oper} {E : Env} {ty : TypeId} {pos : String} {after : Array Edge}
theorem eff_callW {f : FuncId} {M : Env} {T g s dst : Nat} {xs ys : List Value} {ds : List D} {args : Array Operand} {argTypes : Array TypeId} {E' : Env} (hf : FnW P f M T g xs ys ds) (hM : ∀ p ∈ M, ∃ b cs, p.2 = tab b cs ∧ b < g ∧ E.look p.1 = some p.2) 
    (ha : Args E ds args.toList) (hg : B ≤ g) (hblk : E.look s = some (blk g T xs)) (hdst : dst < n) (hl : LeftS B T g E' E) :
    Eff P n B ops ⟨some dst, .call { callee := .value (.func f), args := args, argTypes := argTypes }, ty, pos, after, none⟩ E ((dst, .v (.tuple #[])) :: (s, blk g T ys) :: E') := by
  intro κ a w K Q h hK
  obtain ⟨fn, h1, h2, h3⟩ := hf.body
  have hfun : a.eval (.func f) = .func (.func f) #[] #[] := h.at_ (.func f) _ rfl
  have hrun : (execOp a.eval ⟨some dst, .call { callee := .value (.func f), args := args, argTypes := argTypes }, ty, pos, after, none⟩).run P w = .ok (.enter f (args.map a.eval)) w := by
    have h2' : ¬ fn.name = "runtime.NumGoroutine" := by simpa using h2
    have h3' : ¬ fn.body = none := by intro h; rw [h] at h3; cases h3
    simp [execOp, resolve, Deferred.ofValue, hfun, invoke, callFunc, h1, h2', h3']
  obtain ⟨hlt, hh⟩ := h.of s _ hblk
  have hcall := hf.calls (args.toList.map a.eval) w (by rw [List.length_map, ha.length]) (fun j e u he hu => by
    rw [List.getElem?_map] at hu
    cases hx : args.toList[j]? with
    | none => rw [hx] at hu; cases hu
    | some x =>
      rw [hx] at hu; injection hu with hu; subst hu
      obtain ⟨e', h4, h5⟩ := ha.nth he hx
      exact h5.of (h.at_ x _ h4)) (fun p hp => by
    obtain ⟨b, cs, h4, h5, h6⟩ := hM p hp
    have h7 := h.of p.1 _ h6
    rw [h4] at h7 ⊢
    obtain ⟨_, h8⟩ := h7
    exact ⟨h5, h8⟩) hlt hh
  have harr : (args.toList.map a.eval).toArray = args.map a.eval := by apply Array.ext'; simp
  rw [harr] at hcall
  rw [if_pos (by simp [Region.wanted])]
  refine opR (by nofun) ?_
  unfold Oper.wp
  rw [hrun, Oper.upon_enter]
  refine Calls.mono hcall ?_
  rintro e w' ⟨rfl, hw, hh'⟩
  have hwr : Wrote B T g w w' := ⟨hg, hw.os, hw.tape, hw.output, hw.size, hw.cel, hw.other⟩
  have hst := hl.st h hwr
  have hlt' : g < w'.heap.size := (Array.getElem?_eq_some_iff.1 hh').1
  exact hK _ _ (hwr.below h.base) (St.put (hst.push (d := blk g T ys) ⟨hlt', hh'⟩) hdst rfl)
/-- The contract out of a walk at the base of the block that is written. -/
theorem FnW.of {f : FuncId} {fn : Func} {c : Code} {M : Env} {T g kb kw : Nat} {xs ys us : List Value} (hf : P.funcs[f]? = some fn) (hb : fn.body = some c) (hname : (fn.name == "runtime.NumGoroutine") = false) (hn : fn.ntmps = n) (hds : us.length ≤ n) (hnv : n ≤ vbase)
    (hMb : ∀ p ∈ M, vbase ≤ p.1) (hkb : vbase ≤ kb) (hkw : vbase ≤ kw) (args : Env) (hargs : ∀ p ∈ args, ∃ v, p.2 = .v v ∧ us[p.1]? = some v)
    (h : ∀ w₀ w₁ : World, w₀.heap.size = g → (∀ p ∈ M, p.2.OfB w₀.heap.size w₁ undef) → A Cx.top P w₀ n c (args ++ ((kb, blk g T xs) :: (kw, wroteD T g w₁) :: M)) (BP P fn fun e w' => e = .returned (.tuple #[]) ∧ Wrote g T g w₁ w' ∧ w'.heap[g]? = some (.cells ys.toArray T (0, 0)))) :
    FnW P f M T g xs ys (us.map D.v) := by
  refine ⟨⟨fn, hf, hname, by rw [hb]; rfl⟩, fun vs w hl hv hM hlt hh => ?_⟩
  have hvs : vs = us := by
    apply List.ext_getElem?
    intro j
    simp only [List.length_map] at hl
    rcases Nat.lt_or_ge j us.length with hj | hj
    · have h1 := hv j (.v us[j]) vs[j] (by simp [hj]) (List.getElem?_eq_getElem (by omega))
      rw [List.getElem?_eq_getElem hj, List.getElem?_eq_getElem (by omega)]
      exact congrArg some h1
    · rw [List.getElem?_eq_none hj, List.getElem?_eq_none (by omega)]
  subst hvs
  have hsz := cutW_size (w := w) (g := g) (Nat.le_of_lt hlt)
  refine callsIn_FR.1 (callsIn_of_wp_marks (F := FR none) (n := 0) hf hb trivial (h (cutW w g) w hsz (by rw [hsz]; exact hM) _ w (cutW_below (Nat.le_of_lt hlt)) ⟨by rw [hsz]; omega, rfl, ?_, fun t e he => ?_⟩))
  · simp [hn]; omega
  · show e.Of w ((vs.toArray ++ Array.replicate (fn.ntmps - vs.toArray.size) undef).getD t undef)
    have hund : vbase ≤ t → (vs.toArray ++ Array.replicate (fn.ntmps - vs.toArray.size) undef).getD t undef = undef := fun ht => by
      rw [Array.getD_eq_getD_getElem?, Array.getElem?_eq_none (by simp [hn]; omega)]; rfl
    rcases List.mem_append.1 (look_mem he) with hm | hm
    · obtain ⟨v, h1, h2⟩ := hargs _ hm
      simp only at h1 h2
      have hj : t < vs.length := (List.getElem?_eq_some_iff.1 h2).1
      rw [Array.getD_eq_getD_getElem?, Array.getElem?_append_left (by simpa using hj)]
      subst h1
      simp [h2]; rfl
    · rcases List.mem_cons.1 hm with h1 | hm
      · injection h1 with h1 h2; subst h1; subst h2
        exact ⟨hlt, hh⟩
      · rcases List.mem_cons.1 hm with h1 | hm
        · injection h1 with h1 h2; subst h1; subst h2
          exact ⟨Nat.le_refl _, Nat.le_refl _, rfl, rfl, rfl, Nat.le_refl _, fun o ho => by rw [hh] at ho; injection ho with ho; exact ⟨_, _, ho.symm⟩, fun _ _ _ => rfl⟩
        · have h1 := hMb _ hm
          rw [hund h1]
          exact D.OfB.up (hM _ hm) (Nat.le_of_lt hlt)
theorem End.wrote {w₀ w₁ : World} {fn : Func} {T g kb kw : Nat} {xs ys : List Value} (hr : fn.results = #[]) (hb : E.look kb = some (blk g T xs)) (hx : xs = ys) (hw : E.look kw = some (wroteD T g w₁)) :
    End Cx.top w₀ n E (BP P fn (fun e w' => e = .returned (.tuple #[]) ∧ Wrote g T g w₁ w' ∧ w'.heap[g]? = some (.cells ys.toArray T (0, 0))) .normal) := fun a w _ hs => by
  subst hx
  show LeavesInM (FR none) 0 P fn a.tmps _ a.defers .returning w
  rw [show a.defers = [] from hs.defers]
  exact ⟨.tuple #[], by simp [results, hr], rfl, (hs.of kw _ hw).2, (hs.of kb _ hb).2⟩
end
end Go.Proofs.YthadcgkcgpinhaaGreatDoor
namespace Go.Proofs.YthadcgkcgpinhaaGreatDoor
open Go Go.RowKit
set_option linter.unusedVariables false
set_option maxRecDepth 20000
theorem zero49 : ZeroIs Tryz.prog 49 [.slice none 0 0] := by unfold ZeroIs; kernel_rfl

theorem zero26 : ZeroIs Tryz.prog 26 (List.replicate 16 (.int .u8 0) ++ List.replicate 32 (.int .u8 0)) := by unfold ZeroIs; kernel_rfl
theorem size26 : SizeIs Tryz.prog 26 48 := by unfold SizeIs; kernel_rfl
theorem field26_0 : FieldIs Tryz.prog 26 0 0 16 := by unfold FieldIs; kernel_rfl
theorem field26_1 : FieldIs Tryz.prog 26 1 16 32 := by unfold FieldIs; kernel_rfl
theorem Extract_fn (k m : List UInt8) (hk : k.length ≤ 1000) (hm : m.length ≤ 10000) : FnM Tryz.prog 40 tabs [byt k, byt m] (.v (aggV ((hmac k m).map byteV))) := by
 refine FnM.of Tryz.func40 rfl (by kernel_rfl) Tryz.ntmps40 (by simp) (by decide) (fun w => [(0, old w.heap.size (byt k)), (1, old w.heap.size (byt m)), (1900000, tab 0 (H8.list.map u32V)), (1900001, tab 1 (K64.map u32V))]) (fun w => (StartM.old rfl (StartM.old rfl (StartM.m (by simp [tabs]) (by decide) (StartM.m (by simp [tabs]) (by decide) StartM.nil))))) fun w₀ hM => ?_
 have htab := tabs_hi hM
 refine GS ?_
 refine TN 0 ?_
 refine RN ?_
 refine ⟨_, _, eff_alloc (n := 9) (d := 4) (k := 1000004) zero34 (by decide), fun b4 hb4 => ?_⟩
 have hBb4 := hb4.1
 refine TL ?_
 refine RN ?_
 refine GS ?_
 refine TF 4 ?_
 refine RM rfl ?_
 refine RM rfl ?_
 refine RS (ok_build [old w₀.heap.size (byt m)] Tryz.underlying102 info49 rfl (by decide) (by decide) rfl ⟨rfl, rfl, trivial⟩ (fun d hd w x h => by simp only [List.mem_cons, List.not_mem_nil, or_false] at hd; subst hd; exact old_one (fun _ _ h => lst_one h) h)) ?_
 refine RS (ok_callM (macOf_fn k [m] m (by simp) hk (by simp) hm) (Sub.cons rfl (Sub.cons rfl KN)) tabs_v (Args.cons rfl (Le.old _ _) (Args.cons rfl (list_lst1 (Le.old _ _)) Args.nil))) ?_
 refine RN ?_
 refine ⟨_, eff_storeA (n := 9) (s := 1000004) (size34.of (by rw [List.length_map, hmac_length])) rfl rfl (all_bytes _) hBb4 rfl (by rw [List.length_map, hmac_length, List.length_replicate]) (LV 4 rfl (LeftS.cons (t := 1900000) rfl (Surv.tab (by omega)) (LeftS.cons (t := 1900001) rfl (Surv.tab (by omega)) LN))), ?_⟩
 refine TL ?_
 refine RN ?_
 refine A.ret ?_
 exact End.cell1 (s := 1000004) rfl Tryz.underlying34 rfl (size34.of (by rw [List.length_map, hmac_length])) rfl rfl (Le.refl _)
theorem tags_fnB (d₀ d₁ : D) (n : Int) (h₀ : ∀ w u, d₀.Of w u → u.oneCell' = true) (h₁ : ∀ w u, d₁.Of w u → u.oneCell' = true) : FnB Tryz.prog 86 [d₀, d₁, .v (.int .i64 n)] (fun B => clos3 B 97 3 (.v (.int .i64 n)) 49 d₀ 49 d₁) := by
 refine FnB.of Tryz.func86 rfl (by kernel_rfl) Tryz.ntmps86 (by simp) (fun w => [(0, old w.heap.size (d₀)), (1, old w.heap.size (d₁)), (2, .v (.int .i64 n))]) (fun w => (Start.old rfl (Start.old rfl (Start.v rfl Start.nil)))) fun w₀ => ?_
 refine GS ?_
 refine TN 0 ?_
 refine RN ?_
 refine ⟨_, _, eff_boxD (n := 8) (d := 3) (k := 1000003) rfl (fun w u h => h₀ w u ((Le.old _ _).of h)) (by decide), fun b3 hb3 => ?_⟩
 have hBb3 := hb3.1
 refine TN 1 ?_
 refine RN ?_
 refine ⟨_, _, eff_boxD (n := 8) (d := 4) (k := 1000004) rfl (fun w u h => h₁ w u ((Le.old _ _).of h)) (by decide), fun b4 hb4 => ?_⟩
 have hBb4 := hb4.1
 have hlt_b3_b4 : b3 < b4 := hb4.2.2 1000003 _ _ _ rfl
 refine TN 2 ?_
 refine RN ?_
 refine ⟨_, _, eff_boxD (n := 8) (d := 5) (k := 1000005) rfl (fun w u h => v_one rfl h) (by decide), fun b5 hb5 => ?_⟩
 have hBb5 := hb5.1
 have hlt_b3_b5 : b3 < b5 := hb5.2.2 1000003 _ _ _ rfl
 have hlt_b4_b5 : b4 < b5 := hb5.2.2 1000004 _ _ _ rfl
 refine TL ?_
 refine RA rfl ?_
 refine RN ?_
 refine GS ?_
 refine TL ?_
 refine RS (ok_makeFuncN [ptr b5, ptr b3, ptr b4] ⟨rfl, rfl, rfl, trivial⟩) ?_
 refine RA rfl ?_
 refine RN ?_
 refine A.ret ?_
 exact End.clos3 rfl ⟨hBb5, hBb3, hBb4⟩ ⟨by omega, by omega, by omega⟩ rfl (k₁ := 1000005) (k₂ := 1000003) (k₃ := 1000004) rfl (Le.refl _) rfl (Le.old _ _) rfl (Le.old _ _)
theorem tags1_seq {w₀ : World} {N l p q r : Nat} {J : Nat → World → Prop} {prk info : List UInt8} (hN : N ≤ 255) (hp : prk.length ≤ 1000) (hi : info.length ≤ 1000) (htab : 1 < w₀.heap.size)
  (hq : SeqsX Tryz.prog w₀ N l (fun i => .v (aggV ((hkT prk info (i + 1)).map byteV))) (fun _ => [(1000091, varD p 3 (.v (.int .i64 ((N : Nat) : Int)))), (1000092, varD q 49 (old w₀.heap.size (byt prk))), (1000093, varD r 49 (old w₀.heap.size (byt info))), (1900000, tab 0 (H8.list.map u32V)), (1900001, tab 1 (K64.map u32V))]) J (fun z : Nat × List Value => [(1000007, blk z.1 34 z.2)])) {w : World} (h0 : J 0 w) :
  Calls Tryz.prog 97 (.func (.yield l) #[] #[] :: [ptr p, ptr q, ptr r] : List Value).toArray w fun e W => (∃ v, e = .returned v) ∧ J N W := by
 obtain ⟨hb, hs, hV⟩ := hq.holds 0 w h0
 refine Calls.within (n := 27) (E := [(0, .v (.func (.yield l) #[] #[])), (1, .v (ptr p)), (2, .v (ptr q)), (3, .v (ptr r)), (1000090, jD (J 0)), (1000091, varD p 3 (.v (.int .i64 ((N : Nat) : Int)))), (1000092, varD q 49 (old w₀.heap.size (byt prk))), (1000093, varD r 49 (old w₀.heap.size (byt info))), (1900000, tab 0 (H8.list.map u32V)), (1900001, tab 1 (K64.map u32V))]) Tryz.func97 rfl Tryz.ntmps97 (by simp) (by decide) hb hs ?_ ?_
 ·intro x hx
  simp only [List.mem_cons, List.not_mem_nil, or_false] at hx
  rcases hx with rfl | rfl | rfl | rfl | rfl | rfl | rfl | rfl | rfl | rfl
  ·exact .inr ⟨_, rfl, rfl⟩
  ·exact .inr ⟨_, rfl, rfl⟩
  ·exact .inr ⟨_, rfl, rfl⟩
  ·exact .inr ⟨_, rfl, rfl⟩
  ·exact .inl ⟨vle rfl, jD_mk h0⟩
  ·exact .inl ⟨vle rfl, hV _ (by simp)⟩
  ·exact .inl ⟨vle rfl, hV _ (by simp)⟩
  ·exact .inl ⟨vle rfl, hV _ (by simp)⟩
  ·exact .inl ⟨vle rfl, hV _ (by simp)⟩
  ·exact .inl ⟨vle rfl, hV _ (by simp)⟩
 refine GS ?_
 refine TL ?_
 refine RA rfl ?_
 refine RN ?_
 refine GS ?_
 refine TL ?_
 refine RS (ok_loadD (s := 1000091) (by decide) Tryz.underlying3 rfl rfl rfl) ?_
 refine RM rfl ?_
 refine RN ?_
 refine A.block ?_
 refine A.subL (SubL.cons (t := 0) rfl (Le.refl _) (SubL.cons (t := 2) rfl (Le.refl _) (SubL.cons (t := 3) rfl (Le.refl _) (SubL.cons (t := 5) rfl (byt_nil_le) (SubL.cons (t := 8) rfl (Le.refl _) (SubL.cons (t := 9) rfl (Le.refl _) (SubL.cons (t := 1000090) rfl (Le.refl _) (SubL.cons (t := 1000091) rfl (Le.refl _) (SubL.cons (t := 1000092) rfl (Le.refl _) (SubL.cons (t := 1000093) rfl (Le.refl _) (SubL.cons (t := 1900000) rfl (Le.refl _) (SubL.cons (t := 1900001) rfl (Le.refl _) SubL.nil)))))))))))) ?_
 refine A.loop (ι := Nat) (fun i => i ≤ N) (fun i => [(0, .v (.func (.yield l) #[] #[])), (2, .v (ptr q)), (3, .v (ptr r)), (5, byt (hkT prk info i)), (8, .v (.int .i64 ((N : Nat) : Int))), (9, .v (.int .i64 ((i : Nat) : Int))), (1000090, jD (J i)), (1000091, varD p 3 (.v (.int .i64 ((N : Nat) : Int)))), (1000092, varD q 49 (old w₀.heap.size (byt prk))), (1000093, varD r 49 (old w₀.heap.size (byt info))), (1900000, tab 0 (H8.list.map u32V)), (1900001, tab 1 (K64.map u32V))]) (fun i => N - i) 0 ?_ ?_ ?_
 ·exact Nat.zero_le _
 ·exact (KC 0 rfl (KC 2 rfl (KC 3 rfl (KE 5 rfl (by rfl) (KC 8 rfl (KC 9 rfl (KC 1000090 rfl (KC 1000091 rfl (KC 1000092 rfl (KC 1000093 rfl (KC 1900000 rfl (KC 1900001 rfl KN))))))))))))
 intro i hi'
 refine GS ?_
 refine TL ?_
 refine RB rfl rfl rfl ?_
 refine RN ?_
 refine A.seq ?_
 refine A.cond rfl (fun hc10 => ?_) (fun hc10 => ?_)
 ·have hlt : i < N := by simp at hc10; omega
  refine A.skip ?_
  refine EN ?_
  refine A.seq ?_
  refine A.block ?_
  refine GS ?_
  refine TL ?_
  refine RM rfl ?_
  refine RA rfl ?_
  refine RN ?_
  refine A.regsH _ (fun B => (OldH.same (t := 0) rfl (OldH.same (t := 2) rfl (OldH.same (t := 3) rfl (OldH.p (t := 5) rfl (OldH.same (t := 6) rfl (OldH.same (t := 8) rfl (OldH.same (t := 9) rfl (OldH.p (t := 1000090) rfl (OldH.same (t := 1000091) rfl (OldH.same (t := 1000092) rfl (OldH.same (t := 1000093) rfl (OldH.same (t := 1900000) rfl (OldH.same (t := 1900001) rfl OldH.nil)))))))))))))) (by kernel_rfl) (by kernel_rfl) (.inl rfl) (fun B hB => ?_)
  refine TN 9 ?_
  refine RS (ok_loadD (s := 1000092) (by decide) Tryz.underlying49 rfl rfl rfl) ?_
  refine RM rfl ?_
  refine RS (ok_loadD (s := 1000093) (by decide) Tryz.underlying49 rfl rfl rfl) ?_
  refine RM rfl ?_
  refine RBS rfl rfl rfl (.int .i64 ((i + 1 : Nat) : Int)) (by rw [wrap_i64 (by omega) (by omega)]; first | rfl | (congr 1; omega)) ?_
  refine RS (ok_conv Tryz.underlying3 Tryz.underlying5 rfl) ?_; refine RZ (byteV (UInt8.ofNat (i + 1))) (by rw [wrap_u8_nat]; rfl) ?_
  refine RS (ok_build [byteD (UInt8.ofNat (i + 1))] Tryz.underlying49 info5 rfl (by decide) (by decide) rfl ⟨rfl, rfl, trivial⟩ (fun d hd w x h => by simp only [List.mem_cons, List.not_mem_nil, or_false] at hd; rcases hd with rfl; exact v_one rfl h)) ?_
  refine RS (ok_build [old B (byt (hkT prk info i)), old w₀.heap.size (byt info), list [byteD (UInt8.ofNat (i + 1))] 1] Tryz.underlying102 info49 rfl (by decide) (by decide) rfl ⟨rfl, rfl, rfl, rfl, rfl, rfl, trivial⟩ (fun d hd w x h => by simp only [List.mem_cons, List.not_mem_nil, or_false] at hd; rcases hd with rfl | rfl | rfl <;> first | exact old_one (fun _ _ h => lst_one h) h | exact list_one h)) ?_
  refine RS (ok_callM (macOf_fn prk [(hkT prk info i), info, [UInt8.ofNat (i + 1)]] ((hkT prk info i) ++ info ++ [UInt8.ofNat (i + 1)]) (by simp) hp (by simp) (by have := hkT_le (prk := prk) (info := info) i; simp only [List.length_append, List.length_cons, List.length_nil]; omega)) (Sub.cons rfl (Sub.cons rfl KN)) tabs_v (Args.cons rfl (Le.old _ _) (Args.cons rfl (list_lst3 (Le.old _ _) (Le.old _ _) (le_byt [UInt8.ofNat (i + 1)] 1)) Args.nil))) ?_; refine RZ (aggV ((hkT prk info (i + 1)).map byteV)) (rfl) ?_
  refine RN ?_
  refine ⟨_, _, eff_allocN (n := 27) (d := 7) (k := 1000007) zero34 (by decide), fun b7 hb7 => ?_⟩
  have hBb7 := hb7.1
  refine TF 10 ?_
  refine RN ?_
  refine ⟨_, eff_storeA (n := 27) (s := 1000007) (size34.of (by rw [List.length_map, hkT_length])) rfl rfl (all_bytes _) hBb7 rfl (by rw [List.length_map, hkT_length, List.length_replicate]) (LV 0 rfl (LV 2 rfl (LV 3 rfl (LV 7 rfl (LV 8 rfl (LV 9 rfl (LO 1000090 rfl (LeftS.cons (t := 1000091) rfl (Surv.varDT (by decide) (Surv.v _)) (LeftS.cons (t := 1000092) rfl (Surv.varDT (by decide) (Surv.old (by omega))) (LeftS.cons (t := 1000093) rfl (Surv.varDT (by decide) (Surv.old (by omega))) (LeftS.cons (t := 1900000) rfl (Surv.tab (by omega)) (LeftS.cons (t := 1900001) rfl (Surv.tab (by omega)) LN)))))))))))), ?_⟩
  refine TL ?_
  refine RN ?_
  refine A.sub (KC 0 rfl (KC 2 rfl (KC 3 rfl (KC 7 rfl (KC 8 rfl (KC 9 rfl (KC 1000007 rfl (KC 1000090 rfl (KC 1000091 rfl (KC 1000092 rfl (KC 1000093 rfl (KC 1900000 rfl (KC 1900001 rfl KN))))))))))))) ?_
  refine A.subL (SubL.cons (t := 0) rfl (Le.refl _) (SubL.cons (t := 2) rfl (Le.refl _) (SubL.cons (t := 3) rfl (Le.refl _) (SubL.cons (t := 7) rfl (Le.refl _) (SubL.cons (t := 8) rfl (Le.refl _) (SubL.cons (t := 9) rfl (Le.refl _) (SubL.cons (t := 1000007) rfl (Le.refl _) (SubL.cons (t := 1000090) rfl (Le.old _ _) (SubL.cons (t := 1000091) rfl (Le.refl _) (SubL.cons (t := 1000092) rfl (Le.refl _) (SubL.cons (t := 1000093) rfl (Le.refl _) (SubL.cons (t := 1900000) rfl (Le.refl _) (SubL.cons (t := 1900001) rfl (Le.refl _) SubL.nil))))))))))))) ?_
  refine A.seq ?_
  refine GS ?_
  refine TF 2 ?_
  refine RM rfl ?_
  refine RS (ok_loadA (s := 1000007) (by decide) Tryz.underlying34 rfl (size34.of (by rw [List.length_map, hkT_length])) rfl rfl) ?_
  refine RN ?_
  refine ⟨_, eff_yieldX (vJ := 1000090) hq (b7, (hkT prk info (i + 1)).map byteV) i hlt rfl rfl rfl (Le.refl _) (by decide) (fun p hp => by simp only [List.mem_cons, List.not_mem_nil, or_false] at hp; rcases hp with rfl | rfl | rfl | rfl | rfl <;> exact vle rfl) (fun p hp => by simp only [List.mem_cons, List.not_mem_nil, or_false] at hp; rcases hp with rfl; exact vle rfl) (fun p hp => by simp only [List.mem_cons, List.not_mem_nil, or_false] at hp; rcases hp with rfl; rfl) (by decide) (Left.cons (t := 0) rfl (Stays.v _ _) (Left.cons (t := 2) rfl (Stays.v _ _) (Left.cons (t := 3) rfl (Stays.v _ _) (Left.cons (t := 7) rfl (Stays.v _ _) (Left.cons (t := 8) rfl (Stays.v _ _) (Left.cons (t := 9) rfl (Stays.v _ _) (Left.cons (t := 1900000) rfl (Stays.tab (by omega)) (Left.cons (t := 1900001) rfl (Stays.tab (by omega)) Left.nil)))))))), ?_⟩
  refine TL ?_
  refine RS (ok_not rfl) ?_; refine RZ (.bool false) (rfl) ?_
  refine RN ?_
  refine A.no rfl ?_
  refine A.skip ?_
  refine EN ?_
  refine GE ?_
  refine TL ?_
  refine RS ((ok_sliceA (s := 1000007) 0 32 (by decide) Tryz.underlying34 info5 rfl rfl (.inr ⟨rfl, rfl⟩) (.inr ⟨rfl, rfl⟩) (by omega) (by omega) (by rw [List.length_map, hkT_length]) (by decide)).le (d' := byt (hkT prk info (i + 1))) (byt_all (hkT_length _))) ?_
  refine RA rfl ?_
  refine RN ?_
  refine End.normal_block ?_
  refine EN ?_
  refine GE ?_
  refine TL ?_
  refine RBS rfl rfl rfl (.int .i64 ((i + 1 : Nat) : Int)) (by rw [wrap_i64 (by omega) (by omega)]; first | rfl | (congr 1; omega)) ?_
  refine RM rfl ?_
  refine RN ?_
  refine End.normal_then ?_
  refine End.again (i + 1) ?_ ?_ ?_
  ·show _ ≤ _; omega
  ·show _ - _ < _ - _; omega
  ·exact (KC 0 rfl (KC 2 rfl (KC 3 rfl (KC 5 rfl (KC 8 rfl (KC 9 rfl (KC 1000090 rfl (KC 1000091 rfl (KC 1000092 rfl (KC 1000093 rfl (KC 1900000 rfl (KC 1900001 rfl KN))))))))))))
 ·obtain rfl : i = N := by simp at hc10; omega
  refine A.exit ?_
  refine End.exit_then ?_
  refine End.exit_then ?_
  refine End.exit_here ?_
  exact End.seqX (vJ := 1000090) hq rfl rfl
set_option maxHeartbeats 2000000 in
theorem Expand4_fn (prk info : List UInt8) (n : Nat) (hp : prk.length ≤ 1000) (hi : info.length ≤ 1000) (hn : n ≤ 8160) : FnM Tryz.prog 63 tabs [byt prk, byt info, .v (.int .i64 ((n : Nat) : Int))] (tup [bytes (hkdf prk info n) n, .v (.int .i64 0)]) := by
 refine FnM.of Tryz.func63 rfl (by kernel_rfl) Tryz.ntmps63 (by simp) (by decide) (fun w => [(0, old w.heap.size (byt prk)), (1, old w.heap.size (byt info)), (2, .v (.int .i64 ((n : Nat) : Int))), (1900000, tab 0 (H8.list.map u32V)), (1900001, tab 1 (K64.map u32V))]) (fun w => (StartM.old rfl (StartM.old rfl (StartM.v rfl (StartM.m (by simp [tabs]) (by decide) (StartM.m (by simp [tabs]) (by decide) StartM.nil)))))) fun w₀ hM => ?_
 have htab := tabs_hi hM
 refine GS ?_
 refine TL ?_
 refine RA rfl ?_
 refine RA rfl ?_
 refine RN ?_
 refine A.seq ?_
 refine A.block ?_
 refine GS ?_
 refine TL ?_
 refine RM rfl ?_
 refine RBS rfl rfl rfl (.bool false) (by simp) ?_
 refine RA rfl ?_
 refine RN ?_
 refine A.no rfl ?_
 refine GS ?_
 refine TL ?_
 refine RM rfl ?_
 refine RBS rfl rfl rfl (.bool false) (by simp; omega) ?_
 refine RA rfl ?_
 refine RN ?_
 refine A.no rfl ?_
 refine A.skip ?_
 refine End.normal_block ?_
 refine EN ?_
 refine GS ?_
 refine TL ?_
 refine RM rfl ?_
 refine RBS rfl rfl rfl (.int .i64 ((n + 32 : Nat) : Int)) (by rw [wrap_i64 (by omega) (by omega)]; first | rfl | (congr 1; omega)) ?_
 refine RBS rfl rfl rfl (.int .i64 ((n + 31 : Nat) : Int)) (by rw [wrap_i64 (by omega) (by omega)]; first | rfl | (congr 1; omega)) ?_
 refine RS (ok_div rfl rfl (by decide)) ?_; refine RZ (.int .i64 ((((n + 31) / 32) : Nat) : Int)) (by rw [tdiv_lit _ (by decide), show Int.toNat 32 = 32 from rfl, wrapN_i64 (by omega)]) ?_
 refine RA rfl ?_
 refine RN ?_
 refine GS ?_
 refine TN 3 ?_
 refine RM rfl ?_
 refine RBS rfl rfl rfl (.int .i64 ((((n + 31) / 32) * 32 : Nat) : Int)) (by rw [wrap_i64 (by omega) (by omega)]; first | rfl | (congr 1; omega)) ?_
 refine RS (ok_make0 (((n + 31) / 32) * 32) Tryz.underlying49 info5 (by decide) rfl rfl rfl rfl rfl (by omega)) ?_
 refine RN ?_
 refine ⟨_, _, eff_alloc (n := 36) (d := 9) (k := 1000009) zero49 (by decide), fun b9 hb9 => ?_⟩
 have hBb9 := hb9.1
 refine TF 4 ?_
 refine RN ?_
 refine ⟨_, eff_storeD (n := 36) (s := 1000009) info49 rfl rfl (fun _ _ h => own_one h) hBb9 rfl (Surv.own (by decide)) (LO 0 rfl (LO 1 rfl (LV 2 rfl (LV 8 rfl (LV 9 rfl (LeftS.cons (t := 1900000) rfl (Surv.tab (by omega)) (LeftS.cons (t := 1900001) rfl (Surv.tab (by omega)) LN))))))), ?_⟩
 refine TL ?_
 refine RN ?_
 refine A.seq ?_
 refine A.regsH _ (fun B => (OldH.p (t := 0) rfl (OldH.p (t := 1) rfl (OldH.same (t := 2) rfl (OldH.same (t := 8) rfl (OldH.same (t := 9) rfl (OldH.p (t := 1000009) rfl (OldH.same (t := 1900000) rfl (OldH.same (t := 1900001) rfl OldH.nil))))))))) (by kernel_rfl) (by kernel_rfl) (.inl rfl) (fun B hB => ?_)
 refine TL ?_
 refine RM rfl ?_
 refine RM rfl ?_
 refine RM rfl ?_
 refine RS (ok_callB (tags_fnB (old w₀.heap.size (byt prk)) (old w₀.heap.size (byt info)) ((((n + 31) / 32) : Nat) : Int) (fun _ _ h => old_one (fun _ _ h => lst_one h) h) (fun _ _ h => old_one (fun _ _ h => lst_one h) h)) (fun _ _ => clos3_mono _ _) (Args.cons rfl (Le.old _ _) (Args.cons rfl (Le.old _ _) (A1 rfl)))) ?_
 refine RN ?_
 refine A.sub (KC 2 rfl (KC 9 rfl (KC 27 rfl (KC 1000009 rfl (KC 1900000 rfl (KC 1900001 rfl KN)))))) ?_
 refine A.ltVar (k := 1000009) rfl fun hb9 => ?_
 refine A.openClos3 (t := 27) (k₁ := 1000091) (k₂ := 1000092) (k₃ := 1000093) rfl fun p q r hBp hBq hBr hpq hpr hqr => ?_
 refine A.subL (SubL.cons (t := 2) rfl (Le.refl _) (SubL.cons (t := 9) rfl (Le.refl _) (SubL.cons (t := 27) rfl (Le.refl _) (SubL.cons (t := 1000009) rfl (Le.old _ _) (SubL.cons (t := 1000091) rfl (Le.refl _) (SubL.cons (t := 1000092) rfl (Le.refl _) (SubL.cons (t := 1000093) rfl (Le.refl _) (SubL.cons (t := 1900000) rfl (Le.refl _) (SubL.cons (t := 1900001) rfl (Le.refl _) SubL.nil))))))))) ?_
 refine A.block ?_
 refine A.rangeX (gf := 97) (N := ((n + 31) / 32)) (vL := 1000098) (vD := 1000099) (tp := 28) (lb := [ptr p, ptr q, ptr r]) (S := [(2, .v (.int .i64 ((n : Nat) : Int))), (9, .v (ptr b9))]) (XE := fun z : Nat × List Value => [(1000007, blk z.1 34 z.2)])
  (V := fun i => [(1000009, varD b9 49 (own w₀.heap.size 5 (32 * i) ((hkO prk info i).map byteV))), (1000091, varD p 3 (.v (.int .i64 ((((n + 31) / 32) : Nat) : Int)))), (1000092, varD q 49 (old w₀.heap.size (byt prk))), (1000093, varD r 49 (old w₀.heap.size (byt info))), (1900000, tab 0 (H8.list.map u32V)), (1900001, tab 1 (K64.map u32V))])
  (Eb := fun i z => (10, freshV w₀.heap.size [] 34 ((hkT prk info (i + 1)).map byteV)) :: (28, .v (aggV ((hkT prk info (i + 1)).map byteV))) :: ([(1000009, varD b9 49 (own w₀.heap.size 5 (32 * i) ((hkO prk info i).map byteV))), (1000091, varD p 3 (.v (.int .i64 ((((n + 31) / 32) : Nat) : Int)))), (1000092, varD q 49 (old w₀.heap.size (byt prk))), (1000093, varD r 49 (old w₀.heap.size (byt info))), (1900000, tab 0 (H8.list.map u32V)), (1900001, tab 1 (K64.map u32V))] ++ [(2, .v (.int .i64 ((n : Nat) : Int))), (9, .v (ptr b9))] ++ [(1000007, blk z.1 34 z.2)]))
  (arg := fun i => .v (aggV ((hkT prk info (i + 1)).map byteV))) rfl ⟨_, Tryz.func97, by kernel_rfl, rfl⟩ (by decide) (by decide) (KE 1000009 rfl (by rfl) (KC 1000091 rfl (KC 1000092 rfl (KC 1000093 rfl (KC 1900000 rfl (KC 1900001 rfl (KC 2 rfl (KC 9 rfl KN))))))))
  (fun x hx => by simp only [List.mem_cons, List.not_mem_nil, or_false] at hx; rcases hx with rfl | rfl <;> exact ⟨vlt rfl, .inl ⟨_, rfl⟩⟩)
  (fun i x hx => by simp only [List.mem_cons, List.not_mem_nil, or_false] at hx; rcases hx with rfl | rfl | rfl | rfl | rfl | rfl <;> exact vle rfl)
  (fun z x hx => by simp only [List.mem_cons, List.not_mem_nil, or_false] at hx; rcases hx with rfl; exact vle rfl)
  (fun z l _ x hx => by simp only [List.mem_cons, List.not_mem_nil, or_false] at hx; rcases hx with rfl; exact Firm.blk)
  (fun i l' hl x hx => by simp only [List.mem_cons, List.not_mem_nil, or_false] at hx; rcases hx with rfl | rfl | rfl | rfl | rfl | rfl <;> first | exact Firm.blk | exact Firm.tab | exact Firm.v _ _ | exact Firm.freshV | exact Firm.varD (Firm.own) | exact Firm.varD (Firm.v _ _) | exact Firm.varD (Firm.old hl))
  (fun i z l' hl x hx => by simp only [List.mem_cons, List.mem_append, List.not_mem_nil, or_false] at hx; rcases hx with rfl | rfl | ((rfl | rfl | rfl | rfl | rfl | rfl) | rfl | rfl) | rfl <;> first | exact Firm.blk | exact Firm.tab | exact Firm.v _ _ | exact Firm.freshV | exact Firm.varD (Firm.own) | exact Firm.varD (Firm.v _ _) | exact Firm.varD (Firm.old hl))
  (fun J l' w hq h0 => tags1_seq (by omega) hp hi (by omega) (hq.sub fun i x hx => by simp only [List.mem_cons, List.not_mem_nil, or_false] at hx ⊢; rcases hx with rfl | rfl | rfl | rfl | rfl <;> simp) h0)
  (fun i l' a w z _ hb h => assign_box zero34 (size34.of (by rw [List.length_map, hkT_length])) (all_bytes _) (by rw [List.length_map, hkT_length, List.length_replicate]) (by decide) (by decide) hb h) ?_ ?_
 ·intro i l' D rr mm z hi'
  refine A.openVar (k := 1000009) (k' := 1000209) rfl fun v9 => ?_
  refine A.openFresh (t := 10) (k := 1000010) rfl fun b10 hBb10 => ?_
  refine A.block ?_
  refine A.reg (by kernel_rfl) (by kernel_rfl) (.inr (by kernel_rfl)) ?_
  refine TD 2 ?_
  refine RS (ok_loadV (s := 1000009) (by decide) Tryz.underlying49 rfl rfl rfl (rfl)) ?_
  refine RS ((ok_sliceA (s := 1000010) 0 32 (by decide) Tryz.underlying34 info5 rfl rfl (.inr ⟨rfl, rfl⟩) (.inr ⟨rfl, rfl⟩) (by omega) (by omega) (by rw [List.length_map, hkT_length]) (by decide)).le (d' := byt (hkT prk info (i + 1))) (byt_all (hkT_length _))) ?_
  refine RN ?_
  refine ⟨_, eff_appendVO (n := 36) (k := 1000209) (vs := (hkT prk info (i + 1)).map byteV) Tryz.underlying49 info5 (by decide) rfl rfl rfl rfl (Le.eq (byt_vals _)) (by simp [byteV, Value.oneCell']) (by simp only [List.length_map, hkT_length]; omega) (by decide) (by decide) rfl (fun g hB hg => (LV 2 rfl (LV 9 rfl (LV 10 rfl (LV 28 rfl (LV 29 rfl (LT 1000007 rfl (LT 1000009 rfl (LT 1000010 rfl (LeftS.cons (t := 1000091) rfl (Surv.varDT (by decide) (Surv.v _)) (LeftS.cons (t := 1000092) rfl (Surv.varDT (by decide) (Surv.old (by omega))) (LeftS.cons (t := 1000093) rfl (Surv.varDT (by decide) (Surv.old (by omega))) (LeftS.cons (t := 1000098) rfl (Surv.rec rfl) (LeftS.cons (t := 1000099) rfl (Surv.rec rfl) (LeftS.cons (t := 1900000) rfl (Surv.tab (by omega)) (LeftS.cons (t := 1900001) rfl (Surv.tab (by omega)) LN)))))))))))))))), ?_⟩
  refine TD 3 ?_
  refine RN ?_
  refine ⟨_, eff_storeD (n := 36) (s := 1000009) info49 rfl rfl (fun _ _ h => own_one h) hBb9 rfl (Surv.own (by decide)) (LT 1000007 rfl (LT 1000010 rfl (LeftS.cons (t := 1000091) rfl (Surv.varDT (by decide) (Surv.v _)) (LeftS.cons (t := 1000092) rfl (Surv.varD (by omega) (Surv.old (by omega))) (LeftS.cons (t := 1000093) rfl (Surv.varD (by omega) (Surv.old (by omega))) (LeftS.cons (t := 1000098) rfl (Surv.rec rfl) (LeftS.cons (t := 1000099) rfl (Surv.rec rfl) (LeftS.cons (t := 1900000) rfl (Surv.tab (by omega)) (LeftS.cons (t := 1900001) rfl (Surv.tab (by omega)) LN))))))))), ?_⟩
  refine TL ?_
  refine RN ?_
  refine End.sub (KC 1000007 rfl (KE 1000009 rfl (show varD b9 49 (own w₀.heap.size 5 (32 * i + ((hkT prk info (i + 1)).map byteV).length) ((hkO prk info i).map byteV ++ (hkT prk info (i + 1)).map byteV)) = varD b9 49 (own w₀.heap.size 5 (32 * (i + 1)) ((hkO prk info (i + 1)).map byteV)) from varD_eq (by rw [List.length_map, hkT_length, hkO, List.map_append]; rfl)) (KC 1000010 rfl (KC 1000091 rfl (KC 1000092 rfl (KC 1000093 rfl (KC 1000098 rfl (KC 1000099 rfl (KC 1900000 rfl (KC 1900001 rfl KN)))))))))) ?_
  refine End.normal_block ?_
  exact End.round (KC 1000098 rfl (KC 1000099 rfl (KC 1000009 rfl (KC 1000091 rfl (KC 1000092 rfl (KC 1000093 rfl (KC 1900000 rfl (KC 1900001 rfl (KC 1000007 rfl KN))))))))) (fun x hx => by simp only [List.mem_cons, List.mem_append, List.not_mem_nil, or_false] at hx; rcases hx with rfl | rfl | (rfl | rfl | rfl | rfl | rfl | rfl) | rfl <;> exact vle rfl) (by decide)
 ·intro D hD
  refine End.normal_block ?_
  refine EN ?_
  refine GS ?_
  refine TL ?_
  refine RS (ok_loadD (s := 1000009) (by decide) Tryz.underlying49 rfl rfl rfl) ?_
  refine RM rfl ?_; refine RZ (.int .i64 (((hkdf prk info n).length : Nat) : Int)) (by rw [hkdf_length]) ?_
  refine RM rfl ?_; refine RZ (.int .i64 (((hkdf prk info n).length : Nat) : Int)) (by rw [hkdf_length]) ?_
  refine RS ((ok_slice3 (hkdf prk info n) Tryz.underlying49 info5 rfl rfl rfl (by rw [hkdf_length, ← List.map_take, hkO_hkdf (by omega)]) (by rw [List.length_map, hkO_length]) (by rw [hkdf_length]; simp only [maxLen]; omega)).le (d' := bytes (hkdf prk info n) n) (Le.eq (by rw [hkdf_length]))) ?_
  refine RA rfl ?_
  refine RA rfl ?_
  refine RN ?_
  refine A.ret ?_
  exact End.ret2C (D := D) (vD := 1000099) rfl hD rfl rfl Firm.bytes (Le.refl _) rfl (Firm.v _ _) (Le.refl _)
set_option maxHeartbeats 1000000 in
theorem fill_fnW (g o n c : Nat) (xs : List Value) (prk info : List UInt8) (hprk : prk.length = 32) (hi : info.length ≤ 1000) (hn : n ≤ 8160) (hfit : o + n ≤ xs.length) : FnW Tryz.prog 41 tabs 26 g xs (xs.take o ++ (hkdf prk info n).map byteV ++ xs.drop (o + n)) ([.slice (some ⟨g, o, none⟩) n c, aggV (prk.map byteV), .string ⟨info.toArray⟩].map D.v) := by
 refine FnW.of (n := 20) (kb := 1000080) (kw := 1000081) Tryz.func41 rfl (by kernel_rfl) Tryz.ntmps41 (by simp) (by decide) tabs_v (by decide) (by decide) [(0, .v (.slice (some ⟨g, o, none⟩) n c)), (1, .v (aggV (prk.map byteV))), (2, str info)]
  (fun p hp => by simp only [List.mem_cons, List.not_mem_nil, or_false] at hp; rcases hp with rfl | rfl | rfl <;> exact ⟨_, rfl, rfl⟩) fun w₀ w₁ hw hM => ?_
 have hBg : w₀.heap.size ≤ g := Nat.le_of_eq hw
 have htab : 1 < w₀.heap.size := (hM (1900001, tab 1 (K64.map u32V)) (by simp [tabs])).1
 refine GS ?_
 refine TN 0 ?_
 refine RN ?_
 refine ⟨_, _, eff_box (n := 20) (d := 4) (k := 1000004) rfl (by decide), fun b4 hb4 => ?_⟩
 have hBb4 := hb4.1
 refine TL ?_
 refine RN ?_
 refine GS ?_
 refine TL ?_
 refine RS ((ok_sliceA (s := 1000004) 0 32 (by decide) Tryz.underlying34 info5 rfl rfl (.inr ⟨rfl, rfl⟩) (.inr ⟨rfl, rfl⟩) (by omega) (by omega) (by rw [List.length_map, hprk]) (by decide)).le (d' := byt prk) (byt_all hprk)) ?_
 refine RM rfl ?_
 refine RS (ok_strB Tryz.underlying9 Tryz.underlying49 Tryz.underlying5 rfl (by simp only [maxLen]; omega)) ?_
 refine RM rfl ?_
 refine RS (ok_lenV Tryz.underlying49 rfl) ?_
 refine RS (ok_callM (Expand4_fn prk info n (by omega) hi hn) (Sub.cons rfl (Sub.cons rfl KN)) tabs_v (A3 rfl rfl rfl)) ?_
 refine RM rfl ?_
 refine RS (ok_extract rfl rfl) ?_
 refine RS (ok_extract rfl rfl) ?_
 refine RA rfl ?_
 refine RA rfl ?_
 refine RN ?_
 refine GE ?_
 refine TF 2 ?_
 refine RM rfl ?_
 refine RM rfl ?_
 refine RN ?_
 refine ⟨_, eff_copyS (n := 20) (s := 1000080) (l := hkdf prk info n) Tryz.underlying49 info5 rfl rfl (le_byt _ _) hBg rfl hfit (by decide) (LT 1000004 rfl (LeftS.cons (t := 1000081) rfl (Surv.wrote) (LeftS.cons (t := 1900000) rfl (Surv.tab (by omega)) (LeftS.cons (t := 1900001) rfl (Surv.tab (by omega)) LN)))), ?_⟩
 refine TL ?_
 refine RN ?_
 exact End.wrote (kb := 1000080) (kw := 1000081) rfl rfl (by rw [hkdf_length, Nat.min_self, List.take_of_length_le (l := hkdf prk info n) (Nat.le_of_eq (hkdf_length n))]) rfl
set_option maxHeartbeats 2000000 in
theorem Volume_fn (mk : List UInt8) (hmk : mk.length = 32) : FnM Tryz.prog 24 tabs [.v (aggV (mk.map byteV))] (.v (aggV ((hkdf (hmac [99, 97, 105, 115, 115, 111, 110] mk) [101, 110, 99, 114, 121, 112, 116] 16).map byteV ++ (hkdf (hmac [99, 97, 105, 115, 115, 111, 110] mk) [109, 97, 99] 32).map byteV))) := by
 refine FnM.of Tryz.func24 rfl (by kernel_rfl) Tryz.ntmps24 (by simp) (by decide) (fun w => [(0, .v (aggV (mk.map byteV))), (1900000, tab 0 (H8.list.map u32V)), (1900001, tab 1 (K64.map u32V))]) (fun w => (StartM.v rfl (StartM.m (by simp [tabs]) (by decide) (StartM.m (by simp [tabs]) (by decide) StartM.nil)))) fun w₀ hM => ?_
 have htab := tabs_hi hM
 refine GS ?_
 refine TN 0 ?_
 refine RN ?_
 refine ⟨_, _, eff_box (n := 18) (d := 1) (k := 1000001) rfl (by decide), fun b1 hb1 => ?_⟩
 have hBb1 := hb1.1
 refine TN 1 ?_
 refine RN ?_
 refine ⟨_, _, eff_alloc (n := 18) (d := 2) (k := 1000002) zero26 (by decide), fun b2 hb2 => ?_⟩
 have hBb2 := hb2.1
 refine TL ?_
 refine RN ?_
 refine GS ?_
 refine TF 1 ?_
 refine RS (ok_buildT [99, 97, 105, 115, 115, 111, 110] Tryz.underlying49 info5 rfl (by decide) (by decide) rfl ⟨rfl, rfl, rfl, rfl, rfl, rfl, rfl, rfl, rfl, rfl, rfl, rfl, rfl, rfl, trivial⟩) ?_
 refine RN ?_
 refine ⟨_, eff_convN (n := 18) Tryz.underlying49 Tryz.underlying5 rfl (by decide) (fun g hg => (LeftM.cons (t := 1) rfl (.of (Surv.v _)) (LeftM.cons (t := 2) rfl (.of (Surv.v _)) (LeftM.cons (t := 5) rfl (.stb) (LeftM.cons (t := 1000001) rfl (.of (Surv.blkT (by decide))) (LeftM.cons (t := 1000002) rfl (.of (Surv.blkT (by decide))) (LeftM.cons (t := 1900000) rfl (.of (Surv.tab (by omega))) (LeftM.cons (t := 1900001) rfl (.of (Surv.tab (by omega))) LeftM.nil)))))))), ?_⟩
 refine TN 4 ?_
 refine RS ((ok_sliceA (s := 1000001) 0 32 (by decide) Tryz.underlying24 info5 rfl rfl (.inr ⟨rfl, rfl⟩) (.inr ⟨rfl, rfl⟩) (by omega) (by omega) (by rw [List.length_map, hmk]) (by decide)).le (d' := byt mk) (byt_all hmk)) ?_
 refine RS (ok_callM (Extract_fn [99, 97, 105, 115, 115, 111, 110] mk (by decide) (by omega)) (Sub.cons rfl (Sub.cons rfl KN)) tabs_v (Args.cons rfl newT_byt (A1 rfl))) ?_
 refine RN ?_
 refine ⟨_, _, eff_alloc (n := 18) (d := 3) (k := 1000003) zero34 (by decide), fun b3 hb3 => ?_⟩
 have hBb3 := hb3.1
 refine TF 5 ?_
 refine RN ?_
 refine ⟨_, eff_storeA (n := 18) (s := 1000003) (size34.of (by rw [List.length_map, hmac_length])) rfl rfl (all_bytes _) hBb3 rfl (by rw [List.length_map, hmac_length, List.length_replicate]) (LV 2 rfl (LV 3 rfl (LT 1000001 rfl (LT 1000002 rfl (LeftS.cons (t := 1900000) rfl (Surv.tab (by omega)) (LeftS.cons (t := 1900001) rfl (Surv.tab (by omega)) LN)))))), ?_⟩
 refine TL ?_
 refine RN ?_
 refine GS ?_
 refine TN 0 ?_
 refine RN ?_
 refine ⟨_, _, eff_alloc (n := 18) (d := 4) (k := 1000004) zero26 (by decide), fun b4 hb4 => ?_⟩
 have hBb4 := hb4.1
 have hlt_b2_b4 : b2 < b4 := hb4.2 1000002 _ _ _ rfl
 refine TL ?_
 refine RN ?_
 refine GD ?_
 refine TD 3 ?_
 refine RS (ok_field field26_0 (by decide) rfl) ?_
 refine RS (ok_sliceX (l := 0) (h := 16) (m := 16) Tryz.underlying22 info5 rfl (.inr ⟨rfl, rfl⟩) (.inr ⟨rfl, rfl, rfl⟩) (.inr ⟨rfl, rfl⟩) (by decide) (by decide) (by decide) (.inl (by decide))) ?_
 refine RS (ok_loadA (s := 1000003) (by decide) Tryz.underlying34 rfl (size34.of (by rw [List.length_map, hmac_length])) rfl rfl) ?_
 refine RN ?_
 refine ⟨_, eff_callW (n := 18) (s := 1000004) (fill_fnW b4 0 16 16 (List.replicate 16 (.int .u8 0) ++ List.replicate 32 (.int .u8 0)) (hmac [99, 97, 105, 115, 115, 111, 110] mk) [101, 110, 99, 114, 121, 112, 116] (hmac_length _ _) (by decide) (by decide) (by simp)) (fun p hp => by simp only [tabs, List.mem_cons, List.not_mem_nil, or_false] at hp; rcases hp with rfl | rfl <;> exact ⟨_, _, rfl, by omega, rfl⟩) (A3 rfl rfl rfl) hBb4 rfl (by decide) (LV 2 rfl (LV 3 rfl (LV 4 rfl (LT 1000001 rfl (LB 1000002 rfl (LT 1000003 rfl (LeftS.cons (t := 1900000) rfl (Surv.tab (by omega)) (LeftS.cons (t := 1900001) rfl (Surv.tab (by omega)) LN)))))))), ?_⟩
 refine TL ?_
 refine RN ?_
 refine A.sub (KC 2 rfl (KC 3 rfl (KC 4 rfl (KC 1000001 rfl (KC 1000002 rfl (KC 1000003 rfl (KE 1000004 rfl (show blk b4 26 _ = blk b4 26 ((hkdf (hmac [99, 97, 105, 115, 115, 111, 110] mk) [101, 110, 99, 114, 121, 112, 116] 16).map byteV ++ List.replicate 32 (.int .u8 0)) from congrArg _ (by simp)) (KC 1900000 rfl (KC 1900001 rfl KN))))))))) ?_
 refine GD ?_
 refine TD 3 ?_
 refine RS (ok_field field26_1 (by decide) rfl) ?_
 refine RS (ok_sliceX (l := 0) (h := 32) (m := 32) Tryz.underlying24 info5 rfl (.inr ⟨rfl, rfl⟩) (.inr ⟨rfl, rfl, rfl⟩) (.inr ⟨rfl, rfl⟩) (by decide) (by decide) (by decide) (.inl (by decide))) ?_
 refine RS (ok_loadA (s := 1000003) (by decide) Tryz.underlying34 rfl (size34.of (by rw [List.length_map, hmac_length])) rfl rfl) ?_
 refine RN ?_
 refine ⟨_, eff_callW (n := 18) (s := 1000004) (fill_fnW b4 16 32 32 ((hkdf (hmac [99, 97, 105, 115, 115, 111, 110] mk) [101, 110, 99, 114, 121, 112, 116] 16).map byteV ++ List.replicate 32 (.int .u8 0)) (hmac [99, 97, 105, 115, 115, 111, 110] mk) [109, 97, 99] (hmac_length _ _) (by decide) (by decide) (by simp [hkdf_length])) (fun p hp => by simp only [tabs, List.mem_cons, List.not_mem_nil, or_false] at hp; rcases hp with rfl | rfl <;> exact ⟨_, _, rfl, by omega, rfl⟩) (A3 rfl rfl rfl) hBb4 rfl (by decide) (LV 2 rfl (LV 4 rfl (LT 1000001 rfl (LB 1000002 rfl (LT 1000003 rfl (LeftS.cons (t := 1900000) rfl (Surv.tab (by omega)) (LeftS.cons (t := 1900001) rfl (Surv.tab (by omega)) LN))))))), ?_⟩
 refine TL ?_
 refine RN ?_
 refine A.sub (KC 2 rfl (KC 4 rfl (KC 1000001 rfl (KC 1000002 rfl (KC 1000003 rfl (KE 1000004 rfl (show blk b4 26 _ = blk b4 26 ((hkdf (hmac [99, 97, 105, 115, 115, 111, 110] mk) [101, 110, 99, 114, 121, 112, 116] 16).map byteV ++ (hkdf (hmac [99, 97, 105, 115, 115, 111, 110] mk) [109, 97, 99] 32).map byteV) from congrArg _ (by simp [hkdf_length])) (KC 1900000 rfl (KC 1900001 rfl KN)))))))) ?_
 refine GS ?_
 refine TF 1 ?_
 refine RS (ok_loadA (s := 1000004) (by decide) Tryz.underlying26 rfl (size26.of (by simp [hkdf_length])) rfl rfl) ?_
 refine RN ?_
 refine ⟨_, eff_storeA (n := 18) (s := 1000002) (size26.of (by simp [hkdf_length])) rfl rfl (by simp [byteV, Value.oneCell']) hBb2 rfl (by simp [hkdf_length]) (LV 2 rfl (LT 1000001 rfl (LT 1000003 rfl (LB 1000004 rfl (LeftS.cons (t := 1900000) rfl (Surv.tab (by omega)) (LeftS.cons (t := 1900001) rfl (Surv.tab (by omega)) LN)))))), ?_⟩
 refine TL ?_
 refine RN ?_
 refine A.ret ?_
 exact End.cell1 (s := 1000002) rfl Tryz.underlying26 rfl (size26.of (by simp [hkdf_length])) rfl rfl (Le.refl _)
end Go.Proofs.YthadcgkcgpinhaaGreatDoor
namespace Go.Proofs.YthadcgkcgpinhaaGreatDoor
open Go Go.RowKit
variable {κ : Cx}

section
variable {P : Program} {b : Frame} {a : Act} {k : List Item} {cs : List Frame} {w : World} {Q : Exit → Act → World → Prop} {F : Fence} {n : Nat}
theorem stepR_scope {c : Code} : step P (lone (b.atR a (.code (.scope c) :: k)) cs w) = .next (lone (b.atR a (.code c :: .inScope c :: k)) cs w) :=
  step_lone_go (by simp [stepG, stepG.exec, Frame.atR])
theorem stepR_inScope {c : Code} : step P (lone (b.atR a (.inScope c :: k)) cs w) = .next (lone (b.atR a k) cs w) :=
  step_lone_go (by simp [stepG, stepG.exec, Frame.atR])
theorem wpIn_scope {c : Code} (h : c.wpIn F n P (Exit.noGoto Q) a w) : (Code.scope c).wpIn F n P Q a w := by
  intro b k cs hro hb hr
  have h0 : (lone (b.atR a (.code (.scope c) :: k)) cs w).fenced P F := fenced_calm hb hr rfl
  obtain ⟨e, a₁, w₁, hq, harr⟩ := h b (.inScope c :: k) cs hro hb hr
  have hx : ∀ id, exitTo id (.inScope c :: k) = exitTo id k := fun id => by simp [exitTo]
  cases e with
  | normal => exact ⟨.normal, a₁, w₁, hq, .head h0 stepR_scope (StepsIn.trans harr (.one (fenced_calm hb hr rfl) stepR_inScope))⟩
  | exit id => exact ⟨.exit id, a₁, w₁, hq, fun k' hk => .head h0 stepR_scope (harr.1 k' (by rw [hx]; exact hk)),
      fun hr' hk => let ⟨k₁, h1, h2⟩ := harr.2 hr' (by rw [hx]; exact hk); ⟨k₁, h1, .head h0 stepR_scope h2⟩⟩
  | goto l => exact hq.elim
  | ret => exact ⟨_, a₁, w₁, hq, .of_steps (.one h0 stepR_scope) ⟨fun hr => let ⟨todo, hs⟩ := harr.1 hr; ⟨todo, hs⟩, fun hr => let ⟨k₁, hs⟩ := harr.2 hr; ⟨k₁, hs⟩⟩⟩
  | panic ch => exact ⟨_, a₁, w₁, hq, .of_steps (.one h0 stepR_scope) harr⟩
  | outgrown => exact ⟨_, a₁, w₁, hq, .of_steps (.one h0 stepR_scope) harr⟩
end
section
variable {P : Program} {w₀ : World} {n : Nat} {c : Code} {E : Env} {Q : Exit → Act → World → Prop}
theorem A.scope (h : A κ P w₀ n c E (Exit.noGoto Q)) : A κ P w₀ n (.scope c) E Q := fun a w g hs => wpIn_scope (h a w g hs)
theorem A.label {l : Nat} (h : End κ w₀ n E (Q .normal)) : A κ P w₀ n (.label l) E Q := fun a w g hs => wpIn_label (h a w g hs)
theorem End.ret_scope (h : End κ w₀ n E (Q .ret)) : End κ w₀ n E (Exit.noGoto Q .ret) := h
end

section
variable {P : Program} {n B : Nat} {ops : Array Oper} {E : Env} {dst : Option Tmp} {ty : TypeId} {pos : String} {after : Array Edge} {guard : Option (Nat × Bool)}
/-- A byte of a constant string. -/
theorem ok_strIndex {t : TypeId} {x i : Operand} {k : IntKind} {j : Int} {l : List UInt8} {c : UInt8} (m : Nat) (ht : P.underlying t = some .string) (hx : E.at x = some (str l)) (hi : E.at i = some (.v (.int k j))) (hj : j = (m : Int)) (hc : l[m]? = some c) :
    OpOk P B ⟨dst, .index t x i, ty, pos, after, guard⟩ E (.v (byteV c)) := fun ρ w _ _ hρ => by
  have h1 : ρ x = .string ⟨l.toArray⟩ := hρ x (by simp [Op.operands]) _ hx
  have h2 : ρ i = .int k j := hρ i (by simp [Op.operands]) _ hi
  subst hj
  have hm : m < l.length := (List.getElem?_eq_some_iff.1 hc).1
  have hg : (⟨l.toArray⟩ : ByteArray)[m]? = some c := by
    have hs : m < (⟨l.toArray⟩ : ByteArray).size := hm
    rw [getElem?_pos (⟨l.toArray⟩ : ByteArray) m hs]
    rw [List.getElem?_eq_getElem hm] at hc
    exact hc
  have hr : (Instr.index t (.string ⟨l.toArray⟩) (.int k (m : Int))).run P w = .ok (byteV c) w := by
    simp [Instr.index, asIntOf, run_underlying ht, hg, byteV]
  exact out_val (w' := w) (by simp only [execOp, h1, h2, Sem.run_bind, hr, Result.andThen_ok, Sem.run_pure]) ⟨Grow.refl w, rfl⟩
/-- A call of a function value that holds what us lists, and writes one block. -/
theorem eff_callV {f : FuncId} {T g s dst : Nat} {x : Operand} {xs ys us : List Value} {argTypes : Array TypeId} {E' : Env} (hf : FnW P f [] T g xs ys (us.map D.v)) (hx : E.at x = some (.v (.func (.func f) #[] us.toArray)))
    (hg : B ≤ g) (hblk : E.look s = some (blk g T xs)) (hdst : dst < n) (hl : LeftS B T g E' E) :
    Eff P n B ops ⟨some dst, .call { callee := .value x, args := #[], argTypes := argTypes }, ty, pos, after, none⟩ E ((dst, .v (.tuple #[])) :: (s, blk g T ys) :: E') := by
  intro κ a w K Q h hK
  obtain ⟨fn, h1, h2, h3⟩ := hf.body
  have hfun : a.eval x = .func (.func f) #[] us.toArray := h.at_ x _ hx
  have hrun : (execOp a.eval ⟨some dst, .call { callee := .value x, args := #[], argTypes := argTypes }, ty, pos, after, none⟩).run P w = .ok (.enter f us.toArray) w := by
    have h2' : ¬ fn.name = "runtime.NumGoroutine" := by simpa using h2
    have h3' : ¬ fn.body = none := by intro h; rw [h] at h3; cases h3
    simp [execOp, resolve, Deferred.ofValue, hfun, invoke, callFunc, h1, h2', h3']
  obtain ⟨hlt, hh⟩ := h.of s _ hblk
  have hcall := hf.calls us w (by rw [List.length_map]) (fun j e u he hu => by
    rw [List.getElem?_map, hu] at he
    injection he with he; subst he; rfl) (fun p hp => by cases hp) hlt hh
  rw [if_pos (by simp [Region.wanted])]
  refine opR (by nofun) ?_
  unfold Oper.wp
  rw [hrun, Oper.upon_enter]
  refine Calls.mono hcall ?_
  rintro e w' ⟨rfl, hw, hh'⟩
  have hwr : Wrote B T g w w' := ⟨hg, hw.os, hw.tape, hw.output, hw.size, hw.cel, hw.other⟩
  have hst := hl.st h hwr
  have hlt' : g < w'.heap.size := (Array.getElem?_eq_some_iff.1 hh').1
  exact hK _ _ (hwr.below h.base) (St.put (hst.push (d := blk g T ys) ⟨hlt', hh'⟩) hdst rfl)
end

/-! ### Own rows that lie apart from a named block -/
def away (g base : Nat) (e : TypeId) (n : Nat) (xs : List Value) : D :=
  .p (fun B w x => (own base e n xs).OfB B w x ∧ x.ownBlock ≠ some g) (fun _ _ _ _ k ⟨h1, h2⟩ => ⟨D.OfB.keep h1 k, h2⟩) (fun _ _ _ _ k ⟨h1, h2⟩ => ⟨D.OfB.up h1 k, h2⟩)
theorem Surv.away {B T g base n : Nat} {e : TypeId} {xs : List Value} : Surv B T g (Go.Proofs.YthadcgkcgpinhaaGreatDoor.away g base e n xs) := fun w w' x k ⟨h1, h2⟩ => ⟨Surv.ownM (u := x) h2 w w' undef k h1, h2⟩
theorem away_le {g B n : Nat} {e : TypeId} {xs : List Value} (hn : n = xs.length) : Le (away g B e n xs) (lst (xs.map .v)) := fun b w x ⟨h1, _⟩ => own_le hn b w x h1
section
variable {P : Program} {w₀ : World} {n : Nat} {c : Code} {E : Env} {Q : Exit → Act → World → Prop}
theorem A.away {t g B B' m : Nat} {e : TypeId} {xs : List Value} (ht : E.look t = some (own B e m xs)) (hg : g < B) (hB : B' ≤ B) (h : A κ P w₀ n c ((t, Go.Proofs.YthadcgkcgpinhaaGreatDoor.away g B' e m xs) :: E) Q) : A κ P w₀ n c E Q := fun a w k hs => by
  have h1 := hs.of t _ ht
  refine h a w k (hs.push (d := Go.Proofs.YthadcgkcgpinhaaGreatDoor.away g B' e m xs) ⟨(own_mono hB : Le (own B e m xs) (own B' e m xs)).of h1, ?_⟩)
  obtain ⟨⟨_, h2⟩, _⟩ := h1
  rcases h2 with ⟨h3, _⟩ | ⟨j, cap, cur, h3, h4, _⟩
  · rw [h3]; simp [Value.ownBlock]
  · rw [h3]; simp [Value.ownBlock]; omega
/-- A block that was there at a region's beginning lies below what the region makes. -/
theorem A.ltBlk {k b B' : Nat} {T : TypeId} {xs : List Value} (hk : E.look k = some (old B' (blk b T xs))) (h : b < B' → A κ P w₀ n c E Q) : A κ P w₀ n c E Q := fun a w g hs => h (hs.of k _ hk).2.1 a w g hs
end
end Go.Proofs.YthadcgkcgpinhaaGreatDoor
namespace Go.Proofs.YthadcgkcgpinhaaGreatDoor
open Go Go.RowKit
set_option maxRecDepth 100000

/-- c where t holds, else 0. -/
def mask (t : Bool) (c : Nat) : Nat := bif t then c else 0
theorem mask_xor (s t : Bool) (c : Nat) : mask (s ^^ t) c = mask s c ^^^ mask t c := by cases s <;> cases t <;> simp [mask]
theorem mask_xor2 (t : Bool) (c d : Nat) : mask t (c ^^^ d) = mask t c ^^^ mask t d := by cases t <;> simp [mask]
theorem xor4 (a b c d : Nat) : (a ^^^ b) ^^^ (c ^^^ d) = (a ^^^ c) ^^^ (b ^^^ d) := by
  rw [Nat.xor_assoc, ← Nat.xor_assoc b, Nat.xor_comm b c, Nat.xor_assoc, Nat.xor_assoc]

/-- A map that keeps sums. -/
def Lin (f : Nat → Nat) : Prop := ∀ x y, f (x ^^^ y) = f x ^^^ f y
theorem Lin.zero {f : Nat → Nat} (h : Lin f) : f 0 = 0 := by
  have := h 0 0
  rwa [Nat.xor_self, Nat.xor_self] at this
theorem Lin.mask {f : Nat → Nat} (h : Lin f) (t : Bool) (c : Nat) : f (mask t c) = YthadcgkcgpinhaaGreatDoor.mask t (f c) := by cases t <;> simp [YthadcgkcgpinhaaGreatDoor.mask, h.zero]
theorem Lin.comp {f g : Nat → Nat} (hf : Lin f) (hg : Lin g) : Lin fun x => f (g x) := fun x y => by show f (g _) = _; rw [hg, hf]
theorem Lin.xor {f g : Nat → Nat} (hf : Lin f) (hg : Lin g) : Lin fun x => f x ^^^ g x := fun x y => by show f _ ^^^ g _ = _; rw [hf, hg, xor4]
theorem Lin.bit (k c : Nat) : Lin fun x => YthadcgkcgpinhaaGreatDoor.mask (x.testBit k) c := fun x y => by show YthadcgkcgpinhaaGreatDoor.mask ((x ^^^ y).testBit k) c = _; rw [Nat.testBit_xor, mask_xor]
theorem Lin.at (t : Bool) {f : Nat → Nat} (hf : Lin f) : Lin fun x => YthadcgkcgpinhaaGreatDoor.mask t (f x) := fun x y => by show YthadcgkcgpinhaaGreatDoor.mask t (f _) = _; rw [hf, mask_xor2]
theorem Lin.none : Lin fun _ => 0 := fun _ _ => (Nat.xor_self 0).symm
theorem Lin.id : Lin fun x => x := fun _ _ => rfl

theorem eight : ∀ a < 256, a = mask (a.testBit 0) 1 ^^^ mask (a.testBit 1) 2 ^^^ mask (a.testBit 2) 4 ^^^ mask (a.testBit 3) 8 ^^^ mask (a.testBit 4) 16 ^^^ mask (a.testBit 5) 32 ^^^ mask (a.testBit 6) 64 ^^^ mask (a.testBit 7) 128 := by decide
theorem Lin.ext {f g : Nat → Nat} (hf : Lin f) (hg : Lin g) (h : ∀ i < 8, f (2 ^ i) = g (2 ^ i)) {a : Nat} (ha : a < 256) : f a = g a := by
  have h0 := h 0 (by decide); have h1 := h 1 (by decide); have h2 := h 2 (by decide); have h3 := h 3 (by decide)
  have h4 := h 4 (by decide); have h5 := h 5 (by decide); have h6 := h 6 (by decide); have h7 := h 7 (by decide)
  simp only [Nat.reducePow] at h0 h1 h2 h3 h4 h5 h6 h7
  rw [eight a ha]
  simp only [hf _ _, hg _ _, hf.mask, hg.mask, h0, h1, h2, h3, h4, h5, h6, h7]

/-- An element times x. -/
def xt (a : Nat) : Nat := (2 * a % 256) ^^^ mask (a.testBit 7) 27
def xts (a : Nat) : Nat → Nat
  | 0 => a
  | k + 1 => xt (xts a k)
/-- The sum of the products with the first k terms of b. -/
def gacc (a b : Nat) : Nat → Nat
  | 0 => 0
  | k + 1 => gacc a b k ^^^ mask (b.testBit k) (xts a k)
/-- The product of two elements. -/
def gm (a b : Nat) : Nat := gacc a b 8

theorem two_xor (a b : Nat) : 2 * (a ^^^ b) = 2 * a ^^^ 2 * b := by
  have := Nat.shiftLeft_xor_distrib (a := a) (b := b) (i := 1)
  simp only [Nat.shiftLeft_eq, Nat.pow_one] at this
  rw [Nat.mul_comm 2, Nat.mul_comm 2, Nat.mul_comm 2, this]
theorem xt_add : Lin xt := fun x y => by
  unfold xt
  rw [Nat.testBit_xor, mask_xor, two_xor, show (256 : Nat) = 2 ^ 8 from rfl, Nat.xor_mod_two_pow, xor4]
theorem xts_add : ∀ k, Lin fun x => xts x k
  | 0 => Lin.id
  | k + 1 => xt_add.comp (xts_add k)
theorem gacc_addL (b : Nat) : ∀ k, Lin fun x => gacc x b k
  | 0 => Lin.none
  | k + 1 => (gacc_addL b k).xor (Lin.at _ (xts_add k))
theorem gacc_addR (a : Nat) : ∀ k, Lin fun x => gacc a x k
  | 0 => Lin.none
  | k + 1 => (gacc_addR a k).xor (Lin.bit k _)
theorem gm_addL (b : Nat) : Lin fun x => gm x b := gacc_addL b 8
theorem gm_addR (a : Nat) : Lin (gm a) := gacc_addR a 8
theorem xt_lt (a : Nat) : xt a < 256 := Nat.xor_lt_two_pow (n := 8) (Nat.mod_lt _ (by decide)) (by unfold mask; cases a.testBit 7 <;> decide)
theorem xts_lt {a : Nat} (h : a < 256) : ∀ k, xts a k < 256
  | 0 => h
  | _ + 1 => xt_lt _
theorem gacc_lt {a : Nat} (b : Nat) (h : a < 256) : ∀ k, gacc a b k < 256
  | 0 => Nat.zero_lt_succ _
  | k + 1 => Nat.xor_lt_two_pow (n := 8) (gacc_lt b h k) (by unfold mask; cases b.testBit k; exact Nat.zero_lt_succ _; exact xts_lt h k)
theorem gm_lt {a : Nat} (b : Nat) (h : a < 256) : gm a b < 256 := gacc_lt b h 8

theorem gm_comm {a b : Nat} (ha : a < 256) (hb : b < 256) : gm a b = gm b a :=
  Lin.ext (gm_addL b) (gm_addR b) (fun i hi => Lin.ext (gm_addR (2 ^ i)) (gm_addL (2 ^ i)) (fun j hj => by revert i j; decide) hb) ha
theorem gm_assoc {a b c : Nat} (ha : a < 256) (hb : b < 256) (hc : c < 256) : gm (gm a b) c = gm a (gm b c) :=
  Lin.ext ((gm_addL c).comp (gm_addL b)) (gm_addL (gm b c)) (fun i hi =>
    Lin.ext ((gm_addL c).comp (gm_addR (2 ^ i))) ((gm_addR (2 ^ i)).comp (gm_addL c)) (fun j hj =>
      Lin.ext (gm_addR (gm (2 ^ i) (2 ^ j))) ((gm_addR (2 ^ i)).comp (gm_addR (2 ^ j))) (fun k hk => by revert i j k; decide) hc) hb) ha
theorem gm_one {a : Nat} (ha : a < 256) : gm a 1 = a := Lin.ext (gm_addL 1) Lin.id (by decide) ha
theorem gm_one' {a : Nat} (ha : a < 256) : gm 1 a = a := by rw [gm_comm (by decide) ha, gm_one ha]
theorem gm_zero (a : Nat) : gm a 0 = 0 := (gm_addR a).zero
theorem gm_zero' (a : Nat) : gm 0 a = 0 := (gm_addL a).zero

/-- The product of n factors a. -/
def gpow (a : Nat) : Nat → Nat
  | 0 => 1
  | n + 1 => gm (gpow a n) a
theorem gpow_lt {a : Nat} : ∀ n, gpow a n < 256
  | 0 => Nat.succ_lt_succ (Nat.zero_lt_succ _)
  | n + 1 => gm_lt _ (gpow_lt n)
theorem gpow_add {a : Nat} (ha : a < 256) (m : Nat) : ∀ n, gpow a (m + n) = gm (gpow a m) (gpow a n)
  | 0 => (gm_one (gpow_lt m)).symm
  | n + 1 => by
    show gm (gpow a (m + n)) a = gm (gpow a m) (gm (gpow a n) a)
    rw [gpow_add ha m n, gm_assoc (gpow_lt m) (gpow_lt n) ha]
theorem gpow_sq {a : Nat} (ha : a < 256) : ∀ n, gpow (gm a a) n = gpow a (2 * n)
  | 0 => rfl
  | n + 1 => by
    show gm (gpow (gm a a) n) (gm a a) = gm (gm (gpow a (2 * n)) a) a
    rw [gpow_sq ha n, gm_assoc (gpow_lt _) ha ha]
theorem gpow_zero {n : Nat} (h : 0 < n) : gpow 0 n = 0 := by
  obtain ⟨k, rfl⟩ : ∃ k, n = k + 1 := ⟨n - 1, by omega⟩
  exact gm_zero _
theorem gpow_mul {a : Nat} (ha : a < 256) (m : Nat) : ∀ n, gpow (gpow a m) n = gpow a (m * n)
  | 0 => rfl
  | n + 1 => by
    show gm (gpow (gpow a m) n) (gpow a m) = gpow a (m * n + m)
    rw [gpow_mul ha m n, gpow_add ha]
theorem gpow_one : ∀ n, gpow 1 n = 1
  | 0 => rfl
  | n + 1 => by show gm (gpow 1 n) 1 = 1; rw [gpow_one n]; decide
/-- Powers by squares. -/
def gsq (a : Nat) : Nat → Nat
  | 0 => a
  | n + 1 => gsq (gm a a) n
theorem gsq_eq {a : Nat} (ha : a < 256) : ∀ n, gsq a n = gpow a (2 ^ n)
  | 0 => (gm_one' ha).symm
  | n + 1 => by
    show gsq (gm a a) n = _
    rw [gsq_eq (gm_lt _ ha) n, gpow_sq ha, Nat.pow_succ, Nat.mul_comm]
theorem all256 {p : Nat → Bool} (h : (List.range 256).all p = true) {a : Nat} (ha : a < 256) : p a = true := List.all_eq_true.1 h a (List.mem_range.2 ha)
theorem gsq8_all : (List.range 256).all (fun a => gsq a 8 == a) = true := by kernel_rfl
theorem gsq8 {a : Nat} (ha : a < 256) : gsq a 8 = a := eq_of_beq (all256 gsq8_all ha)
theorem gpow_256 {a : Nat} (ha : a < 256) : gpow a 256 = a := by rw [show 256 = 2 ^ 8 from rfl, ← gsq_eq ha, gsq8 ha]
/-! ### Inverses -/
/-- The inverses of all elements. -/
def itab : List UInt8 := [0, 1, 141, 246, 203, 82, 123, 209, 232, 79, 41, 192, 176, 225, 229, 199, 116, 180, 170, 75, 153, 43, 96, 95, 88, 63, 253, 204, 255, 64, 238, 178, 58, 110, 90, 241, 85, 77, 168, 201, 193, 10, 152, 21, 48, 68, 162, 194, 44, 69, 146, 108, 243, 57, 102, 66, 242, 53, 32, 111, 119, 187, 89, 25, 29, 254, 55, 103, 45, 49, 245, 105, 167, 100, 171, 19, 84, 37, 233, 9, 237, 92, 5, 202, 76, 36, 135, 191, 24, 62, 34, 240, 81, 236, 97, 23, 22, 94, 175, 211, 73, 166, 54, 67, 244, 71, 145, 223, 51, 147, 33, 59, 121, 183, 151, 133, 16, 181, 186, 60, 182, 112, 208, 6, 161, 250, 129, 130, 131, 126, 127, 128, 150, 115, 190, 86, 155, 158, 149, 217, 247, 2, 185, 164, 222, 106, 50, 109, 216, 138, 132, 114, 42, 20, 159, 136, 249, 220, 137, 154, 251, 124, 46, 195, 143, 184, 101, 72, 38, 200, 18, 74, 206, 231, 210, 98, 12, 224, 31, 239, 17, 117, 120, 113, 165, 142, 118, 61, 189, 188, 134, 87, 11, 40, 47, 163, 218, 212, 228, 15, 169, 39, 83, 4, 27, 252, 172, 230, 122, 7, 174, 99, 197, 219, 226, 234, 148, 139, 196, 213, 157, 248, 144, 107, 177, 13, 214, 235, 198, 14, 207, 173, 8, 78, 215, 227, 93, 80, 30, 179, 91, 35, 56, 52, 104, 70, 3, 140, 221, 156, 125, 160, 205, 26, 65, 28]
def ginv (a : Nat) : Nat := (itab.getD a 0).toNat
theorem ginv_lt (a : Nat) : ginv a < 256 := (itab.getD a 0).toNat_lt
theorem itab_length : itab.length = 256 := by kernel_rfl
theorem itab_get {a : Nat} (ha : a < 256) : itab[a]? = some (itab.getD a 0) := by
  rw [List.getD_eq_getElem?_getD, List.getElem?_eq_getElem (by rw [itab_length]; exact ha)]; rfl
theorem ginv_all : (List.range 256).all (fun a => (a == 0 || gm a (ginv a) == 1) && ginv (ginv a) == a) = true := by kernel_rfl
theorem ginv_zero : ginv 0 = 0 := by kernel_rfl
theorem gm_ginv {a : Nat} (ha : a < 256) (h0 : a ≠ 0) : gm a (ginv a) = 1 := by
  have h := all256 ginv_all ha
  simpa [h0] using (Bool.and_eq_true_iff.1 h).1
theorem ginv_uniq {a b : Nat} (ha : a < 256) (hb : b < 256) (h : gm a b = 1) : ginv a = b := by
  have h0 : a ≠ 0 := fun h0 => by subst h0; rw [gm_zero'] at h; cases h
  rw [← gm_one (ginv_lt a), ← h, ← gm_assoc (ginv_lt a) ha hb, gm_comm (ginv_lt a) ha, gm_ginv ha h0, gm_one' hb]
theorem gm_back {a b : Nat} (ha : a < 256) (hb : b < 256) (h0 : a ≠ 0) : gm (gm b a) (ginv a) = b := by
  rw [gm_assoc hb ha (ginv_lt a), gm_ginv ha h0, gm_one hb]
/-! ### Powers -/
theorem gpow_255 {a : Nat} (ha : a < 256) (h0 : a ≠ 0) : gpow a 255 = 1 := by
  have h := gpow_256 ha
  have h' : gm (gpow a 255) a = a := h
  rw [← gm_back ha (gpow_lt 255) h0, h', gm_ginv ha h0]
theorem gpow_mod {a : Nat} (ha : a < 256) (h0 : a ≠ 0) (n : Nat) : gpow a n = gpow a (n % 255) := by
  have h := Nat.div_add_mod n 255
  rw [show gpow a n = gpow a (255 * (n / 255) + n % 255) from by rw [h], gpow_add ha, ← gpow_mul ha, gpow_255 ha h0, gpow_one, gm_one' (gpow_lt _)]
/-- A power, its exponent any number. -/
def gpz (a : Nat) (n : Int) : Nat := if a = 0 ∧ n ≠ 0 then 0 else gpow a (n % 255).toNat
theorem gpz_zero {n : Int} (h : n ≠ 0) : gpz 0 n = 0 := if_pos ⟨rfl, h⟩
theorem gpz_pos {a : Nat} (h0 : a ≠ 0) (n : Int) : gpz a n = gpow a (n % 255).toNat := if_neg fun h => h0 h.1
theorem gpz_nat {a : Nat} (ha : a < 256) (k : Nat) : gpz a (k : Int) = gpow a k := by
  by_cases h0 : a = 0
  · subst h0
    by_cases hk : k = 0
    · subst hk; rfl
    · rw [gpz_zero (by omega), gpow_zero (by omega)]
  · rw [gpz_pos h0, gpow_mod ha h0 k, show ((k : Int) % 255).toNat = k % 255 from by omega]
/-- A round of the squares' loop. -/
theorem gpow_step {x p n : Nat} (hx : x < 256) (hp : p < 256) : gm (if n % 2 = 1 then gm p x else p) (gpow (gm x x) (n / 2)) = gm p (gpow x n) := by
  rw [gpow_sq hx]
  split
  · rename_i h
    rw [show n = 1 + 2 * (n / 2) from by omega, gpow_add hx, show gpow x 1 = x from gm_one' hx, gm_assoc hp hx (gpow_lt _), show (1 + 2 * (n / 2)) / 2 = n / 2 from by omega]
  · rename_i h
    rw [show 2 * (n / 2) = n from by omega]
/-- What is left of an exponent. -/
theorem tmod255 (n : Int) : ∃ r : Int, n.tmod 255 = r ∧ -255 < r ∧ r < 255 ∧ r % 255 = n % 255 := by
  refine ⟨_, rfl, ?_⟩
  have h := Int.tmod_eq_emod (a := n) (b := 255)
  rw [show Int.natAbs 255 = 255 from rfl] at h
  split at h <;> omega

/-! ### Substitutes -/
def rotl8 (a k : Nat) : Nat := (a * 2 ^ k % 256) ||| (a / 2 ^ (8 - k))
theorem rotl8_lt {a : Nat} (k : Nat) (ha : a < 256) : rotl8 a k < 256 := Nat.or_lt_two_pow (n := 8) (Nat.mod_lt _ (by decide)) (Nat.lt_of_le_of_lt (Nat.div_le_self _ _) ha)
def subI (b : Nat) : Nat := b ^^^ rotl8 b 1 ^^^ rotl8 b 2 ^^^ rotl8 b 3 ^^^ rotl8 b 4 ^^^ 99
def sub8 (a : Nat) : Nat := subI (ginv a)
/-- The sum whose parity is the bit i of a substitute, its first c terms behind 63. -/
def ssum (v i : Nat) : Nat → Nat
  | 0 => 99 / 2 ^ i
  | c + 1 => ssum v i c + v / 2 ^ ((i + (4 + c)) % 8)
theorem ssum_le {v : Nat} (hv : v < 256) (i : Nat) : ∀ c, ssum v i c ≤ 99 + 256 * c
  | 0 => Nat.div_le_self _ _
  | c + 1 => by
    have h := ssum_le hv i c
    have h1 := Nat.div_le_self v (2 ^ ((i + (4 + c)) % 8))
    show ssum v i c + v / 2 ^ ((i + (4 + c)) % 8) ≤ _
    omega
def sout (v : Nat) : Nat → Nat
  | 0 => 0
  | c + 1 => 2 * sout v c + ssum v (7 - c) 5 % 2
theorem sout_lt (v : Nat) : ∀ c, sout v c < 2 ^ c
  | 0 => Nat.zero_lt_succ _
  | c + 1 => by
    have h := sout_lt v c
    rw [Nat.pow_succ]
    show 2 * sout v c + ssum v (7 - c) 5 % 2 < _
    omega
def subst8 (v : Nat) : Nat := sout v 8
theorem subst8_lt (v : Nat) : subst8 v < 256 := sout_lt v 8
theorem subst_all : (List.range 256).all (fun v => subst8 v == subI v) = true := by kernel_rfl
theorem subst8_eq {v : Nat} (hv : v < 256) : subst8 v = subI v := eq_of_beq (all256 subst_all hv)
theorem sub8_eq (a : Nat) : subst8 (ginv a) = sub8 a := subst8_eq (ginv_lt a)
theorem sub8_lt (a : Nat) : sub8 a < 256 := by rw [← sub8_eq]; exact subst8_lt _
/-! ### The powers of 3 -/
def p3 : List Nat := [1, 3, 5, 15, 17, 51, 85, 255, 26, 46, 114, 150, 161, 248, 19, 53, 95, 225, 56, 72, 216, 115, 149, 164, 247, 2, 6, 10, 30, 34, 102, 170, 229, 52, 92, 228, 55, 89, 235, 38, 106, 190, 217, 112, 144, 171, 230, 49, 83, 245, 4, 12, 20, 60, 68, 204, 79, 209, 104, 184, 211, 110, 178, 205, 76, 212, 103, 169, 224, 59, 77, 215, 98, 166, 241, 8, 24, 40, 120, 136, 131, 158, 185, 208, 107, 189, 220, 127, 129, 152, 179, 206, 73, 219, 118, 154, 181, 196, 87, 249, 16, 48, 80, 240, 11, 29, 39, 105, 187, 214, 97, 163, 254, 25, 43, 125, 135, 146, 173, 236, 47, 113, 147, 174, 233, 32, 96, 160, 251, 22, 58, 78, 210, 109, 183, 194, 93, 231, 50, 86, 250, 21, 63, 65, 195, 94, 226, 61, 71, 201, 64, 192, 91, 237, 44, 116, 156, 191, 218, 117, 159, 186, 213, 100, 172, 239, 42, 126, 130, 157, 188, 223, 122, 142, 137, 128, 155, 182, 193, 88, 232, 35, 101, 175, 234, 37, 111, 177, 200, 67, 197, 84, 252, 31, 33, 99, 165, 244, 7, 9, 27, 45, 119, 153, 176, 203, 70, 202, 69, 207, 74, 222, 121, 139, 134, 145, 168, 227, 62, 66, 198, 81, 243, 14, 18, 54, 90, 238, 41, 123, 141, 140, 143, 138, 133, 148, 167, 242, 13, 23, 57, 75, 221, 124, 132, 151, 162, 253, 28, 36, 108, 180, 199, 82, 246]
def l3 : List Nat := [0, 0, 25, 1, 50, 2, 26, 198, 75, 199, 27, 104, 51, 238, 223, 3, 100, 4, 224, 14, 52, 141, 129, 239, 76, 113, 8, 200, 248, 105, 28, 193, 125, 194, 29, 181, 249, 185, 39, 106, 77, 228, 166, 114, 154, 201, 9, 120, 101, 47, 138, 5, 33, 15, 225, 36, 18, 240, 130, 69, 53, 147, 218, 142, 150, 143, 219, 189, 54, 208, 206, 148, 19, 92, 210, 241, 64, 70, 131, 56, 102, 221, 253, 48, 191, 6, 139, 98, 179, 37, 226, 152, 34, 136, 145, 16, 126, 110, 72, 195, 163, 182, 30, 66, 58, 107, 40, 84, 250, 133, 61, 186, 43, 121, 10, 21, 155, 159, 94, 202, 78, 212, 172, 229, 243, 115, 167, 87, 175, 88, 168, 80, 244, 234, 214, 116, 79, 174, 233, 213, 231, 230, 173, 232, 44, 215, 117, 122, 235, 22, 11, 245, 89, 203, 95, 176, 156, 169, 81, 160, 127, 12, 246, 111, 23, 196, 73, 236, 216, 67, 31, 45, 164, 118, 123, 183, 204, 187, 62, 90, 251, 96, 177, 134, 59, 82, 161, 108, 170, 85, 41, 157, 151, 178, 135, 144, 97, 190, 220, 252, 188, 149, 207, 205, 55, 63, 91, 209, 83, 57, 132, 60, 65, 162, 109, 71, 20, 42, 158, 93, 86, 242, 211, 171, 68, 17, 146, 217, 35, 32, 46, 137, 180, 124, 184, 38, 119, 153, 227, 165, 103, 74, 237, 222, 197, 49, 254, 24, 13, 99, 140, 128, 192, 247, 112, 7]
theorem p3_all : (List.range 254).all (fun i => gm (p3.getD i 0) 3 == p3.getD (i + 1) 0) = true := by kernel_rfl
theorem p3_eq : ∀ i, i < 255 → gpow 3 i = p3.getD i 0
  | 0, _ => rfl
  | i + 1, h => by
    show gm (gpow 3 i) 3 = _
    rw [p3_eq i (by omega)]
    exact eq_of_beq (List.all_eq_true.1 p3_all i (List.mem_range.2 (by omega)))
theorem l3_all : (List.range 256).all (fun x => x == 0 || (p3.getD (l3.getD x 0) 0 == x && Nat.blt (l3.getD x 0) 255)) = true := by kernel_rfl
theorem pow3 {x : Nat} (hx : x < 256) (h0 : x ≠ 0) : ∃ i, i < 255 ∧ gpow 3 i = x := by
  have h := all256 l3_all hx
  simp only [h0, Bool.or_eq_true, beq_iff_eq, Bool.and_eq_true, false_or, Nat.blt_eq] at h
  exact ⟨_, h.2, by rw [p3_eq _ h.2, h.1]⟩
/-- Whether x is among the first k powers of 3. -/
def isP (k x : Nat) : Bool := (List.range k).any fun i => gpow 3 i == x
theorem isP_succ (k x : Nat) : isP (k + 1) x = (isP k x || gpow 3 k == x) := by simp [isP, List.range_succ, List.any_append]
theorem isP_full {k x : Nat} (hk : 255 ≤ k) (hx : x < 256) (h0 : x ≠ 0) : isP k x = true := by
  obtain ⟨i, h1, h2⟩ := pow3 hx h0
  exact List.any_eq_true.2 ⟨i, List.mem_range.2 (by omega), by simp [h2]⟩
theorem pow3_all : (List.range 256).all (fun x => (if 255 < 2 * x then (2 * x) ^^^ 283 else 2 * x) % 256 ^^^ x == gm x 3) = true := by kernel_rfl
theorem pow3_step {x : Nat} (hx : x < 256) : (if 255 < 2 * x then (2 * x) ^^^ 283 else 2 * x) % 256 ^^^ x = gm x 3 := eq_of_beq (all256 pow3_all hx)
theorem inv3 {k : Nat} (hk : k ≤ 255) : gpow 3 (255 - k) = ginv (gpow 3 k) := by
  refine (ginv_uniq (gpow_lt _) (gpow_lt _) ?_).symm
  rw [← gpow_add (by decide), show k + (255 - k) = 255 from by omega, gpow_255 (by decide) (by decide)]
theorem map_set_range {α : Type} {f : Nat → α} {n y : Nat} {v : α} : ((List.range n).map f).set y v = (List.range n).map fun x => if x = y then v else f x := by
  apply List.ext_getElem?
  intro j
  rw [List.getElem?_set]
  by_cases hj : j < n
  · by_cases hy : y = j
    · subst hy; simp [hj]
    · simp [hy, hj, Ne.symm hy]
  · simp only [List.length_map, List.length_range, List.getElem?_map, List.getElem?_eq_none (show (List.range n).length ≤ j by simp; omega), Option.map_none]
    split
    · rw [if_neg (by omega)]
    · rfl

/-! ### The product of the definition -/
def crow (a b i : Nat) : Nat → Nat
  | 0 => 0
  | k + 1 => crow a b i k ^^^ mask (a.testBit i && b.testBit k) (2 ^ (i + k))
def cml (a b : Nat) : Nat → Nat
  | 0 => 0
  | i + 1 => cml a b i ^^^ crow a b i 8
def redw (i : Nat) : Nat := 2 ^ (i - 4) ^^^ 2 ^ (i - 5) ^^^ 2 ^ (i - 7) ^^^ 2 ^ (i - 8)
def red (c : Nat) : Nat → Nat
  | 0 => c
  | m + 1 => red c m ^^^ mask ((red c m).testBit (14 - m)) (redw (14 - m))
def refm (a b : Nat) : Nat := red (cml a b 8) 7 % 256
theorem mask_and (s t u : Bool) (c : Nat) : mask ((s ^^ t) && u) c = mask (s && u) c ^^^ mask (t && u) c := by cases s <;> cases t <;> cases u <;> simp [mask]
theorem mask_and' (s t u : Bool) (c : Nat) : mask (u && (s ^^ t)) c = mask (u && s) c ^^^ mask (u && t) c := by cases s <;> cases t <;> cases u <;> simp [mask]
theorem crow_addL (b i : Nat) : ∀ k, Lin fun a => crow a b i k
  | 0 => Lin.none
  | k + 1 => (crow_addL b i k).xor fun x y => by show mask ((x ^^^ y).testBit i && _) _ = _; rw [Nat.testBit_xor, mask_and]
theorem crow_addR (a i : Nat) : ∀ k, Lin fun b => crow a b i k
  | 0 => Lin.none
  | k + 1 => (crow_addR a i k).xor fun x y => by show mask (_ && (x ^^^ y).testBit k) _ = _; rw [Nat.testBit_xor, mask_and']
theorem cml_addL (b : Nat) : ∀ i, Lin fun a => cml a b i
  | 0 => Lin.none
  | i + 1 => (cml_addL b i).xor (crow_addL b i 8)
theorem cml_addR (a : Nat) : ∀ i, Lin fun b => cml a b i
  | 0 => Lin.none
  | i + 1 => (cml_addR a i).xor (crow_addR a i 8)
theorem red_add : ∀ m, Lin fun c => red c m
  | 0 => Lin.id
  | m + 1 => (red_add m).xor ((Lin.bit (14 - m) (redw (14 - m))).comp (red_add m))
theorem mod_add : Lin fun c => c % 256 := fun _ _ => Nat.xor_mod_two_pow (n := 8)
theorem refm_eq {a b : Nat} (ha : a < 256) (hb : b < 256) : refm a b = gm a b :=
  Lin.ext (mod_add.comp ((red_add 7).comp (cml_addL b 8))) (gm_addL b) (fun i hi =>
    Lin.ext (mod_add.comp ((red_add 7).comp (cml_addR (2 ^ i) 8))) (gm_addR (2 ^ i)) (fun j hj => by revert i j; decide) hb) ha
/-- The first n bits of a number as values. -/
def bitsV (n c : Nat) : List Value := (List.range n).map fun j => .int .i64 (((c.testBit j).toNat : Nat) : Int)
theorem bitsV_length (n c : Nat) : (bitsV n c).length = n := by simp [bitsV]
theorem bitsV_get {n c j : Nat} (h : j < n) : (bitsV n c)[j]? = some (.int .i64 (((c.testBit j).toNat : Nat) : Int)) := by simp [bitsV, h]
theorem bitsV_set {n c j : Nat} {t : Bool} {v : Value} (hv : v = .int .i64 ((((c.testBit j) ^^ t).toNat : Nat) : Int)) : (bitsV n c).set j v = bitsV n (c ^^^ mask t (2 ^ j)) := by
  unfold bitsV
  rw [map_set_range]
  apply List.map_congr_left
  intro x _
  rw [Nat.testBit_xor]
  by_cases hx : x = j
  · subst hx
    rw [if_pos rfl, hv]
    cases t <;> simp [mask, Nat.testBit_two_pow_self]
  · rw [if_neg hx]
    cases t
    · simp [mask]
    · simp [mask, Ne.symm hx]
theorem bitsV_zero (n : Nat) : bitsV n 0 = List.replicate n (.int .i64 0) := by
  apply List.ext_getElem?
  intro j
  simp only [bitsV, List.getElem?_map, List.getElem?_replicate]
  by_cases hj : j < n
  · simp [hj]
  · simp [hj]
theorem bitsV_succ (n c : Nat) : bitsV (n + 1) c = bitsV n c ++ [.int .i64 (((c.testBit n).toNat : Nat) : Int)] := by simp [bitsV, List.range_succ]
theorem bit_le (x : Bool) : x.toNat ≤ 1 := by cases x <;> decide
/-- A round of the loop that puts the bits together. -/
theorem out_step (c : Nat) {m : Nat} (hm : m < 8) : 2 * (c % 256 / 2 ^ (m + 1)) + (c.testBit m).toNat = c % 256 / 2 ^ m := by
  have h1 : c.testBit m = (c % 256).testBit m := by
    rw [show (256 : Nat) = 2 ^ 8 from rfl, Nat.testBit_mod_two_pow]; simp [hm]
  rw [h1, Nat.toNat_testBit, Nat.pow_succ, ← Nat.div_div_eq_div_mul]
  omega
theorem mask_mul (t : Bool) (c : Nat) : t.toNat * c = mask t c := by cases t <;> simp [mask]
theorem mask_le (t : Bool) (c : Nat) : mask t c ≤ c := by cases t <;> simp [mask]
theorem xor_u8N {a b : Nat} (ha : a < 256) (hb : b < 256) : IntKind.u8.wrap ((BitVec.ofInt 8 (a : Int) ^^^ BitVec.ofInt 8 (b : Int)).toNat : Int) = ((a ^^^ b : Nat) : Int) := by
  have h : a ^^^ b < 2 ^ 8 := Nat.xor_lt_two_pow (by omega) (by omega)
  rw [BitVec.toNat_xor, BitVec.ofInt_natCast, BitVec.ofInt_natCast, BitVec.toNat_ofNat, BitVec.toNat_ofNat, Nat.mod_eq_of_lt (show a < 2 ^ 8 by omega), Nat.mod_eq_of_lt (show b < 2 ^ 8 by omega), wrap_u8 (by omega) (by omega)]
theorem or_u8N {a b : Nat} (ha : a < 256) (hb : b < 256) : IntKind.u8.wrap ((BitVec.ofInt 8 (a : Int) ||| BitVec.ofInt 8 (b : Int)).toNat : Int) = ((a ||| b : Nat) : Int) := by
  have h : a ||| b < 2 ^ 8 := Nat.or_lt_two_pow (by omega) (by omega)
  rw [BitVec.toNat_or, BitVec.ofInt_natCast, BitVec.ofInt_natCast, BitVec.toNat_ofNat, BitVec.toNat_ofNat, Nat.mod_eq_of_lt (show a < 2 ^ 8 by omega), Nat.mod_eq_of_lt (show b < 2 ^ 8 by omega), wrap_u8 (by omega) (by omega)]
theorem and_u8N {a b : Nat} (ha : a < 256) (hb : b < 256) : IntKind.u8.wrap ((BitVec.ofInt 8 (a : Int) &&& BitVec.ofInt 8 (b : Int)).toNat : Int) = ((a &&& b : Nat) : Int) := by
  have h : a &&& b < 2 ^ 8 := Nat.and_lt_two_pow _ (by omega)
  rw [BitVec.toNat_and, BitVec.ofInt_natCast, BitVec.ofInt_natCast, BitVec.toNat_ofNat, BitVec.toNat_ofNat, Nat.mod_eq_of_lt (show a < 2 ^ 8 by omega), Nat.mod_eq_of_lt (show b < 2 ^ 8 by omega), wrap_u8 (by omega) (by omega)]
theorem xor_i64N {a b : Nat} (ha : a < 4294967296) (hb : b < 4294967296) : IntKind.i64.wrap ((BitVec.ofInt 64 (a : Int) ^^^ BitVec.ofInt 64 (b : Int)).toNat : Int) = ((a ^^^ b : Nat) : Int) := by
  have h : a ^^^ b < 2 ^ 32 := Nat.xor_lt_two_pow (by omega) (by omega)
  rw [BitVec.toNat_xor, BitVec.ofInt_natCast, BitVec.ofInt_natCast, BitVec.toNat_ofNat, BitVec.toNat_ofNat, Nat.mod_eq_of_lt (show a < 2 ^ 64 by omega), Nat.mod_eq_of_lt (show b < 2 ^ 64 by omega), wrap_i64 (by omega) (by omega)]
theorem and_i64N {a b : Nat} (ha : a < 4294967296) (hb : b < 4294967296) : IntKind.i64.wrap ((BitVec.ofInt 64 (a : Int) &&& BitVec.ofInt 64 (b : Int)).toNat : Int) = ((a &&& b : Nat) : Int) := by
  have h : a &&& b < 2 ^ 32 := Nat.and_lt_two_pow _ (by omega)
  rw [BitVec.toNat_and, BitVec.ofInt_natCast, BitVec.ofInt_natCast, BitVec.toNat_ofNat, BitVec.toNat_ofNat, Nat.mod_eq_of_lt (show a < 2 ^ 64 by omega), Nat.mod_eq_of_lt (show b < 2 ^ 64 by omega), wrap_i64 (by omega) (by omega)]
theorem wrap_u8N (n : Nat) : IntKind.u8.wrap (n : Int) = ((n % 256 : Nat) : Int) := by
  rw [wrap_u8_nat]; simp
theorem wrapN_u8 {n : Nat} (h : n < 256) : IntKind.u8.wrap (n : Int) = (n : Int) := wrap_u8 (by omega) (by omega)
end Go.Proofs.YthadcgkcgpinhaaGreatDoor
namespace Go.Proofs.YthadcgkcgpinhaaGreatDoor
open Go Go.RowKit
set_option linter.unusedVariables false
set_option maxRecDepth 20000

theorem zero156 : ZeroIs Tryz.prog 156 (List.replicate 256 (.int .u8 0)) := by unfold ZeroIs; kernel_rfl
theorem size156 : SizeIs Tryz.prog 156 256 := by unfold SizeIs; kernel_rfl

theorem red_yes {c m : Nat} (h : (red c m).testBit (14 - m) = true) : red c m ^^^ mask true (2 ^ (14 - m - 4)) ^^^ mask true (2 ^ (14 - m - 5)) ^^^ mask true (2 ^ (14 - m - 7)) ^^^ mask true (2 ^ (14 - m - 8)) = red c (m + 1) := by
 show _ = red c m ^^^ mask ((red c m).testBit (14 - m)) (redw (14 - m))
 rw [h]
 simp only [mask, cond_true, redw, Nat.xor_assoc]
theorem red_no {c m : Nat} (h : (red c m).testBit (14 - m) = false) : red c m = red c (m + 1) := by
 show _ = red c m ^^^ mask ((red c m).testBit (14 - m)) (redw (14 - m))
 rw [h]
 simp [mask]
/-- The first k powers of 3, in a row of 256. -/
def pwV (k : Nat) : List Value := (List.range 256).map fun x => .int .u8 (((if x < k then gpow 3 x else 0 : Nat)) : Int)
theorem pwV_length (k : Nat) : (pwV k).length = 256 := by simp [pwV]
theorem pwV_get {k x : Nat} (h : x < k) (hx : x < 256) : (pwV k)[x]? = some (nB (gpow 3 x)) := by simp [pwV, hx, h]
theorem pwV_set (k : Nat) : (pwV k).set k (nB (gpow 3 k)) = pwV (k + 1) := by
 unfold pwV
 rw [map_set_range]
 apply List.map_congr_left
 intro x _
 by_cases hx : x = k
 ·subst hx; rw [if_pos rfl, if_pos (by omega)]
 ·rw [if_neg hx]
  by_cases h : x < k
  ·rw [if_pos h, if_pos (by omega)]
  ·rw [if_neg h, if_neg (by omega)]
theorem pwV_one : (List.replicate 256 (.int .u8 0) : List Value).set 0 (.int .u8 1) = pwV 1 := by kernel_rfl
/-- The substitutes of the first k powers of 3, each at its place. -/
def stV5 (k : Nat) : List Value := (List.range 256).map fun x => .int .u8 (((if isP k x then sub8 x else 0 : Nat)) : Int)
/-- All substitutes. -/
def subV : List Value := (List.range 256).map fun x => nB (sub8 x)
theorem stV_length (k : Nat) : (stV5 k).length = 256 := by simp [stV5]
theorem subV_length : subV.length = 256 := by simp [subV]
theorem subV_get {x : Nat} (hx : x < 256) : subV[x]? = some (nB (sub8 x)) := by simp [subV, hx]
theorem subV_one : subV.all (·.oneCell') = true := by kernel_rfl
theorem stV_zero : (List.replicate 256 (.int .u8 0) : List Value) = stV5 0 := by kernel_rfl
theorem stV_set {k : Nat} (hk : k < 255) : (stV5 k).set (gpow 3 k) (nB (subst8 (gpow 3 (255 - k)))) = stV5 (k + 1) := by
 rw [inv3 (by omega), sub8_eq]
 unfold stV5
 rw [map_set_range]
 apply List.map_congr_left
 intro x _
 rw [isP_succ]
 by_cases hx : x = gpow 3 k
 ·subst hx; simp
 ·rw [if_neg hx]
  have : (gpow 3 k == x) = false := by simp [Ne.symm hx]
  rw [this, Bool.or_false]
theorem stV_full : (stV5 255).set 0 (nB (subst8 0)) = subV := by
 unfold stV5 subV
 rw [map_set_range]
 apply List.map_congr_left
 intro x hx
 by_cases h0 : x = 0
 ·subst h0; rw [if_pos rfl, ← sub8_eq, ginv_zero]
 ·rw [if_neg h0, isP_full (by omega) (List.mem_range.1 hx) h0]; rfl

theorem coefficients_fnB (a : Nat) (ha : a < 256) : FnB Tryz.prog 109 [.v (nB a)] (fun B => own B 3 8 (bitsV 8 a)) := by
 refine FnB.of Tryz.func109 rfl (by kernel_rfl) Tryz.ntmps109 (by simp) (fun w => [(0, .v (nB a))]) (fun w => (Start.v rfl Start.nil)) fun w₀ => ?_
 refine GS ?_
 refine TL ?_
 refine RA rfl ?_
 refine RN ?_
 refine GS ?_
 refine TL ?_
 refine RA rfl ?_
 refine RN ?_
 refine A.seq ?_
 refine GS ?_
 refine TL ?_
 refine RA rfl ?_
 refine RN ?_
 refine A.block ?_
 refine A.subL (SubL.cons (t := 0) rfl (Le.refl _) (SubL.cons (t := 3) rfl (own_nil (B := w₀.heap.size) (e := 3)) (SubL.cons (t := 4) rfl (Le.refl _) SubL.nil))) ?_
 refine A.loop (ι := Nat) (fun i => i ≤ 8) (fun i => [(0, .v (nB a)), (3, own w₀.heap.size 3 (i) (bitsV (i) a)), (4, .v (nI i))]) (fun i => 8 - i) 0 ?_ ?_ ?_
 ·exact Nat.zero_le _
 ·exact (KC 0 rfl (KE 3 rfl (by simp [bitsV]) (KC 4 rfl KN)))
 intro i hi
 refine A.seq ?_
 refine GS ?_
 refine TL ?_
 refine RM rfl ?_
 refine RB rfl rfl rfl ?_
 refine RN ?_
 refine A.cond rfl (fun hc6 => ?_) (fun hc6 => ?_)
 ·have hlt : i < 8 := by simp at hc6; omega
  refine A.skip ?_
  refine EN ?_
  refine A.seq ?_
  refine A.block ?_
  refine GE ?_
  refine TF 7 ?_
  refine RM rfl ?_
  refine RM rfl ?_
  refine RM rfl ?_
  refine RS (ok_shr rfl rfl (by omega)) ?_; refine RZ (nB (a / 2 ^ (i))) (by rw [Int.toNat_natCast, show min (i) IntKind.u8.bits = i from by simp only [IntKind.bits]; omega]; exact congrArg _ (shr_nat _ _)) ?_
  refine RS (ok_rem rfl rfl (by decide)) ?_; refine RZ (nB (a / 2 ^ i % 2)) (by rw [tmod_lit _ (by decide)]; rfl) ?_
  refine RS (ok_conv Tryz.underlying5 Tryz.underlying3 rfl) ?_; refine RZ (nI ((a.testBit i).toNat)) (by rw [wrapN_i64 (by omega), Nat.toNat_testBit]) ?_
  refine RS (ok_build [.v (nI ((a.testBit i).toNat))] Tryz.underlying54 info3 rfl (by decide) (by decide) rfl ⟨rfl, rfl, trivial⟩ (fun d hd w x h => by simp only [List.mem_cons, List.not_mem_nil, or_false] at hd; rcases hd with rfl; exact v_one rfl h)) ?_
  refine RN ?_
  refine ⟨_, eff_appendS (vs := [nI ((a.testBit i).toNat)]) Tryz.underlying54 info3 (by decide) rfl rfl rfl (le_lst _ _) (by simp [Value.oneCell']) (by simp; omega) (by decide) (fun g hg => (LV 0 rfl (LV 4 rfl LN))), ?_⟩
  refine TL ?_
  refine RA rfl ?_
  refine RN ?_
  refine End.normal_block ?_
  refine EN ?_
  refine GE ?_
  refine TL ?_
  refine RM rfl ?_
  refine RBS rfl rfl rfl (nI (i + 1)) (by rw [wrap_i64 (by omega) (by omega)]; first | rfl | (congr 1; omega)) ?_
  refine RA rfl ?_
  refine RN ?_
  refine End.normal_then ?_
  refine End.again (i + 1) ?_ ?_ ?_
  ·show _ ≤ _; omega
  ·show _ - _ < _ - _; omega
  ·exact (KC 0 rfl (KE 3 rfl (by rw [bitsV_succ]; rfl) (KC 4 rfl KN)))
 ·obtain rfl : i = 8 := by simp at hc6; omega
  refine A.exit ?_
  refine End.exit_then ?_
  refine End.exit_then ?_
  refine End.exit_here ?_
  refine EN ?_
  refine GS ?_
  refine TL ?_
  refine RM rfl ?_
  refine RA rfl ?_
  refine RN ?_
  refine A.ret ?_
  exact End.ret1 rfl rfl (by first | exact Le.refl _ | exact Le.old _ _)
set_option maxHeartbeats 4000000 in
theorem refMul_fn (a b : Nat) (ha : a < 256) (hb : b < 256) : Fn Tryz.prog 106 [.v (nB a), .v (nB b)] (.v (nB (gm a b))) := by
 refine Fn.of Tryz.func106 rfl (by kernel_rfl) Tryz.ntmps106 (by simp) (fun w => [(0, .v (nB a)), (1, .v (nB b))]) (fun w => (Start.v rfl (Start.v rfl Start.nil))) fun w₀ => ?_
 refine GS ?_
 refine TL ?_
 refine RA rfl ?_
 refine RN ?_
 refine GS ?_
 refine TL ?_
 refine RS (ok_make 15 Tryz.underlying54 info3 (by decide) rfl rfl rfl rfl rfl (by decide)) ?_
 refine RA rfl ?_
 refine RN ?_
 refine A.open (t := 5) (k := 1000005) rfl fun g hBg => ?_
 refine A.regsG _ (fun B => (OldOf.v (t := 0) rfl (OldOf.v (t := 1) rfl (OldOf.v (t := 5) rfl (OldOf.p (t := 1000005) rfl OldOf.nil))))) (by kernel_rfl) (by kernel_rfl) (.inl rfl) (fun B hB => ?_)
 refine TL ?_
 refine RM rfl ?_
 refine RS (ok_callB (coefficients_fnB a ha) (fun _ _ h => own_mono h) (A1 rfl)) ?_
 refine RM rfl ?_
 refine RS (ok_callB (coefficients_fnB b hb) (fun _ _ h => own_mono h) (A1 rfl)) ?_
 refine RA rfl ?_
 refine RA rfl ?_
 refine RN ?_
 refine A.sub (KC 5 rfl (KC 6 rfl (KC 7 rfl (KC 1000005 rfl KN)))) ?_
 refine A.ltBlk (k := 1000005) rfl fun hgB => ?_
 refine A.away (t := 6) (g := g) (B' := w₀.heap.size) rfl hgB hB ?_
 refine A.away (t := 7) (g := g) (B' := w₀.heap.size) rfl hgB hB ?_
 refine A.subL (SubL.cons (t := 5) rfl (Le.refl _) (SubL.cons (t := 6) rfl (Le.refl _) (SubL.cons (t := 7) rfl (Le.refl _) (SubL.cons (t := 1000005) rfl (Le.old _ _) SubL.nil)))) ?_
 refine A.seq ?_
 refine GS ?_
 refine TL ?_
 refine RA rfl ?_
 refine RN ?_
 refine A.block ?_
 refine A.loop (ι := Nat) (fun i => i ≤ 8) (fun i => [(5, .v (.slice (some ⟨g, 0, none⟩) 15 15)), (6, away g w₀.heap.size 3 8 (bitsV 8 a)), (7, away g w₀.heap.size 3 8 (bitsV 8 b)), (8, .v (nI i)), (1000005, blk g 3 (bitsV 15 (cml a b i)))]) (fun i => 8 - i) 0 ?_ ?_ ?_
 ·exact Nat.zero_le _
 ·exact (KC 5 rfl (KC 6 rfl (KC 7 rfl (KC 8 rfl (KE 1000005 rfl (by rw [show cml a b 0 = 0 from rfl, bitsV_zero]) KN)))))
 intro i hi
 refine A.seq ?_
 refine GS ?_
 refine TL ?_
 refine RM rfl ?_
 refine RB rfl rfl rfl ?_
 refine RN ?_
 refine A.cond rfl (fun hc19 => ?_) (fun hc19 => ?_)
 ·have hi8 : i < 8 := by simp at hc19; omega
  refine A.skip ?_
  refine EN ?_
  refine A.seq ?_
  refine A.block ?_
  refine GS ?_
  refine TL ?_
  refine RA rfl ?_
  refine RN ?_
  refine A.block ?_
  refine A.loop (ι := Nat) (fun k => k ≤ 8) (fun k => [(5, .v (.slice (some ⟨g, 0, none⟩) 15 15)), (6, away g w₀.heap.size 3 8 (bitsV 8 a)), (7, away g w₀.heap.size 3 8 (bitsV 8 b)), (8, .v (nI i)), (9, .v (nI k)), (1000005, blk g 3 (bitsV 15 (cml a b i ^^^ crow a b i k)))]) (fun k => 8 - k) 0 ?_ ?_ ?_
  ·exact Nat.zero_le _
  ·exact (KC 5 rfl (KC 6 rfl (KC 7 rfl (KC 8 rfl (KC 9 rfl (KE 1000005 rfl (by rw [show crow a b i 0 = 0 from rfl, Nat.xor_zero]) KN))))))
  intro k hk
  refine A.seq ?_
  refine GS ?_
  refine TL ?_
  refine RM rfl ?_
  refine RB rfl rfl rfl ?_
  refine RN ?_
  refine A.cond rfl (fun hc23 => ?_) (fun hc23 => ?_)
  ·have hk8 : k < 8 := by simp at hc23; omega
   have hx1 := bit_le ((cml a b i ^^^ crow a b i k).testBit (i + k))
   refine A.skip ?_
   refine EN ?_
   refine A.seq ?_
   refine A.block ?_
   refine A.reg (by kernel_rfl) (by kernel_rfl) (.inr (by kernel_rfl)) ?_
   refine TD 22 ?_
   refine RM rfl ?_
   refine RM rfl ?_
   refine RM rfl ?_
   refine RBS rfl rfl rfl (nI (i + k)) (by rw [wrap_i64 (by omega) (by omega)]; first | rfl | (congr 1; omega)) ?_
   refine RM rfl ?_
   refine RM rfl ?_
   refine RM rfl ?_
   refine RBS rfl rfl rfl (nI (i + k)) (by rw [wrap_i64 (by omega) (by omega)]; first | rfl | (congr 1; omega)) ?_
   refine RS (ok_indexV (i + k) Tryz.underlying54 info3 rfl rfl rfl (by omega)) ?_
   refine RS (ok_loadV (s := 1000005) (by decide) Tryz.underlying3 rfl rfl rfl (by rw [Nat.zero_add]; exact bitsV_get (by omega))) ?_
   refine RM rfl ?_
   refine RM rfl ?_
   refine RS (ok_index (d := .v (nI ((a.testBit i).toNat))) Tryz.underlying54 info3 rfl (away_le (bitsV_length _ _).symm) rfl (by omega) (by rw [List.getElem?_map, Int.toNat_natCast, bitsV_get (by omega)]; rfl)) ?_
   refine RS (ok_load Tryz.underlying3 rfl rfl) ?_
   refine RM rfl ?_
   refine RM rfl ?_
   refine RS (ok_index (d := .v (nI ((b.testBit k).toNat))) Tryz.underlying54 info3 rfl (away_le (bitsV_length _ _).symm) rfl (by omega) (by rw [List.getElem?_map, Int.toNat_natCast, bitsV_get (by omega)]; rfl)) ?_
   refine RS (ok_load Tryz.underlying3 rfl rfl) ?_
   refine RB rfl rfl rfl ?_
   refine RB rfl rfl rfl ?_
   refine RS (ok_rem rfl rfl (by decide)) ?_; refine RZ (nI (((cml a b i ^^^ crow a b i k).testBit (i + k) ^^ (a.testBit i && b.testBit k)).toNat)) (by cases (cml a b i ^^^ crow a b i k).testBit (i + k) <;> cases a.testBit i <;> cases b.testBit k <;> rfl) ?_
   refine RS (ok_indexV (i + k) Tryz.underlying54 info3 rfl rfl rfl (by omega)) ?_
   refine RN ?_
   refine ⟨_, eff_storeS (n := 110) (s := 1000005) info3 rfl rfl rfl hBg rfl (by simp only [bitsV_length]; omega) (LV 5 rfl (LeftS.cons (t := 6) rfl (Surv.away) (LeftS.cons (t := 7) rfl (Surv.away) (LV 8 rfl (LV 9 rfl LN))))), ?_⟩
   refine TL ?_
   refine RN ?_
   refine End.sub (KC 5 rfl (KC 6 rfl (KC 7 rfl (KC 8 rfl (KC 9 rfl (KC 1000005 rfl KN)))))) ?_
   refine End.normal_block ?_
   refine EN ?_
   refine GE ?_
   refine TL ?_
   refine RM rfl ?_
   refine RBS rfl rfl rfl (nI (k + 1)) (by rw [wrap_i64 (by omega) (by omega)]; first | rfl | (congr 1; omega)) ?_
   refine RA rfl ?_
   refine RN ?_
   refine End.normal_then ?_
   refine End.again (k + 1) ?_ ?_ ?_
   ·show _ ≤ _; omega
   ·show _ - _ < _ - _; omega
   ·exact (KC 5 rfl (KC 6 rfl (KC 7 rfl (KC 8 rfl (KC 9 rfl (KE 1000005 rfl (congrArg _ (by rw [Nat.zero_add, show crow a b i (k + 1) = crow a b i k ^^^ mask (a.testBit i && b.testBit k) (2 ^ (i + k)) from rfl, ← Nat.xor_assoc]; exact bitsV_set rfl)) KN))))))
  ·obtain rfl : k = 8 := by simp at hc23; omega
   refine A.exit ?_
   refine End.exit_then ?_
   refine End.exit_then ?_
   refine End.exit_here ?_
   refine End.normal_block ?_
   refine EN ?_
   refine GE ?_
   refine TL ?_
   refine RM rfl ?_
   refine RBS rfl rfl rfl (nI (i + 1)) (by rw [wrap_i64 (by omega) (by omega)]; first | rfl | (congr 1; omega)) ?_
   refine RA rfl ?_
   refine RN ?_
   refine End.normal_then ?_
   refine End.again (i + 1) ?_ ?_ ?_
   ·show _ ≤ _; omega
   ·show _ - _ < _ - _; omega
   ·exact (KC 5 rfl (KC 6 rfl (KC 7 rfl (KC 8 rfl (KC 1000005 rfl KN)))))
 ·obtain rfl : i = 8 := by simp at hc19; omega
  refine A.exit ?_
  refine End.exit_then ?_
  refine End.exit_then ?_
  refine End.exit_here ?_
  refine EN ?_
  refine A.seq ?_
  refine GS ?_
  refine TL ?_
  refine RA rfl ?_
  refine RN ?_
  refine A.block ?_
  refine A.loop (ι := Nat) (fun m => m ≤ 7) (fun m => [(5, .v (.slice (some ⟨g, 0, none⟩) 15 15)), (10, .v (nI (14 - m))), (1000005, blk g 3 (bitsV 15 (red (cml a b 8) m)))]) (fun m => 7 - m) 0 ?_ ?_ ?_
  ·exact Nat.zero_le _
  ·exact (KC 5 rfl (KC 10 rfl (KC 1000005 rfl KN)))
  intro m hm
  refine A.seq ?_
  refine GS ?_
  refine TL ?_
  refine RM rfl ?_
  refine RB rfl rfl rfl ?_
  refine RN ?_
  refine A.cond rfl (fun hc49 => ?_) (fun hc49 => ?_)
  ·have hm7 : m < 7 := by simp at hc49; omega
   refine A.skip ?_
   refine EN ?_
   refine A.seq ?_
   refine A.block ?_
   refine GS ?_
   refine TL ?_
   refine RM rfl ?_
   refine RM rfl ?_
   refine RS (ok_indexV (14 - m) Tryz.underlying54 info3 rfl rfl rfl (by omega)) ?_
   refine RS (ok_loadV (s := 1000005) (by decide) Tryz.underlying3 rfl rfl rfl (by rw [Nat.zero_add]; exact bitsV_get (by omega))) ?_
   refine RB rfl rfl rfl ?_
   refine RN ?_
   refine A.cond rfl (fun hc56 => ?_) (fun hc56 => ?_)
   ·have hbit : (red (cml a b 8) m).testBit (14 - m) = true := by revert hc56; cases (red (cml a b 8) m).testBit (14 - m) <;> simp
    refine GS ?_
    refine TF 10 ?_
    refine RM rfl ?_
    refine RM rfl ?_
    refine RBS rfl rfl rfl (nI (14 - m - 4)) (by rw [wrap_i64 (by omega) (by omega)]; first | rfl | (congr 1; omega)) ?_
    refine RM rfl ?_
    refine RM rfl ?_
    refine RBS rfl rfl rfl (nI (14 - m - 4)) (by rw [wrap_i64 (by omega) (by omega)]; first | rfl | (congr 1; omega)) ?_
    refine RS (ok_indexV (14 - m - 4) Tryz.underlying54 info3 rfl rfl rfl (by omega)) ?_
    refine RS (ok_loadV (s := 1000005) (by decide) Tryz.underlying3 rfl rfl rfl (by rw [Nat.zero_add]; exact bitsV_get (by omega))) ?_
    refine RBS rfl rfl rfl (nI (((red (cml a b 8) m).testBit (14 - m - 4) ^^ true).toNat)) (by cases (red (cml a b 8) m).testBit (14 - m - 4) <;> rfl) ?_
    refine RS (ok_indexV (14 - m - 4) Tryz.underlying54 info3 rfl rfl rfl (by omega)) ?_
    refine RN ?_
    refine ⟨_, eff_storeS (n := 110) (s := 1000005) info3 rfl rfl rfl hBg rfl (by simp only [bitsV_length]; omega) (LV 5 rfl (LV 10 rfl LN)), ?_⟩
    refine TL ?_
    refine RN ?_
    refine A.sub (KC 5 rfl (KC 10 rfl (KE 1000005 rfl (show blk g 3 _ = blk g 3 (bitsV 15 ((red (cml a b 8) m) ^^^ mask true (2 ^ (14 - m - 4)))) from congrArg _ (by rw [Nat.zero_add]; exact bitsV_set rfl)) KN))) ?_
    refine GS ?_
    refine TF 10 ?_
    refine RM rfl ?_
    refine RM rfl ?_
    refine RBS rfl rfl rfl (nI (14 - m - 5)) (by rw [wrap_i64 (by omega) (by omega)]; first | rfl | (congr 1; omega)) ?_
    refine RM rfl ?_
    refine RM rfl ?_
    refine RBS rfl rfl rfl (nI (14 - m - 5)) (by rw [wrap_i64 (by omega) (by omega)]; first | rfl | (congr 1; omega)) ?_
    refine RS (ok_indexV (14 - m - 5) Tryz.underlying54 info3 rfl rfl rfl (by omega)) ?_
    refine RS (ok_loadV (s := 1000005) (by decide) Tryz.underlying3 rfl rfl rfl (by rw [Nat.zero_add]; exact bitsV_get (by omega))) ?_
    refine RBS rfl rfl rfl (nI ((((red (cml a b 8) m) ^^^ mask true (2 ^ (14 - m - 4))).testBit (14 - m - 5) ^^ true).toNat)) (by cases ((red (cml a b 8) m) ^^^ mask true (2 ^ (14 - m - 4))).testBit (14 - m - 5) <;> rfl) ?_
    refine RS (ok_indexV (14 - m - 5) Tryz.underlying54 info3 rfl rfl rfl (by omega)) ?_
    refine RN ?_
    refine ⟨_, eff_storeS (n := 110) (s := 1000005) info3 rfl rfl rfl hBg rfl (by simp only [bitsV_length]; omega) (LV 5 rfl (LV 10 rfl LN)), ?_⟩
    refine TL ?_
    refine RN ?_
    refine A.sub (KC 5 rfl (KC 10 rfl (KE 1000005 rfl (show blk g 3 _ = blk g 3 (bitsV 15 (((red (cml a b 8) m) ^^^ mask true (2 ^ (14 - m - 4))) ^^^ mask true (2 ^ (14 - m - 5)))) from congrArg _ (by rw [Nat.zero_add]; exact bitsV_set rfl)) KN))) ?_
    refine GS ?_
    refine TF 10 ?_
    refine RM rfl ?_
    refine RM rfl ?_
    refine RBS rfl rfl rfl (nI (14 - m - 7)) (by rw [wrap_i64 (by omega) (by omega)]; first | rfl | (congr 1; omega)) ?_
    refine RM rfl ?_
    refine RM rfl ?_
    refine RBS rfl rfl rfl (nI (14 - m - 7)) (by rw [wrap_i64 (by omega) (by omega)]; first | rfl | (congr 1; omega)) ?_
    refine RS (ok_indexV (14 - m - 7) Tryz.underlying54 info3 rfl rfl rfl (by omega)) ?_
    refine RS (ok_loadV (s := 1000005) (by decide) Tryz.underlying3 rfl rfl rfl (by rw [Nat.zero_add]; exact bitsV_get (by omega))) ?_
    refine RBS rfl rfl rfl (nI (((((red (cml a b 8) m) ^^^ mask true (2 ^ (14 - m - 4))) ^^^ mask true (2 ^ (14 - m - 5))).testBit (14 - m - 7) ^^ true).toNat)) (by cases (((red (cml a b 8) m) ^^^ mask true (2 ^ (14 - m - 4))) ^^^ mask true (2 ^ (14 - m - 5))).testBit (14 - m - 7) <;> rfl) ?_
    refine RS (ok_indexV (14 - m - 7) Tryz.underlying54 info3 rfl rfl rfl (by omega)) ?_
    refine RN ?_
    refine ⟨_, eff_storeS (n := 110) (s := 1000005) info3 rfl rfl rfl hBg rfl (by simp only [bitsV_length]; omega) (LV 5 rfl (LV 10 rfl LN)), ?_⟩
    refine TL ?_
    refine RN ?_
    refine A.sub (KC 5 rfl (KC 10 rfl (KE 1000005 rfl (show blk g 3 _ = blk g 3 (bitsV 15 ((((red (cml a b 8) m) ^^^ mask true (2 ^ (14 - m - 4))) ^^^ mask true (2 ^ (14 - m - 5))) ^^^ mask true (2 ^ (14 - m - 7)))) from congrArg _ (by rw [Nat.zero_add]; exact bitsV_set rfl)) KN))) ?_
    refine GE ?_
    refine TF 10 ?_
    refine RM rfl ?_
    refine RM rfl ?_
    refine RBS rfl rfl rfl (nI (14 - m - 8)) (by rw [wrap_i64 (by omega) (by omega)]; first | rfl | (congr 1; omega)) ?_
    refine RM rfl ?_
    refine RM rfl ?_
    refine RBS rfl rfl rfl (nI (14 - m - 8)) (by rw [wrap_i64 (by omega) (by omega)]; first | rfl | (congr 1; omega)) ?_
    refine RS (ok_indexV (14 - m - 8) Tryz.underlying54 info3 rfl rfl rfl (by omega)) ?_
    refine RS (ok_loadV (s := 1000005) (by decide) Tryz.underlying3 rfl rfl rfl (by rw [Nat.zero_add]; exact bitsV_get (by omega))) ?_
    refine RBS rfl rfl rfl (nI ((((((red (cml a b 8) m) ^^^ mask true (2 ^ (14 - m - 4))) ^^^ mask true (2 ^ (14 - m - 5))) ^^^ mask true (2 ^ (14 - m - 7))).testBit (14 - m - 8) ^^ true).toNat)) (by cases ((((red (cml a b 8) m) ^^^ mask true (2 ^ (14 - m - 4))) ^^^ mask true (2 ^ (14 - m - 5))) ^^^ mask true (2 ^ (14 - m - 7))).testBit (14 - m - 8) <;> rfl) ?_
    refine RS (ok_indexV (14 - m - 8) Tryz.underlying54 info3 rfl rfl rfl (by omega)) ?_
    refine RN ?_
    refine ⟨_, eff_storeS (n := 110) (s := 1000005) info3 rfl rfl rfl hBg rfl (by simp only [bitsV_length]; omega) (LV 5 rfl (LV 10 rfl LN)), ?_⟩
    refine TL ?_
    refine RN ?_
    refine End.sub (KC 5 rfl (KC 10 rfl (KE 1000005 rfl (show blk g 3 _ = blk g 3 (bitsV 15 (((((red (cml a b 8) m) ^^^ mask true (2 ^ (14 - m - 4))) ^^^ mask true (2 ^ (14 - m - 5))) ^^^ mask true (2 ^ (14 - m - 7))) ^^^ mask true (2 ^ (14 - m - 8)))) from congrArg _ (by rw [Nat.zero_add]; exact bitsV_set rfl)) KN))) ?_
    refine End.normal_block ?_
    refine EN ?_
    refine GE ?_
    refine TL ?_
    refine RM rfl ?_
    refine RBS rfl rfl rfl (nI (14 - (m + 1))) (by rw [wrap_i64 (by omega) (by omega)]; first | rfl | (congr 1; omega)) ?_
    refine RA rfl ?_
    refine RN ?_
    refine End.normal_then ?_
    refine End.again (m + 1) ?_ ?_ ?_
    ·show _ ≤ _; omega
    ·show _ - _ < _ - _; omega
    ·exact (KC 5 rfl (KC 10 rfl (KE 1000005 rfl (congrArg _ (congrArg _ (by first | exact red_yes hbit | exact red_no hbit))) KN)))
   ·have hbit : (red (cml a b 8) m).testBit (14 - m) = false := by revert hc56; cases (red (cml a b 8) m).testBit (14 - m) <;> simp
    refine A.skip ?_
    refine End.normal_block ?_
    refine EN ?_
    refine GE ?_
    refine TL ?_
    refine RM rfl ?_
    refine RBS rfl rfl rfl (nI (14 - (m + 1))) (by rw [wrap_i64 (by omega) (by omega)]; first | rfl | (congr 1; omega)) ?_
    refine RA rfl ?_
    refine RN ?_
    refine End.normal_then ?_
    refine End.again (m + 1) ?_ ?_ ?_
    ·show _ ≤ _; omega
    ·show _ - _ < _ - _; omega
    ·exact (KC 5 rfl (KC 10 rfl (KE 1000005 rfl (congrArg _ (congrArg _ (by first | exact red_yes hbit | exact red_no hbit))) KN)))
  ·obtain rfl : m = 7 := by simp at hc49; omega
   refine A.exit ?_
   refine End.exit_then ?_
   refine End.exit_then ?_
   refine End.exit_here ?_
   refine EN ?_
   refine GS ?_
   refine TL ?_
   refine RA rfl ?_
   refine RN ?_
   refine A.seq ?_
   refine GS ?_
   refine TL ?_
   refine RA rfl ?_
   refine RN ?_
   refine A.block ?_
   refine A.loop (ι := Nat) (fun m => m ≤ 8) (fun m => [(5, .v (.slice (some ⟨g, 0, none⟩) 15 15)), (11, .v (nI ((red (cml a b 8) 7) % 256 / 2 ^ m))), (12, .v (.int .i64 ((m : Int) - 1))), (1000005, blk g 3 (bitsV 15 (red (cml a b 8) 7)))]) (fun m => m) 8 ?_ ?_ ?_
   ·exact Nat.le_refl _
   ·exact (KC 5 rfl (KE 11 rfl (congrArg (fun z : Int => D.v (.int .i64 z)) (show (0 : Int) = _ by omega)) (KC 12 rfl (KC 1000005 rfl KN))))
   intro m hm
   refine A.seq ?_
   refine GS ?_
   refine TL ?_
   refine RM rfl ?_
   refine RB rfl rfl rfl ?_
   refine RN ?_
   refine A.cond rfl (fun hc98 => ?_) (fun hc98 => ?_)
   ·obtain ⟨k, rfl⟩ : ∃ k, m = k + 1 := ⟨m - 1, by simp at hc98; omega⟩
    have hx1 := bit_le ((red (cml a b 8) 7).testBit k)
    have hx2 : (red (cml a b 8) 7) % 256 / 2 ^ (k + 1) ≤ 255 := Nat.le_trans (Nat.div_le_self _ _) (by omega)
    have hx3 : (0 : Int) ≤ (((red (cml a b 8) 7) % 256 / 2 ^ (k + 1) : Nat) : Int) := Int.natCast_nonneg _
    refine A.skip ?_
    refine EN ?_
    refine A.seq ?_
    refine A.block ?_
    refine GE ?_
    refine TL ?_
    refine RM rfl ?_
    refine RBS rfl rfl rfl (nI (2 * (red (cml a b 8) 7 % 256 / 2 ^ (k + 1)))) (by rw [wrap_i64 (by omega) (by omega)]; first | rfl | (congr 1; omega)) ?_
    refine RM rfl ?_
    refine RM rfl ?_; refine RZ (nI k) (by congr 1; omega) ?_
    refine RS (ok_indexV (k) Tryz.underlying54 info3 rfl rfl rfl (by omega)) ?_
    refine RS (ok_loadV (s := 1000005) (by decide) Tryz.underlying3 rfl rfl rfl (by rw [Nat.zero_add]; exact bitsV_get (by omega))) ?_
    refine RBS rfl rfl rfl (nI (red (cml a b 8) 7 % 256 / 2 ^ k)) (by rw [← out_step _ (show k < 8 by omega), wrap_i64 (by omega) (by omega)]; first | rfl | (congr 1; omega)) ?_
    refine RA rfl ?_
    refine RN ?_
    refine End.normal_block ?_
    refine EN ?_
    refine GE ?_
    refine TL ?_
    refine RM rfl ?_
    refine RBS rfl rfl rfl (.int .i64 ((k : Int) - 1)) (by rw [wrap_i64 (by omega) (by omega)]; congr 1; omega) ?_
    refine RA rfl ?_
    refine RN ?_
    refine End.normal_then ?_
    refine End.again k ?_ ?_ ?_
    ·show _ ≤ _; omega
    ·exact Nat.lt_succ_self _
    ·exact (KC 5 rfl (KC 11 rfl (KC 12 rfl (KC 1000005 rfl KN))))
   ·obtain rfl : m = 0 := by simp at hc98; omega
    refine A.exit ?_
    refine End.exit_then ?_
    refine End.exit_then ?_
    refine End.exit_here ?_
    refine EN ?_
    refine GS ?_
    refine TL ?_
    refine RM rfl ?_
    refine RS (ok_conv Tryz.underlying3 Tryz.underlying5 rfl) ?_; refine RZ (nB (gm a b)) (by rw [Nat.pow_zero, Nat.div_one, wrapN_u8 (Nat.mod_lt _ (by decide))]; exact congrArg (fun z : Nat => Value.int .u8 (z : Int)) (refm_eq ha hb)) ?_
    refine RA rfl ?_
    refine RN ?_
    refine A.ret ?_
    exact End.ret1 rfl rfl (by first | exact Le.refl _ | exact Le.old _ _)
set_option maxHeartbeats 1000000 in
theorem refSubst_fn (v : Nat) (hv : v < 256) : Fn Tryz.prog 108 [.v (nB v)] (.v (nB (subst8 v))) := by
 refine Fn.of Tryz.func108 rfl (by kernel_rfl) Tryz.ntmps108 (by simp) (fun w => [(0, .v (nB v))]) (fun w => (Start.v rfl Start.nil)) fun w₀ => ?_
 refine GS ?_
 refine TL ?_
 refine RA rfl ?_
 refine RN ?_
 refine GS ?_
 refine TL ?_
 refine RA rfl ?_
 refine RN ?_
 refine A.seq ?_
 refine GS ?_
 refine TL ?_
 refine RA rfl ?_
 refine RN ?_
 refine A.block ?_
 refine A.loop (ι := Nat) (fun c => c ≤ 8) (fun c => [(0, .v (nB v)), (3, .v (nI (sout v c))), (4, .v (.int .i64 (7 - (c : Int))))]) (fun c => 8 - c) 0 ?_ ?_ ?_
 ·exact Nat.zero_le _
 ·exact (KC 0 rfl (KC 3 rfl (KC 4 rfl KN)))
 intro c hc
 refine A.seq ?_
 refine GS ?_
 refine TL ?_
 refine RM rfl ?_
 refine RB rfl rfl rfl ?_
 refine RN ?_
 refine A.cond rfl (fun hc8 => ?_) (fun hc8 => ?_)
 ·have hc8' : c < 8 := by simp at hc8; omega
  have hs1 : sout v c < 256 := Nat.lt_of_lt_of_le (sout_lt v c) (show 2 ^ c ≤ 2 ^ 8 from Nat.pow_le_pow_right (by decide) (by omega))
  refine A.skip ?_
  refine EN ?_
  refine A.seq ?_
  refine A.block ?_
  refine GS ?_
  refine TL ?_
  refine RM rfl ?_; refine RZ (nI (7 - c)) (by congr 1; omega) ?_
  refine RS (ok_shr rfl rfl (by omega)) ?_; refine RZ (nI (ssum v (7 - c) 0)) (by rw [Int.toNat_natCast, show min (7 - c) IntKind.i64.bits = 7 - c from by simp only [IntKind.bits]; omega]; exact congrArg _ (shr_nat 99 _)) ?_
  refine RA rfl ?_
  refine RN ?_
  refine A.seq ?_
  refine GS ?_
  refine TL ?_
  refine RA rfl ?_
  refine RN ?_
  refine A.block ?_
  refine A.loop (ι := Nat) (fun e => e ≤ 5) (fun e => [(0, .v (nB v)), (3, .v (nI (sout v c))), (4, .v (.int .i64 (7 - (c : Int)))), (5, .v (nI (ssum v (7 - c) e))), (6, .v (nI (4 + e)))]) (fun e => 5 - e) 0 ?_ ?_ ?_
  ·exact Nat.zero_le _
  ·exact (KC 0 rfl (KC 3 rfl (KC 4 rfl (KC 5 rfl (KC 6 rfl KN)))))
  intro e he
  refine A.seq ?_
  refine GS ?_
  refine TL ?_
  refine RM rfl ?_
  refine RB rfl rfl rfl ?_
  refine RN ?_
  refine A.cond rfl (fun hc14 => ?_) (fun hc14 => ?_)
  ·have he5 : e < 5 := by simp at hc14; omega
   have hs2 := ssum_le hv (7 - c) e
   have hs3 := Nat.div_le_self v (2 ^ ((7 - c + (4 + e)) % 8))
   refine A.skip ?_
   refine EN ?_
   refine A.seq ?_
   refine A.block ?_
   refine GE ?_
   refine TL ?_
   refine RM rfl ?_
   refine RM rfl ?_
   refine RS (ok_conv Tryz.underlying5 Tryz.underlying3 rfl) ?_; refine RZ (nI v) (by rw [wrapN_i64 (by omega)]) ?_
   refine RM rfl ?_; refine RZ (nI (7 - c)) (by congr 1; omega) ?_
   refine RM rfl ?_
   refine RBS rfl rfl rfl (nI (7 - c + (4 + e))) (by rw [wrap_i64 (by omega) (by omega)]; first | rfl | (congr 1; omega)) ?_
   refine RS (ok_rem rfl rfl (by decide)) ?_; refine RZ (nI ((7 - c + (4 + e)) % 8)) (by rw [tmod_lit _ (by decide)]; rfl) ?_
   refine RS (ok_shr rfl rfl (by omega)) ?_; refine RZ (nI (v / 2 ^ ((7 - c + (4 + e)) % 8))) (by rw [Int.toNat_natCast, show min ((7 - c + (4 + e)) % 8) IntKind.i64.bits = (7 - c + (4 + e)) % 8 from by simp only [IntKind.bits]; omega]; exact congrArg _ (shr_nat _ _)) ?_
   refine RBS rfl rfl rfl (nI (ssum v (7 - c) (e + 1))) (by rw [← Int.natCast_add, wrapN_i64 (by omega)]; rfl) ?_
   refine RA rfl ?_
   refine RN ?_
   refine End.normal_block ?_
   refine EN ?_
   refine GE ?_
   refine TL ?_
   refine RM rfl ?_
   refine RBS rfl rfl rfl (nI (4 + (e + 1))) (by rw [wrap_i64 (by omega) (by omega)]; first | rfl | (congr 1; omega)) ?_
   refine RA rfl ?_
   refine RN ?_
   refine End.normal_then ?_
   refine End.again (e + 1) ?_ ?_ ?_
   ·show _ ≤ _; omega
   ·show _ - _ < _ - _; omega
   ·exact (KC 0 rfl (KC 3 rfl (KC 4 rfl (KC 5 rfl (KC 6 rfl KN)))))
  ·obtain rfl : e = 5 := by simp at hc14; omega
   refine A.exit ?_
   refine End.exit_then ?_
   refine End.exit_then ?_
   refine End.exit_here ?_
   refine EN ?_
   refine GE ?_
   refine TL ?_
   refine RM rfl ?_
   refine RBS rfl rfl rfl (nI (2 * sout v c)) (by rw [wrap_i64 (by omega) (by omega)]; first | rfl | (congr 1; omega)) ?_
   refine RM rfl ?_
   refine RS (ok_rem rfl rfl (by decide)) ?_; refine RZ (nI (ssum v (7 - c) 5 % 2)) (by rw [tmod_lit _ (by decide)]; rfl) ?_
   refine RBS rfl rfl rfl (nI (sout v (c + 1))) (by rw [← Int.natCast_add, wrapN_i64 (by omega)]; rfl) ?_
   refine RA rfl ?_
   refine RN ?_
   refine End.normal_block ?_
   refine EN ?_
   refine GE ?_
   refine TL ?_
   refine RM rfl ?_
   refine RBS rfl rfl rfl (.int .i64 (7 - ((c + 1 : Nat) : Int))) (by rw [wrap_i64 (by omega) (by omega)]; congr 1; omega) ?_
   refine RA rfl ?_
   refine RN ?_
   refine End.normal_then ?_
   refine End.again (c + 1) ?_ ?_ ?_
   ·show _ ≤ _; omega
   ·show _ - _ < _ - _; omega
   ·exact (KC 0 rfl (KC 3 rfl (KC 4 rfl KN)))
 ·obtain rfl : c = 8 := by simp at hc8; omega
  refine A.exit ?_
  refine End.exit_then ?_
  refine End.exit_then ?_
  refine End.exit_here ?_
  refine EN ?_
  refine GS ?_
  refine TL ?_
  refine RM rfl ?_
  refine RS (ok_conv Tryz.underlying3 Tryz.underlying5 rfl) ?_; refine RZ (nB (subst8 v)) (by rw [wrapN_u8 (sout_lt v 8)]; rfl) ?_
  refine RA rfl ?_
  refine RN ?_
  refine A.ret ?_
  exact End.ret1 rfl rfl (by first | exact Le.refl _ | exact Le.old _ _)
set_option maxHeartbeats 2000000 in
theorem refTable_fn  : Fn Tryz.prog 104 [] (.v (aggV subV)) := by
 refine Fn.of Tryz.func104 rfl (by kernel_rfl) Tryz.ntmps104 (by simp) (fun w => []) (fun w => Start.nil) fun w₀ => ?_
 refine GS ?_
 refine TN 0 ?_
 refine RN ?_
 refine ⟨_, _, eff_alloc (n := 46) (d := 0) (k := 1000000) zero156 (by decide), fun b0 hb0 => ?_⟩
 have hBb0 := hb0.1
 refine TL ?_
 refine RN ?_
 refine GS ?_
 refine TN 0 ?_
 refine RN ?_
 refine ⟨_, _, eff_alloc (n := 46) (d := 1) (k := 1000001) zero156 (by decide), fun b1 hb1 => ?_⟩
 have hBb1 := hb1.1
 have hlt_b0_b1 : b0 < b1 := hb1.2 1000000 _ _ _ rfl
 refine TL ?_
 refine RN ?_
 refine GS ?_
 refine TN 0 ?_
 refine RN ?_
 refine ⟨_, _, eff_alloc (n := 46) (d := 2) (k := 1000002) zero156 (by decide), fun b2 hb2 => ?_⟩
 have hBb2 := hb2.1
 have hlt_b0_b2 : b0 < b2 := hb2.2 1000000 _ _ _ rfl
 have hlt_b1_b2 : b1 < b2 := hb2.2 1000001 _ _ _ rfl
 refine TL ?_
 refine RN ?_
 refine GS ?_
 refine TF 1 ?_
 refine RS (ok_index0 (0) Tryz.underlying156 info5 rfl rfl (rfl) (by decide)) ?_
 refine RN ?_
 refine ⟨_, eff_storeS (n := 46) (s := 1000002) info5 rfl rfl rfl hBb2 rfl (by first | (rw [pwV_length]; omega) | (rw [List.length_replicate]; decide)) (LV 0 rfl (LV 1 rfl (LV 2 rfl (LB 1000000 rfl (LB 1000001 rfl LN))))), ?_⟩
 refine TL ?_
 refine RN ?_
 refine A.seq ?_
 refine GS ?_
 refine TL ?_
 refine RA rfl ?_
 refine RN ?_
 refine A.block ?_
 refine A.loop (ι := Nat) (fun q => q ≤ 255) (fun q => [(0, .v (.pointer (some ⟨b0, 0, none⟩))), (1, .v (.pointer (some ⟨b1, 0, none⟩))), (2, .v (.pointer (some ⟨b2, 0, none⟩))), (3, .v (nI (q + 1))), (1000000, blk b0 156 (List.replicate 256 (.int .u8 0))), (1000001, blk b1 156 (List.replicate 256 (.int .u8 0))), (1000002, blk b2 156 (pwV (q + 1)))]) (fun q => 255 - q) 0 ?_ ?_ ?_
 ·exact Nat.zero_le _
 ·exact (KC 0 rfl (KC 1 rfl (KC 2 rfl (KC 3 rfl (KC 1000000 rfl (KC 1000001 rfl (KE 1000002 rfl (congrArg _ pwV_one) KN)))))))
 intro q hq
 refine A.seq ?_
 refine GS ?_
 refine TL ?_
 refine RM rfl ?_
 refine RB rfl rfl rfl ?_
 refine RN ?_
 refine A.cond rfl (fun hc8 => ?_) (fun hc8 => ?_)
 ·have hlt : q < 255 := by simp at hc8; omega
  have hx := gpow_lt (a := 3) q
  refine A.skip ?_
  refine EN ?_
  refine A.seq ?_
  refine A.block ?_
  refine GS ?_
  refine TL ?_
  refine RM rfl ?_
  refine RBS rfl rfl rfl (nI q) (by rw [wrap_i64 (by omega) (by omega)]; exact congrArg (Value.int .i64) (by omega)) ?_
  refine RS (ok_index0 (q) Tryz.underlying156 info5 rfl rfl (rfl) (by omega)) ?_
  refine RS (ok_loadV (s := 1000002) (by decide) Tryz.underlying5 rfl rfl rfl (pwV_get (by omega) (by omega))) ?_
  refine RS (ok_conv Tryz.underlying5 Tryz.underlying3 rfl) ?_; refine RZ (nI (gpow 3 q)) (by rw [wrapN_i64 (by omega)]) ?_
  refine RBS rfl rfl rfl (nI (2 * (gpow 3 q))) (by rw [wrap_i64 (by omega) (by omega)]; first | rfl | (congr 1; omega)) ?_
  refine RA rfl ?_
  refine RN ?_
  refine A.seq ?_
  refine GS ?_
  refine TL ?_
  refine RM rfl ?_
  refine RB rfl rfl rfl ?_
  refine RN ?_
  refine A.cond rfl (fun hc18 => ?_) (fun hc18 => ?_)
  ·have hbr : (if 255 < 2 * gpow 3 q then (2 * gpow 3 q) ^^^ 283 else 2 * gpow 3 q) = (2 * gpow 3 q) ^^^ 283 := if_pos (by simp at hc18; omega)
   refine GE ?_
   refine TL ?_
   refine RM rfl ?_
   refine RBS rfl rfl rfl (nI ((2 * gpow 3 q) ^^^ 283)) (by rw [show IntKind.i64.bits = 64 from rfl, show (283 : Int) = ((283 : Nat) : Int) from rfl, xor_i64N (by omega) (by decide)]) ?_
   refine RA rfl ?_
   refine RN ?_
   refine EN ?_
   refine GE ?_
   refine TF 9 ?_
   refine RM rfl ?_
   refine RM rfl ?_
   refine RS (ok_conv Tryz.underlying3 Tryz.underlying5 rfl) ?_; refine RZ (nB ((if 255 < 2 * gpow 3 q then (2 * gpow 3 q) ^^^ 283 else 2 * gpow 3 q) % 256)) (by rw [hbr, wrap_u8N]) ?_
   refine RM rfl ?_
   refine RBS rfl rfl rfl (nI q) (by rw [wrap_i64 (by omega) (by omega)]; exact congrArg (Value.int .i64) (by omega)) ?_
   refine RS (ok_index0 (q) Tryz.underlying156 info5 rfl rfl (rfl) (by omega)) ?_
   refine RS (ok_loadV (s := 1000002) (by decide) Tryz.underlying5 rfl rfl rfl (pwV_get (by omega) (by omega))) ?_
   refine RBS rfl rfl rfl (nB (gpow 3 (q + 1))) (by rw [show IntKind.u8.bits = 8 from rfl, xor_u8N (Nat.mod_lt _ (by decide)) (gpow_lt _), pow3_step (gpow_lt _)]; rfl) ?_
   refine RS (ok_index0 (q + 1) Tryz.underlying156 info5 rfl rfl (rfl) (by omega)) ?_
   refine RN ?_
   refine ⟨_, eff_storeS (n := 46) (s := 1000002) info5 rfl rfl rfl hBb2 rfl (by first | (rw [pwV_length]; omega) | (rw [List.length_replicate]; decide)) (LV 0 rfl (LV 1 rfl (LV 2 rfl (LV 3 rfl (LB 1000000 rfl (LB 1000001 rfl LN)))))), ?_⟩
   refine TL ?_
   refine RN ?_
   refine End.normal_block ?_
   refine EN ?_
   refine GE ?_
   refine TL ?_
   refine RM rfl ?_
   refine RBS rfl rfl rfl (nI (q + 1 + 1)) (by rw [wrap_i64 (by omega) (by omega)]; exact congrArg (Value.int .i64) (by omega)) ?_
   refine RA rfl ?_
   refine RN ?_
   refine End.sub (KC 0 rfl (KC 1 rfl (KC 2 rfl (KC 3 rfl (KC 1000000 rfl (KC 1000001 rfl (KC 1000002 rfl KN))))))) ?_
   refine End.normal_then ?_
   refine End.again (q + 1) ?_ ?_ ?_
   ·show _ ≤ _; omega
   ·show _ - _ < _ - _; omega
   ·exact (KC 0 rfl (KC 1 rfl (KC 2 rfl (KC 3 rfl (KC 1000000 rfl (KC 1000001 rfl (KE 1000002 rfl (congrArg _ (pwV_set (q + 1))) KN)))))))
  ·have hbr : (if 255 < 2 * gpow 3 q then (2 * gpow 3 q) ^^^ 283 else 2 * gpow 3 q) = 2 * gpow 3 q := if_neg (by simp at hc18; omega)
   refine A.skip ?_
   refine EN ?_
   refine GE ?_
   refine TF 9 ?_
   refine RM rfl ?_
   refine RM rfl ?_
   refine RS (ok_conv Tryz.underlying3 Tryz.underlying5 rfl) ?_; refine RZ (nB ((if 255 < 2 * gpow 3 q then (2 * gpow 3 q) ^^^ 283 else 2 * gpow 3 q) % 256)) (by rw [hbr, wrap_u8N]) ?_
   refine RM rfl ?_
   refine RBS rfl rfl rfl (nI q) (by rw [wrap_i64 (by omega) (by omega)]; exact congrArg (Value.int .i64) (by omega)) ?_
   refine RS (ok_index0 (q) Tryz.underlying156 info5 rfl rfl (rfl) (by omega)) ?_
   refine RS (ok_loadV (s := 1000002) (by decide) Tryz.underlying5 rfl rfl rfl (pwV_get (by omega) (by omega))) ?_
   refine RBS rfl rfl rfl (nB (gpow 3 (q + 1))) (by rw [show IntKind.u8.bits = 8 from rfl, xor_u8N (Nat.mod_lt _ (by decide)) (gpow_lt _), pow3_step (gpow_lt _)]; rfl) ?_
   refine RS (ok_index0 (q + 1) Tryz.underlying156 info5 rfl rfl (rfl) (by omega)) ?_
   refine RN ?_
   refine ⟨_, eff_storeS (n := 46) (s := 1000002) info5 rfl rfl rfl hBb2 rfl (by first | (rw [pwV_length]; omega) | (rw [List.length_replicate]; decide)) (LV 0 rfl (LV 1 rfl (LV 2 rfl (LV 3 rfl (LB 1000000 rfl (LB 1000001 rfl LN)))))), ?_⟩
   refine TL ?_
   refine RN ?_
   refine End.normal_block ?_
   refine EN ?_
   refine GE ?_
   refine TL ?_
   refine RM rfl ?_
   refine RBS rfl rfl rfl (nI (q + 1 + 1)) (by rw [wrap_i64 (by omega) (by omega)]; exact congrArg (Value.int .i64) (by omega)) ?_
   refine RA rfl ?_
   refine RN ?_
   refine End.normal_then ?_
   refine End.again (q + 1) ?_ ?_ ?_
   ·show _ ≤ _; omega
   ·show _ - _ < _ - _; omega
   ·exact (KC 0 rfl (KC 1 rfl (KC 2 rfl (KC 3 rfl (KC 1000000 rfl (KC 1000001 rfl (KE 1000002 rfl (congrArg _ (pwV_set (q + 1))) KN)))))))
 ·obtain rfl : q = 255 := by simp at hc8; omega
  refine A.exit ?_
  refine End.exit_then ?_
  refine End.exit_then ?_
  refine End.exit_here ?_
  refine EN ?_
  refine A.seq ?_
  refine GS ?_
  refine TL ?_
  refine RA rfl ?_
  refine RN ?_
  refine A.block ?_
  refine A.loop (ι := Nat) (fun k => k ≤ 255) (fun k => [(0, .v (.pointer (some ⟨b0, 0, none⟩))), (1, .v (.pointer (some ⟨b1, 0, none⟩))), (2, .v (.pointer (some ⟨b2, 0, none⟩))), (5, .v (nI k)), (1000000, blk b0 156 (List.replicate 256 (.int .u8 0))), (1000001, blk b1 156 (stV5 k)), (1000002, blk b2 156 (pwV 256))]) (fun k => 255 - k) 0 ?_ ?_ ?_
  ·exact Nat.zero_le _
  ·exact (KC 0 rfl (KC 1 rfl (KC 2 rfl (KC 5 rfl (KC 1000000 rfl (KE 1000001 rfl (congrArg _ stV_zero) (KC 1000002 rfl KN)))))))
  intro k hk
  refine A.seq ?_
  refine GS ?_
  refine TL ?_
  refine RM rfl ?_
  refine RB rfl rfl rfl ?_
  refine RN ?_
  refine A.cond rfl (fun hc31 => ?_) (fun hc31 => ?_)
  ·have hlt : k < 255 := by simp at hc31; omega
   refine A.skip ?_
   refine EN ?_
   refine A.seq ?_
   refine A.block ?_
   refine A.reg (by kernel_rfl) (by kernel_rfl) (.inr (by kernel_rfl)) ?_
   refine TD 9 ?_
   refine RM rfl ?_
   refine RS (ok_index0 (k) Tryz.underlying156 info5 rfl rfl (rfl) (by omega)) ?_
   refine RS (ok_loadV (s := 1000002) (by decide) Tryz.underlying5 rfl rfl rfl (pwV_get (by omega) (by omega))) ?_
   refine RM rfl ?_
   refine RBS rfl rfl rfl (nI (255 - k)) (by rw [wrap_i64 (by omega) (by omega)]; exact congrArg (Value.int .i64) (by omega)) ?_
   refine RS (ok_index0 (255 - k) Tryz.underlying156 info5 rfl rfl (rfl) (by omega)) ?_
   refine RS (ok_loadV (s := 1000002) (by decide) Tryz.underlying5 rfl rfl rfl (pwV_get (by omega) (by omega))) ?_
   refine RS (ok_call (refSubst_fn (gpow 3 (255 - k)) (gpow_lt _)) (Args.cons rfl LA Args.nil)) ?_
   refine RS (ok_index0 (gpow 3 k) Tryz.underlying156 info5 rfl rfl (rfl) (gpow_lt _)) ?_
   refine RN ?_
   refine ⟨_, eff_storeS (n := 46) (s := 1000001) info5 rfl rfl rfl hBb1 rfl (by rw [stV_length]; first | exact gpow_lt _ | decide) (LV 0 rfl (LV 1 rfl (LV 2 rfl (LV 5 rfl (LB 1000000 rfl (LB 1000002 rfl LN)))))), ?_⟩
   refine TL ?_
   refine RN ?_
   refine End.normal_block ?_
   refine EN ?_
   refine GE ?_
   refine TL ?_
   refine RM rfl ?_
   refine RBS rfl rfl rfl (nI (k + 1)) (by rw [wrap_i64 (by omega) (by omega)]; exact congrArg (Value.int .i64) (by omega)) ?_
   refine RA rfl ?_
   refine RN ?_
   refine End.normal_then ?_
   refine End.again (k + 1) ?_ ?_ ?_
   ·show _ ≤ _; omega
   ·show _ - _ < _ - _; omega
   ·exact (KC 0 rfl (KC 1 rfl (KC 2 rfl (KC 5 rfl (KC 1000000 rfl (KE 1000001 rfl (congrArg _ (stV_set hlt)) (KC 1000002 rfl KN)))))))
  ·obtain rfl : k = 255 := by simp at hc31; omega
   refine A.exit ?_
   refine End.exit_then ?_
   refine End.exit_then ?_
   refine End.exit_here ?_
   refine EN ?_
   refine GS ?_
   refine TF 2 ?_
   refine RS (ok_call (refSubst_fn 0 (by decide)) (Args.cons rfl LA Args.nil)) ?_
   refine RS (ok_index0 (0) Tryz.underlying156 info5 rfl rfl (rfl) (by decide)) ?_
   refine RN ?_
   refine ⟨_, eff_storeS (n := 46) (s := 1000001) info5 rfl rfl rfl hBb1 rfl (by rw [stV_length]; first | exact gpow_lt _ | decide) (LV 0 rfl (LV 1 rfl (LB 1000000 rfl (LB 1000002 rfl LN)))), ?_⟩
   refine TL ?_
   refine RN ?_
   refine GS ?_
   refine TF 1 ?_
   refine RS (ok_loadA (s := 1000001) (by decide) Tryz.underlying156 rfl (size156.of (by rw [List.length_set, stV_length])) rfl rfl) ?_
   refine RN ?_
   refine ⟨_, eff_storeA (n := 46) (s := 1000000) (size156.of (by rw [List.length_set, stV_length])) rfl rfl (by rw [stV_full]; exact subV_one) hBb0 rfl (by rw [List.length_set, stV_length, List.length_replicate]) (LV 0 rfl (LB 1000001 rfl (LB 1000002 rfl LN))), ?_⟩
   refine TL ?_
   refine RN ?_
   refine A.ret ?_
   exact End.cell1 (s := 1000000) rfl Tryz.underlying156 rfl (size156.of (by rw [List.length_set, stV_length])) rfl rfl (Le.v (congrArg aggV stV_full))
end Go.Proofs.YthadcgkcgpinhaaGreatDoor
