/-
  OWN WORDS: rows of structs of two cells: own rows, their elements, one more; new variables in drawn regions, told by facts. Nothing of one program stands here.
-/
import Derived.Test.YtdnblilocdddpaaKeep
import Derived.Test.YtdnblilocdddpaaChain
namespace Go.Proofs.Ytdnblilocdddpaa
open Go Go.RowKit
variable {κ : Cx}
def ownP (base : Nat) (e : TypeId) (sz n : Nat) (xs : List Value) : D :=
  .p (fun B w x => w.ownsRow base e sz x n xs ∧ ∀ g, x.ownBlock = some g → g < B)
    (fun B w w' x g ⟨h1, h2⟩ => ⟨by
      obtain ⟨h3, h4⟩ := h1
      refine ⟨h3, h4.imp id ?_⟩
      rintro ⟨k, cap, cur, rfl, hk, hh, hr⟩
      exact ⟨k, cap, cur, rfl, hk, (g.block k (h2 k (by simp [Value.ownBlock]))).trans hh, hr⟩, h2⟩)
    (fun _ _ _ _ g ⟨h1, h2⟩ => ⟨h1, fun k hk => Nat.lt_of_lt_of_le (h2 k hk) g⟩)
theorem ownP_nil {B sz : Nat} {e : TypeId} : Le (.v (.slice none 0 0)) (ownP B e sz 0 []) := fun _ _ _ h => by
  have h : _ = _ := h
  subst h
  exact ⟨⟨by simp, .inl ⟨rfl, rfl⟩⟩, fun g hg => by simp [Value.ownBlock] at hg⟩
theorem Surv.ownP {B T g base sz n : Nat} {e : TypeId} {xs : List Value} (h : e ≠ T) : Surv B T g (Go.Proofs.Ytdnblilocdddpaa.ownP base e sz n xs) := fun w w' x k ⟨h1, h2⟩ => by
  obtain ⟨h3, h4⟩ := h1
  refine ⟨⟨h3, h4.imp id ?_⟩, fun j hj => Nat.lt_of_lt_of_le (h2 j hj) k.size⟩
  rintro ⟨j, cap, cur, rfl, hj, hh, hr⟩
  refine ⟨j, cap, cur, rfl, hj, ?_, hr⟩
  by_cases hjg : j = g
  · subst hjg; exact absurd (k.row _ _ _ hh) h
  · rw [k.other j (h2 j (by simp [Value.ownBlock])) hjg]; exact hh
def InfoP (P : Program) (e : TypeId) (z : Value) (sz nb : Nat) : Prop := (P.info? e).map (fun i => (i.zero, i.size, i.bytes)) = some (some z, sz, nb)
theorem InfoP.get {P : Program} {e : TypeId} {z : Value} {sz nb : Nat} (h : InfoP P e z sz nb) : ∃ i, P.info? e = some i ∧ i.zero = some z ∧ i.size = sz ∧ i.bytes = nb := by
  unfold InfoP at h
  cases hi : P.info? e with
  | none => rw [hi] at h; cases h
  | some i =>
    rw [hi] at h
    simp only [Option.map_some, Option.some.injEq, Prod.mk.injEq] at h
    exact ⟨i, rfl, h.1, h.2.1, h.2.2⟩
/-- The cells at an address. -/
def elemP (us : List Value) : D :=
  .p (fun B w x => ∃ ad : Addr, x = .pointer (some ad) ∧ ad.block < B ∧ ∀ (j : Nat) (u : Value), us[j]? = some u → w.cell? (ad.add j) = some u)
    (fun _ _ _ _ g ⟨ad, h1, h2, h3⟩ => ⟨ad, h1, h2, fun j u hu => (g.cell (by rw [block_of_add]; exact h2)).trans (h3 j u hu)⟩) (fun _ _ _ _ g ⟨ad, h1, h2, h3⟩ => ⟨ad, h1, by omega, h3⟩)
/-- A slice of one struct. -/
def oneP (us : List Value) : D :=
  .p (fun B w x => ∃ ad : Addr, x = .slice (some ad) 1 1 ∧ ad.block < B ∧ ∀ (j : Nat) (u : Value), us[j]? = some u → w.cell? (ad.add j) = some u)
    (fun _ _ _ _ g ⟨ad, h1, h2, h3⟩ => ⟨ad, h1, h2, fun j u hu => (g.cell (by rw [block_of_add]; exact h2)).trans (h3 j u hu)⟩) (fun _ _ _ _ g ⟨ad, h1, h2, h3⟩ => ⟨ad, h1, by omega, h3⟩)
section
variable {P : Program} {B : Nat} {E : Env} {dst : Option Tmp} {ty : TypeId} {pos : String} {after : Array Edge} {guard : Option (Nat × Bool)}
theorem ok_lenP {t e e' : TypeId} {x : Operand} {B' sz m : Nat} {xs : List Value} (ht : P.underlying t = some (.slice e)) (hx : E.at x = some (ownP B' e' sz m xs)) :
    OpOk P B ⟨dst, .call { callee := .builtin .len, args := #[x], argTypes := #[t] }, ty, pos, after, guard⟩ E (.v (.int .i64 (m : Int))) := fun ρ w _ _ hρ => by
  obtain ⟨⟨_, h2⟩, _⟩ := hρ x (by simp [Op.operands, Call.operands]) _ hx
  rcases h2 with ⟨h3, h4⟩ | ⟨g, cap, cur, h3, _⟩
  · subst h4
    exact out_val (w' := w) (by simp [execOp, resolve, invoke, builtin, Builtin.len_, run_underlying ht, h3, goInt]) ⟨Grow.refl w, rfl⟩
  · exact out_val (w' := w) (by simp [execOp, resolve, invoke, builtin, Builtin.len_, run_underlying ht, h3, goInt]) ⟨Grow.refl w, rfl⟩
theorem ok_indexP {t e : TypeId} {z : Value} {sz nb : Nat} {x i : Operand} {B' k : Nat} {xs : List Value} {ki : IntKind} (m : Nat) (ht : P.underlying t = some (.slice e)) (hs : InfoP P e z sz nb) (hx : E.at x = some (ownP B' e sz k xs)) (hi : E.at i = some (.v (.int ki (m : Int)))) (hm : m < k) :
    OpOk P B ⟨dst, .indexAddr t x i, ty, pos, after, guard⟩ E (elemP ((xs.drop (m * sz)).take sz)) := fun ρ w _ _ hρ => by
  obtain ⟨⟨hl, h2⟩, hlt⟩ := hρ x (by simp [Op.operands]) _ hx
  have hi' : ρ i = .int ki m := hρ i (by simp [Op.operands]) _ hi
  rcases h2 with ⟨_, h4⟩ | ⟨g, cap, cur, h3, _, hh, _, _, _, htk⟩
  · omega
  obtain ⟨info, hinfo, _, hsize, _⟩ := hs.get
  have hg : g < w.heap.size := hlt g (by rw [h3]; rfl)
  refine out_val (x := .pointer (some ((⟨g, 0, none⟩ : Addr).add (m * sz)))) (w' := w) ?_ ⟨Grow.refl w, _, rfl, by rw [block_of_add]; exact hg, fun j u hu => ?_⟩
  · have hb1 : (0 : Int) ≤ (m : Int) ∧ (m : Int) < (k : Int) := by omega
    simp [execOp, h3, hi', Instr.indexAt, asIntOf, run_underlying ht, sizeOf, typeInfo, hinfo, hsize, hm]
  · rw [add_of_add, show (⟨g, 0, none⟩ : Addr).add (m * sz + j) = ⟨g, m * sz + j, none⟩ from by unfold Addr.add; split <;> simp_all]
    rw [← htk, List.getElem?_take] at hu
    split at hu
    · rw [List.getElem?_drop, List.getElem?_take] at hu
      split at hu
      · simp [World.cell?, hh]; simpa using hu
      · cases hu
    · cases hu
theorem ok_loadElemP {T : TypeId} {td : TypeDesc} {x : Operand} {us : List Value} (ht : P.underlying T = some td) (hp : (match td with | .struct _ | .array _ _ => true | _ => false) = true) (hsz : SizeIs P T us.length) (hx : E.at x = some (elemP us)) :
    OpOk P B ⟨dst, .load T x, ty, pos, after, guard⟩ E (.v (aggV us)) := fun ρ w _ _ hρ => by
  obtain ⟨ad, h1, _, h3⟩ := hρ x (by simp [Op.operands]) _ hx
  have hagg : (isAgg T).run P w = .ok true w := by
    unfold isAgg
    simp only [Sem.run_bind, run_underlying ht, Result.andThen_ok]
    cases td <;> simp_all
  have hc := run_loadCells_list (P := P) w ad us h3
  obtain ⟨info, hinfo, hs⟩ := hsz.get
  exact out_val (x := aggV us) (w' := w) (by simp [execOp, h1, Instr.loadAt, Instr.sureAddr, loadVar, hagg, sizeOf, typeInfo, hinfo, hs, hc, aggV]) ⟨Grow.refl w, rfl⟩
theorem ok_build1P {t e : TypeId} {z : Value} {nb : Nat} {x : Operand} {u₁ u₂ : Value} (ht : P.underlying t = some (.slice e)) (hs : InfoP P e z 2 nb) (hz : z.cells.size = 2) (hx : E.at x = some (.v (aggV [u₁, u₂]))) :
    OpOk P B ⟨dst, .buildSlice t 1 #[(0, x)], ty, pos, after, guard⟩ E (oneP [u₁, u₂]) := fun ρ w _ _ hρ => by
  obtain ⟨i, hi, hzv, hsize, _⟩ := hs.get
  have h1 : ρ x = aggV [u₁, u₂] := hρ x (by simp [Op.operands]) _ hx
  have hfill : Instr.fill (fun j => some (j * i.size, i.size)) ((Array.range (1 * i.size)).map (z.cells[· % z.cells.size]!)) [(0, ρ x)] = some #[u₁, u₂] := by
    rw [hsize, h1, hz]
    have h2 : ((Array.range (1 * 2)).map fun y => z.cells[y % 2]!) = #[z.cells[0]!, z.cells[1]!] := by
      rw [show Array.range (1 * 2) = #[0, 1] from by decide]
      simp
    rw [h2]
    simp [Instr.fill, aggV, Value.cells]
  have hr := run_buildSlice (P := P) w t e 1 #[(0, ρ x)] #[u₁, u₂] i z ht hi hzv (by rw [hsize]; decide) (by rw [hsize]; decide) (by simpa using hfill)
  refine out_val (x := .slice (some ⟨w.heap.size, 0, none⟩) 1 1) (w' := w.alloc (.cells #[u₁, u₂] e)) (by simp [execOp, hr]) ⟨Grow.alloc w _, _, rfl, by simp, fun j u hu => ?_⟩
  have hh : (w.alloc (.cells #[u₁, u₂] e)).heap[w.heap.size]? = some (.cells #[u₁, u₂] e (0, 0)) := heap_alloc_new w _
  rw [show (⟨w.heap.size, 0, none⟩ : Addr).add j = ⟨w.heap.size, j, none⟩ from by unfold Addr.add; split <;> simp_all]
  simp only [World.cell?, hh]
  simpa using hu
end
section
variable {P : Program} {n B : Nat} {ops : Array Oper} {E : Env} {ty : TypeId} {pos : String} {after : Array Edge}
theorem eff_appendP {t e : TypeId} {z : Value} {nb sz : Nat} {r x : Operand} {k dst : Nat} {xs us : List Value} {E' : Env} (ht : P.underlying t = some (.slice e)) (hinfo : InfoP P e z sz nb) (hsz : 0 < sz) (hnb : nb ≤ 64) (hz1 : z.cells.size = sz)
    (hr : E.at r = some (ownP B e sz k xs)) (hx : E.at x = some (oneP us)) (hu : us.length = sz) (h1 : us.all (·.oneCell') = true) (hk : k ≤ 1099511627776) (hdst : dst < n) (hl : ∀ g, B ≤ g → LeftS B e g E' E) :
    Eff P n B ops ⟨some dst, .call { callee := .builtin .append, args := #[r, x], argTypes := #[t, t] }, ty, pos, after, none⟩ E ((dst, ownP B e sz (k + 1) (xs ++ us)) :: E') := by
  obtain ⟨i, hi, hz, hs, hby⟩ := hinfo.get
  intro κ a w K Q h hK
  obtain ⟨hown, hob⟩ := h.at_ r _ hr
  obtain ⟨ad, hxe, _, hcell⟩ := h.at_ x _ hx
  have hbb : (k + 1) * i.bytes ≤ (k + 1) * 64 := Nat.mul_le_mul_left _ (by omega)
  obtain ⟨v', w', hrun, h3, h4, _, h5⟩ := run_append_own_at (P := P) w B t ty e i z sz i.bytes ht hi hz hs rfl hz1 hsz (a.eval r) k xs hown ad 1 1 us (by omega) hcell (fun u hu => List.all_eq_true.1 h1 u hu) (by simp only [maxLen]; omega) (by omega) h.base
  have hexec : (execOp a.eval ⟨some dst, .call { callee := .builtin .append, args := #[r, x], argTypes := #[t, t] }, ty, pos, after, none⟩).run P w = .ok (.value v') w' := by
    simp [execOp, resolve, invoke, builtin, hxe, hrun]
  rw [if_pos (by simp [Region.wanted])]
  refine opR (by nofun) ?_
  unfold Oper.wp
  rw [hexec, Oper.upon_value]
  have hbase : ∀ g, (a.eval r).ownBlock = some g → B ≤ g := fun g hg => by
    rcases hown.2 with ⟨hv, _⟩ | ⟨g', cap, cur, hv, hb, _⟩
    · rw [hv] at hg; simp [Value.ownBlock] at hg
    · rw [hv] at hg; simp [Value.ownBlock] at hg; omega
  have hbel : Below B w w' := (Below.refl B w).grown h4 h.base hbase
  have hlt : ∀ g, v'.ownBlock = some g → g < w'.heap.size := fun g hg => by
    rcases h3.2 with ⟨hv, _⟩ | ⟨g', cap, cur, hv, _, hh, _⟩
    · rw [hv] at hg; simp [Value.ownBlock] at hg
    · rw [hv] at hg; simp [Value.ownBlock] at hg; subst hg
      rcases Nat.lt_or_ge g' w'.heap.size with h | h
      · exact h
      · rw [Array.getElem?_eq_none h] at hh; cases hh
  have hwr : ∃ g, B ≤ g ∧ Wrote B e g w w' := by
    rcases hown.2 with ⟨hv, _⟩ | ⟨g', cap, cur, hv, hb, hh, _⟩
    · refine ⟨w.heap.size, h.base, h.base, h4.os, h4.tape, h4.output, h4.size, fun o hx => ?_, fun k hk _ => h4.block k hk (by rw [hv]; simp [Value.ownBlock])⟩
      rw [Array.getElem?_eq_none (Nat.le_refl _)] at hx; cases hx
    · refine ⟨g', hb, hb, h4.os, h4.tape, h4.output, h4.size, fun o hx => ?_, fun k hk hne => h4.block k hk (by rw [hv]; simp [Value.ownBlock]; omega)⟩
      rw [hh] at hx; injection hx with hx; exact ⟨_, _, hx.symm⟩
  obtain ⟨g, hg, hwr⟩ := hwr
  exact hK _ _ hbel (((hl g hg).st h hwr).put hdst ⟨h3, hlt⟩)

/-! ### New variables in drawn regions -/
theorem Surv.freshVT {T g base : Nat} {L : List Nat} {T' : TypeId} {zs : List Value} (h : T' ≠ T) : Surv B T g (freshV base L T' zs) := fun w w' x k ⟨b, h1, h2, h3, h4, h5⟩ => by
  refine ⟨b, h1, h2, h3, Nat.lt_of_lt_of_le h4 k.size, ?_⟩
  by_cases hb : b = g
  · subst hb; exact absurd (k.row _ _ _ h5) h
  · rw [k.other b h4 hb]; exact h5
/-- Such a variable of a struct whose first field is told by a fact. -/
def freshA (base : Nat) (L : List Nat) (T : TypeId) (f : D) (rest : List Value) : D :=
  .p (fun B w x => ∃ b, x = .pointer (some ⟨b, 0, none⟩) ∧ base ≤ b ∧ (∀ b' ∈ L, b' < b) ∧ b < B ∧ ∃ v : Value, v.oneCell' = true ∧ w.heap[b]? = some (.cells (v :: rest : List Value).toArray T (0, 0)) ∧ f.OfB B w v)
    (fun _ _ _ _ g ⟨b, h1, h2, h3, h4, v, h5, h6, h7⟩ => ⟨b, h1, h2, h3, h4, v, h5, (g.block b h4).trans h6, h7.keep g⟩) (fun _ _ _ _ g ⟨b, h1, h2, h3, h4, v, h5, h6, h7⟩ => ⟨b, h1, h2, h3, by omega, v, h5, h6, h7.up g⟩)
theorem Surv.freshAT {T g base : Nat} {L : List Nat} {T' : TypeId} {f : D} {rest : List Value} (h : T' ≠ T) (hf : Surv B T g f) : Surv B T g (freshA base L T' f rest) := fun w w' x k ⟨b, h1, h2, h3, h4, v, h5, h6, h7⟩ => by
  refine ⟨b, h1, h2, h3, Nat.lt_of_lt_of_le h4 k.size, v, h5, ?_, hf _ _ _ k h7⟩
  by_cases hb : b = g
  · subst hb; exact absurd (k.row _ _ _ h6) h
  · rw [k.other b h4 hb]; exact h6
theorem Surv.tup3 {T g : Nat} {d₁ d₂ d₃ : D} (h₁ : Surv B T g d₁) (h₂ : Surv B T g d₂) (h₃ : Surv B T g d₃) : Surv B T g (tup [d₁, d₂, d₃]) := fun w w' x k ⟨xs, h1, h2, h3⟩ => by
  refine ⟨xs, h1, h2, fun j d u hd hu => ?_⟩
  match j, hd with
  | 0, hd => simp at hd; subst hd; exact h₁ w w' u k (h3 0 _ u rfl hu)
  | 1, hd => simp at hd; subst hd; exact h₂ w w' u k (h3 1 _ u rfl hu)
  | 2, hd => simp at hd; subst hd; exact h₃ w w' u k (h3 2 _ u rfl hu)
  | j + 3, hd => simp at hd
theorem eff_storeFF {T : TypeId} {x : Operand} {d : Nat} {L : List Nat} {zs ys : List Value} {E' : Env} {base : Nat} (hsz : SizeIs P T ys.length) (hbase : B ≤ base) (hp : E.look d = some (freshV base L T zs)) (hx : E.at x = some (.v (aggV ys))) (h1 : ys.all (·.oneCell') = true) (ho : zs.length = ys.length) (hl : ∀ b, base ≤ b → LeftS B T b E' E) :
    Eff P n B ops ⟨none, .store T (.tmp d) x, ty, pos, after, none⟩ E ((d, freshV base L T ys) :: E') := by
  intro κ a w K Q h hK
  obtain ⟨b, hp', hb, hL, hlt, hh⟩ := h.of d _ hp
  have hp2 : a.eval (.tmp d) = .pointer (some ⟨b, 0, none⟩) := hp'
  have hx' : a.eval x = _ := h.at_ x _ hx
  have hrun : (execOp a.eval ⟨none, .store T (.tmp d) x, ty, pos, after, none⟩).run P w = .ok .skip (w.setRow b ys.toArray) := by
    have := run_storeVar_row (P := P) w b T T zs.toArray ys.toArray hh (by simpa [SizeIs] using hsz) (by simpa using ho) (by simpa using h1)
    simp [execOp, hp2, hx', Instr.storeAt, Instr.sureAddr, aggV, this]
  rw [if_pos (by simp [Region.wanted])]
  refine opR (by nofun) ?_
  unfold Oper.wp
  rw [hrun, Oper.upon_skip]
  have hwr := Wrote.setRow (B := B) (by omega) hh ys.toArray
  exact hK _ _ (hwr.below h.base) (((hl b hb).st h hwr).push (d := freshV base L T ys) ⟨b, hp', hb, hL, by simpa using hlt, setRow_heap w b _ _ T _ hh⟩)
theorem eff_storeFA {T : TypeId} {x : Operand} {d : Nat} {L : List Nat} {zs rest : List Value} {f : D} {E' : Env} {base : Nat} (hsz : SizeIs P T (rest.length + 1)) (hbase : B ≤ base) (hp : E.look d = some (freshV base L T zs)) (hx : E.at x = some (hdD f rest)) (h1 : rest.all (·.oneCell') = true) (ho : zs.length = rest.length + 1) (hf : ∀ b, base ≤ b → Surv B T b f) (hl : ∀ b, base ≤ b → LeftS B T b E' E) :
    Eff P n B ops ⟨none, .store T (.tmp d) x, ty, pos, after, none⟩ E ((d, freshA base L T f rest) :: E') := by
  intro κ a w K Q h hK
  obtain ⟨b, hp', hb, hL, hlt, hh⟩ := h.of d _ hp
  have hp2 : a.eval (.tmp d) = .pointer (some ⟨b, 0, none⟩) := hp'
  obtain ⟨v, hv, hx', hfv⟩ := h.at_ x _ hx
  have hrun : (execOp a.eval ⟨none, .store T (.tmp d) x, ty, pos, after, none⟩).run P w = .ok .skip (w.setRow b (v :: rest).toArray) := by
    have := run_storeVar_row (P := P) w b T T zs.toArray (v :: rest).toArray hh (by simpa [SizeIs] using hsz) (by simpa using ho) (by simpa [hv] using h1)
    simp [execOp, hp2, hx', Instr.storeAt, Instr.sureAddr, aggV] at this ⊢
    rw [this]
    rfl
  rw [if_pos (by simp [Region.wanted])]
  refine opR (by nofun) ?_
  unfold Oper.wp
  rw [hrun, Oper.upon_skip]
  have hwr := Wrote.setRow (B := B) (by omega) hh (v :: rest).toArray
  exact hK _ _ (hwr.below h.base) (((hl b hb).st h hwr).push (d := freshA base L T f rest) ⟨b, hp', hb, hL, by simpa using hlt, v, hv, setRow_heap w b _ _ T _ hh, hf b hb _ _ _ hwr hfv⟩)
end
theorem A.dup {P : Program} {w₀ : World} {n : Nat} {c : Code} {E : Env} {Q : Exit → Act → World → Prop} {k k' : Nat} {d : D} (hk : E.look k = some d) (hd : ∀ B w x y, d.OfB B w x → d.OfB B w y) (h : A κ P w₀ n c ((k', d) :: E) Q) : A κ P w₀ n c E Q := fun a w g hs => h a w g (hs.push (t := k') (d := d) (hd _ _ _ _ (hs.of k _ hk)))
theorem new_own3 {base n m : Nat} {e : TypeId} {u v : Value} {rest xs : List Value} (hn : n = xs.length) (hm : m = xs.length) (hx : n ≤ maxLen) : Le (newD base e (fun b => .tuple #[u, aggV (.slice (some ⟨b, 0, none⟩) n n :: rest), v]) xs) (tup [.v u, hdD (own 0 e m xs) rest, .v v]) := fun B w x ⟨b, h1, h2, h3, h4⟩ => by
  refine ⟨[u, aggV (.slice (some ⟨b, 0, none⟩) n n :: rest), v], h1, rfl, fun j d y hd hy => ?_⟩
  match j, hd, hy with
  | 0, hd, hy => simp at hd hy; subst hd; subst hy; rfl
  | 1, hd, hy => simp at hd hy; subst hd; subst hy; exact hd_own (Nat.zero_le _) h3 h4 hm hn hx |> fun h => by subst hn; subst hm; exact h
  | 2, hd, hy => simp at hd hy; subst hd; subst hy; rfl
  | j + 3, hd, _ => simp at hd
theorem new_own2 {base n m : Nat} {e : TypeId} {v : Value} {rest xs : List Value} (hn : n = xs.length) (hm : m = xs.length) (hx : n ≤ maxLen) : Le (newD base e (fun b => .tuple #[aggV (.slice (some ⟨b, 0, none⟩) n n :: rest), v]) xs) (tup [hdD (own 0 e m xs) rest, .v v]) := fun B w x ⟨b, h1, h2, h3, h4⟩ => by
  refine ⟨[aggV (.slice (some ⟨b, 0, none⟩) n n :: rest), v], h1, rfl, fun j d y hd hy => ?_⟩
  match j, hd, hy with
  | 0, hd, hy => simp at hd hy; subst hd; subst hy; exact hd_own (Nat.zero_le _) h3 h4 hm hn hx |> fun h => by subst hn; subst hm; exact h
  | 1, hd, hy => simp at hd hy; subst hd; subst hy; rfl
  | j + 2, hd, _ => simp at hd
theorem nil_own {B : Nat} {w : World} {e : TypeId} {rest : List Value} : (hdD (own 0 e 0 []) rest).OfB B w (aggV (.slice none 0 0 :: rest)) := ⟨_, rfl, rfl, own_nil _ _ _ (rfl : (D.v (.slice none 0 0)).OfB B w (.slice none 0 0))⟩
theorem nil_own3 {e : TypeId} {u v : Value} {rest : List Value} : Le (.v (.tuple #[u, aggV (.slice none 0 0 :: rest), v])) (tup [.v u, hdD (own 0 e 0 []) rest, .v v]) := fun B w x h1 => by
  refine ⟨[u, aggV (.slice none 0 0 :: rest), v], h1, rfl, fun j d y hd hy => ?_⟩
  match j, hd, hy with
  | 0, hd, hy => simp at hd hy; subst hd; subst hy; rfl
  | 1, hd, hy => simp at hd hy; subst hd; subst hy; exact nil_own
  | 2, hd, hy => simp at hd hy; subst hd; subst hy; rfl
  | j + 3, hd, _ => simp at hd
theorem nil_own2 {e : TypeId} {v : Value} {rest : List Value} : Le (.v (.tuple #[aggV (.slice none 0 0 :: rest), v])) (tup [hdD (own 0 e 0 []) rest, .v v]) := fun B w x h1 => by
  refine ⟨[aggV (.slice none 0 0 :: rest), v], h1, rfl, fun j d y hd hy => ?_⟩
  match j, hd, hy with
  | 0, hd, hy => simp at hd hy; subst hd; subst hy; exact nil_own
  | 1, hd, hy => simp at hd hy; subst hd; subst hy; rfl
  | j + 2, hd, _ => simp at hd
theorem A.openFreshA {P : Program} {w₀ : World} {n : Nat} {c : Code} {E : Env} {Q : Exit → Act → World → Prop} {t k B' : Nat} {L : List Nat} {T : TypeId} {f : D} {rest : List Value} (ht : E.look t = some (freshA B' L T f rest)) (h : ∀ b, B' ≤ b → A κ P w₀ n c ((t, .v (ptr b)) :: (k, varA b T f rest) :: E) Q) : A κ P w₀ n c E Q := fun a w g hs => by
  obtain ⟨b, h1, h2, _, h4, h5⟩ := hs.of t _ ht
  exact h b h2 a w g ((hs.push (t := k) (d := varA b T f rest) ⟨h4, h5⟩).push (d := .v _) h1)
theorem A.closeA {P : Program} {w₀ : World} {n : Nat} {c : Code} {E : Env} {Q : Exit → Act → World → Prop} {k k' b : Nat} {T : TypeId} {f : D} {rest : List Value} {v : Value} (hv : v.oneCell' = true) (hk : E.look k = some (blk b T (v :: rest))) (hk' : E.look k' = some (valM v f)) (h : A κ P w₀ n c ((k, varA b T f rest) :: E) Q) : A κ P w₀ n c E Q := fun a w g hs => by
  obtain ⟨h1, h2⟩ := hs.of k _ hk
  exact h a w g (hs.push (t := k) (d := varA b T f rest) ⟨h1, v, hv, h2, hs.of k' _ hk'⟩)
end Go.Proofs.Ytdnblilocdddpaa
