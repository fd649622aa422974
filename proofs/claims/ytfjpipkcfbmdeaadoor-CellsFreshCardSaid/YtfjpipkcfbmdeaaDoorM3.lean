/-
  OWN TEXTS of this seat, put together, part 3: Pair, Use, PredF, Text, RangeX, Shape, C12a, Late, Node, C13a, Rets, Once, C12b, C02a, C02b, C02c.
-/
import Derived.Test.YtfjpipkcfbmdeaaDoorM2
import Derived.Test.YtfjpipkcfbmdeaaDoorM1
import Derived.Test.YtfjpipkcfbmdeaaDoorProg
namespace Go.Proofs.YtfjpipkcfbmdeaaDoor
open Go Go.RowKit
variable {κ : Cx}
def ownP (base : Nat) (e : TypeId) (sz n : Nat) (xs : List Value) : D :=
  .p (fun B w x => w.ownsRow base e sz x n xs ∧ ∀ g, x.ownBlock = some g → g < B)
    (fun B w w' x g ⟨h1, h2⟩ => ⟨by
      obtain ⟨h3, h4⟩ := h1
      refine ⟨h3, h4.imp id ?_⟩
      rintro ⟨k, cap, cur, rfl, hk, hh, hr⟩
      exact ⟨k, cap, cur, rfl, hk, (g.block k (h2 k (by simp [Value.ownBlock]))).trans hh, hr⟩, h2⟩)
    (fun _ _ _ _ g ⟨h1, h2⟩ => ⟨h1, fun k hk => Nat.lt_of_lt_of_le (h2 k hk) g⟩)
theorem Surv.ownP {B T g base sz n : Nat} {e : TypeId} {xs : List Value} (h : e ≠ T) : Surv B T g (Go.Proofs.YtfjpipkcfbmdeaaDoor.ownP base e sz n xs) := fun w w' x k ⟨h1, h2⟩ => by
  obtain ⟨h3, h4⟩ := h1
  refine ⟨⟨h3, h4.imp id ?_⟩, fun j hj => Nat.lt_of_lt_of_le (h2 j hj) k.size⟩
  rintro ⟨j, cap, cur, rfl, hj, hh, hr⟩
  refine ⟨j, cap, cur, rfl, hj, ?_, hr⟩
  by_cases hjg : j = g
  · subst hjg; exact absurd (k.row _ _ _ hh) h
  · rw [k.other j (h2 j (by simp [Value.ownBlock])) hjg]; exact hh
def InfoP (P : Program) (e : TypeId) (z : Value) (sz nb : Nat) : Prop := (P.info? e).map (fun i => (i.zero, i.size, i.bytes)) = some (some z, sz, nb)
theorem InfoP.get {P : Program} {e : TypeId} {z : Value} {sz nb : Nat} (h : InfoP P e z sz nb) : ∃ i, P.info? e = some i ∧ i.zero = some z ∧ i.size = sz ∧ i.bytes = nb := by
  unfold InfoP at h
  cases hi : P.info? e with
  | none => rw [hi] at h; cases h
  | some i =>
    rw [hi] at h
    simp only [Option.map_some, Option.some.injEq, Prod.mk.injEq] at h
    exact ⟨i, rfl, h.1, h.2.1, h.2.2⟩
/-- The cells at an address. -/
def elemP (us : List Value) : D :=
  .p (fun B w x => ∃ ad : Addr, x = .pointer (some ad) ∧ ad.block < B ∧ ∀ (j : Nat) (u : Value), us[j]? = some u → w.cell? (ad.add j) = some u)
    (fun _ _ _ _ g ⟨ad, h1, h2, h3⟩ => ⟨ad, h1, h2, fun j u hu => (g.cell (by rw [block_of_add]; exact h2)).trans (h3 j u hu)⟩) (fun _ _ _ _ g ⟨ad, h1, h2, h3⟩ => ⟨ad, h1, by omega, h3⟩)
/-- A slice of one struct. -/
def oneP (us : List Value) : D :=
  .p (fun B w x => ∃ ad : Addr, x = .slice (some ad) 1 1 ∧ ad.block < B ∧ ∀ (j : Nat) (u : Value), us[j]? = some u → w.cell? (ad.add j) = some u)
    (fun _ _ _ _ g ⟨ad, h1, h2, h3⟩ => ⟨ad, h1, h2, fun j u hu => (g.cell (by rw [block_of_add]; exact h2)).trans (h3 j u hu)⟩) (fun _ _ _ _ g ⟨ad, h1, h2, h3⟩ => ⟨ad, h1, by omega, h3⟩)
section
variable {P : Program} {B : Nat} {E : Env} {dst : Option Tmp} {ty : TypeId} {pos : String} {after : Array Edge} {guard : Option (Nat × Bool)}
end
section
variable {P : Program} {n B : Nat} {ops : Array Oper} {E : Env} {ty : TypeId} {pos : String} {after : Array Edge}
theorem eff_appendP {t e : TypeId} {z : Value} {nb sz : Nat} {r x : Operand} {k dst : Nat} {xs us : List Value} {E' : Env} (ht : P.underlying t = some (.slice e)) (hinfo : InfoP P e z sz nb) (hsz : 0 < sz) (hnb : nb ≤ 64) (hz1 : z.cells.size = sz)
    (hr : E.at r = some (ownP B e sz k xs)) (hx : E.at x = some (oneP us)) (hu : us.length = sz) (h1 : us.all (·.oneCell') = true) (hk : k ≤ 1099511627776) (hdst : dst < n) (hl : ∀ g, B ≤ g → LeftS B e g E' E) :
    Eff P n B ops ⟨some dst, .call { callee := .builtin .append, args := #[r, x], argTypes := #[t, t] }, ty, pos, after, none⟩ E ((dst, ownP B e sz (k + 1) (xs ++ us)) :: E') := by
  obtain ⟨i, hi, hz, hs, hby⟩ := hinfo.get
  intro κ a w K Q h hK
  obtain ⟨hown, hob⟩ := h.at_ r _ hr
  obtain ⟨ad, hxe, _, hcell⟩ := h.at_ x _ hx
  have hbb : (k + 1) * i.bytes ≤ (k + 1) * 64 := Nat.mul_le_mul_left _ (by omega)
  obtain ⟨v', w', hrun, h3, h4, _, h5⟩ := run_append_own_at (P := P) w B t ty e i z sz i.bytes ht hi hz hs rfl hz1 hsz (a.eval r) k xs hown ad 1 1 us (by omega) hcell (fun u hu => List.all_eq_true.1 h1 u hu) (by simp only [maxLen]; omega) (by omega) h.base
  have hexec : (execOp a.eval ⟨some dst, .call { callee := .builtin .append, args := #[r, x], argTypes := #[t, t] }, ty, pos, after, none⟩).run P w = .ok (.value v') w' := by
    simp [execOp, resolve, invoke, builtin, hxe, hrun]
  rw [if_pos (by simp [Region.wanted])]
  refine opR (by nofun) ?_
  unfold Oper.wp
  rw [hexec, Oper.upon_value]
  have hbase : ∀ g, (a.eval r).ownBlock = some g → B ≤ g := fun g hg => by
    rcases hown.2 with ⟨hv, _⟩ | ⟨g', cap, cur, hv, hb, _⟩
    · rw [hv] at hg; simp [Value.ownBlock] at hg
    · rw [hv] at hg; simp [Value.ownBlock] at hg; omega
  have hbel : Below B w w' := (Below.refl B w).grown h4 h.base hbase
  have hlt : ∀ g, v'.ownBlock = some g → g < w'.heap.size := fun g hg => by
    rcases h3.2 with ⟨hv, _⟩ | ⟨g', cap, cur, hv, _, hh, _⟩
    · rw [hv] at hg; simp [Value.ownBlock] at hg
    · rw [hv] at hg; simp [Value.ownBlock] at hg; subst hg
      rcases Nat.lt_or_ge g' w'.heap.size with h | h
      · exact h
      · rw [Array.getElem?_eq_none h] at hh; cases hh
  have hwr : ∃ g, B ≤ g ∧ Wrote B e g w w' := by
    rcases hown.2 with ⟨hv, _⟩ | ⟨g', cap, cur, hv, hb, hh, _⟩
    · refine ⟨w.heap.size, h.base, h.base, h4.os, h4.tape, h4.output, h4.size, fun o hx => ?_, fun k hk _ => h4.block k hk (by rw [hv]; simp [Value.ownBlock])⟩
      rw [Array.getElem?_eq_none (Nat.le_refl _)] at hx; cases hx
    · refine ⟨g', hb, hb, h4.os, h4.tape, h4.output, h4.size, fun o hx => ?_, fun k hk hne => h4.block k hk (by rw [hv]; simp [Value.ownBlock]; omega)⟩
      rw [hh] at hx; injection hx with hx; exact ⟨_, _, hx.symm⟩
  obtain ⟨g, hg, hwr⟩ := hwr
  exact hK _ _ hbel (((hl g hg).st h hwr).put hdst ⟨h3, hlt⟩)

/-! ### New variables in drawn regions -/
end
end Go.Proofs.YtfjpipkcfbmdeaaDoor
namespace Go.Proofs.YtfjpipkcfbmdeaaDoor
open Go Go.RowKit
set_option linter.unusedVariables false
set_option linter.unusedSimpArgs false
variable {κ : Cx}
/-- The cells that stand from an address on. -/
def memR (A : Option Addr) (xs : List Value) : D :=
  .p (fun B w _ => RowIn B w A xs) (fun _ _ _ _ g h j u hu => by obtain ⟨ad, h1, h2, h3⟩ := h j u hu; exact ⟨ad, h1, h2, (g.cell (by rw [block_of_add]; exact h2)).trans h3⟩)
    (fun _ _ _ _ g h j u hu => by obtain ⟨ad, h1, h2, h3⟩ := h j u hu; exact ⟨ad, h1, Nat.lt_of_lt_of_le h2 g, h3⟩)
/-- A slice of n elements whose cells read as xs. -/
def rowD (n : Nat) (xs : List Value) : D :=
  .p (fun B w x => ∃ A c, x = .slice A n c ∧ RowIn B w A xs) (fun _ _ _ _ g ⟨A, c, h1, h2⟩ => ⟨A, c, h1, D.OfB.keep (d := memR A xs) (x := undef) h2 g⟩) (fun _ _ _ _ g ⟨A, c, h1, h2⟩ => ⟨A, c, h1, D.OfB.up (d := memR A xs) (x := undef) h2 g⟩)
theorem rowD_nil {A : Option Addr} {c : Nat} : Le (.v (.slice A 0 c)) (rowD 0 []) := fun _ _ _ h => ⟨A, c, h, fun j u hu => by cases hu⟩
theorem ownP_rowD {base sz n : Nat} {e : TypeId} {xs : List Value} : Le (ownP base e sz n xs) (rowD n xs) := fun B w x ⟨⟨hl, h2⟩, hlt⟩ => by
  rcases h2 with ⟨rfl, rfl⟩ | ⟨g, cap, cur, rfl, _, hh, _, _, _, htk⟩
  · refine ⟨none, 0, rfl, fun j u hu => ?_⟩
    have : xs = [] := List.length_eq_zero_iff.1 (by omega)
    subst this; cases hu
  · refine ⟨_, _, rfl, fun j u hu => ⟨_, rfl, hlt g rfl, ?_⟩⟩
    rw [show (⟨g, 0, none⟩ : Addr).add j = ⟨g, j, none⟩ from by unfold Addr.add; split <;> simp_all]
    rw [← htk, List.getElem?_take] at hu
    split at hu
    · simp [World.cell?, hh]; simpa using hu
    · cases hu
section
variable {P : Program} {n : Nat} {E : Env} {w₀ : World} {c : Code} {Q : Exit → Act → World → Prop}
end
section
variable {P : Program} {B : Nat} {E : Env} {dst : Option Tmp} {ty : TypeId} {pos : String} {after : Array Edge} {guard : Option (Nat × Bool)}
theorem ok_indexR {t e : TypeId} {z : Value} {sz nb : Nat} {x i : Operand} {A₀ : Option Addr} {q k s B' : Nat} {xs : List Value} {ki : IntKind} (m : Nat) (ht : P.underlying t = some (.slice e)) (hs : InfoP P e z sz nb) (hx : E.at x = some (.v (.slice A₀ k q)))
    (hr : E.look s = some (old B' (memR A₀ xs))) (hsv : vbase ≤ s) (hi : E.at i = some (.v (.int ki (m : Int)))) (hm : m < k) (hlt : m * sz < xs.length) :
    OpOk P B ⟨dst, .indexAddr t x i, ty, pos, after, guard⟩ E (elemP ((xs.drop (m * sz)).take sz)) := fun ρ w _ hv hρ => by
  have h1 : ρ x = .slice A₀ k q := hρ x (by simp [Op.operands]) _ hx
  have hi' : ρ i = .int ki m := hρ i (by simp [Op.operands]) _ hi
  obtain ⟨hB, hrow⟩ := hv s _ hsv hr
  obtain ⟨info, hinfo, _, hsize, _⟩ := hs.get
  obtain ⟨ad, hA, hab, _⟩ := hrow (m * sz) _ (List.getElem?_eq_getElem hlt)
  subst hA
  refine out_val (x := .pointer (some (ad.add (m * sz)))) (w' := w) ?_ ⟨Grow.refl w, _, rfl, by rw [block_of_add]; omega, fun j u hu => ?_⟩
  · simp [execOp, h1, hi', Instr.indexAt, asIntOf, run_underlying ht, sizeOf, typeInfo, hinfo, hsize, hm]
  · rw [List.getElem?_take] at hu
    split at hu
    · rw [List.getElem?_drop] at hu
      obtain ⟨ad', hA', _, h4⟩ := hrow (m * sz + j) u hu
      injection hA' with hA'; subst hA'
      rw [add_of_add]; exact h4
    · cases hu
theorem ok_fieldP {T : TypeId} {x : Operand} {i off m : Nat} {us : List Value} (hf : FieldIs P T i off m) (hm : 0 < m) (hx : E.at x = some (elemP us)) :
    OpOk P B ⟨dst, .fieldAddr T x i, ty, pos, after, guard⟩ E (elemP (us.drop off)) := fun ρ w _ _ hρ => by
  obtain ⟨ad, h1, hb, hc⟩ := hρ x (by simp [Op.operands]) _ hx
  unfold FieldIs at hf
  cases hu : P.underlying T with
  | none => rw [hu] at hf; cases hf
  | some d =>
    rw [hu] at hf
    cases d with
    | struct fs =>
      simp only [Option.bind_some] at hf
      cases hfi : fs[i]? with
      | none => rw [hfi] at hf; cases hf
      | some f =>
        rw [hfi] at hf
        simp only [Option.bind_some] at hf
        cases hi : P.info? f.type with
        | none => rw [hi] at hf; cases hf
        | some inf =>
          rw [hi] at hf
          simp only [Option.map_some, Option.some.injEq, Prod.mk.injEq] at hf
          obtain ⟨h2, h3⟩ := hf
          refine out_val (x := .pointer (some (ad.add off))) (w' := w) ?_ ⟨Grow.refl w, _, rfl, by rw [block_of_add]; exact hb, fun j u hj => ?_⟩
          · have : ¬ inf.size = 0 := by omega
            simp [execOp, h1, Instr.fieldAt, run_underlying hu, hfi, Instr.sureAddr, fieldPlace, sizeOf, typeInfo, hi, this, h2]
          · rw [add_of_add]; rw [List.getElem?_drop] at hj; exact hc _ _ hj
    | _ => simp at hf
theorem ok_loadP1 {T : TypeId} {td : TypeDesc} {x : Operand} {u : Value} {us : List Value} (ht : P.underlying T = some td) (hp : (match td with | .struct _ | .array _ _ => false | _ => true) = true) (hx : E.at x = some (elemP (u :: us))) :
    OpOk P B ⟨dst, .load T x, ty, pos, after, guard⟩ E (.v u) := fun ρ w _ _ hρ => by
  obtain ⟨ad, h1, _, h3⟩ := hρ x (by simp [Op.operands]) _ hx
  have hagg : (isAgg T).run P w = .ok false w := by
    unfold isAgg
    simp only [Sem.run_bind, run_underlying ht, Result.andThen_ok]
    cases td <;> simp_all
  have hc : w.cell? ad = some u := by have := h3 0 u rfl; rwa [show ad.add 0 = ad from by simp [Addr.add]] at this
  exact out_val (x := u) (w' := w) (by simp [execOp, h1, Instr.loadAt, Instr.sureAddr, loadVar, hagg, hc]) ⟨Grow.refl w, rfl⟩
theorem fill_go (us : List Value) : ∀ (ds pre : List Value), ds.length = us.length → ((us.zipIdx pre.length).foldl (fun cs (x : Value × Nat) => cs.setIfInBounds (0 + x.2) x.1) (pre ++ ds).toArray) = (pre ++ us).toArray := by
  induction us with
  | nil => intro ds pre h; cases ds with
    | nil => rfl
    | cons => cases h
  | cons u us ih =>
    intro ds pre h
    cases ds with
    | nil => cases h
    | cons d ds =>
      rw [List.zipIdx_cons, List.foldl_cons]
      have := ih ds (pre ++ [u]) (by simpa using h)
      rw [show ((pre ++ d :: ds).toArray.setIfInBounds (0 + pre.length) u) = ((pre ++ [u]) ++ ds).toArray from by
        rw [Nat.zero_add, List.setIfInBounds_toArray, List.set_append_right _ _ (Nat.le_refl _)]; simp]
      rw [show pre.length + 1 = (pre ++ [u]).length from by simp, this]; simp
theorem ok_build1K {t e : TypeId} {z : Value} {nb sz : Nat} {x : Operand} {us : List Value} (ht : P.underlying t = some (.slice e)) (hs : InfoP P e z sz nb) (hz : z.cells.size = sz) (h0 : sz ≤ 65536) (hsz : 0 < sz) (hx : E.at x = some (.v (aggV us))) (hu : us.length = sz) :
    OpOk P B ⟨dst, .buildSlice t 1 #[(0, x)], ty, pos, after, guard⟩ E (oneP us) := fun ρ w _ _ hρ => by
  obtain ⟨i, hi, hzv, hsize, _⟩ := hs.get
  have h1 : ρ x = aggV us := hρ x (by simp [Op.operands]) _ hx
  have hfill : Instr.fill (fun j => some (j * i.size, i.size)) ((Array.range (1 * i.size)).map (z.cells[· % z.cells.size]!)) [(0, ρ x)] = some us.toArray := by
    have hlen : ((Array.range (1 * i.size)).map (z.cells[· % z.cells.size]!)).size = us.length := by simp [hsize, hu]
    rw [h1]
    have hc : (aggV us).cells = us.toArray := rfl
    unfold Instr.fill
    simp only [Nat.zero_mul]
    rw [hc, if_neg (by simp [hsize, hu])]
    have hg := fill_go us ((Array.range (1 * i.size)).map (z.cells[· % z.cells.size]!)).toList [] (by rw [Array.length_toList, hlen])
    simp only [List.nil_append, List.length_nil, Array.toArray_toList] at hg
    rw [show us.toArray.zipIdx.foldl (fun cs (x : Value × Nat) => match x with | (c, j) => cs.setIfInBounds (0 + j) c) ((Array.range (1 * i.size)).map (z.cells[· % z.cells.size]!)) = us.toArray from by
      rw [← Array.foldl_toList, Array.toList_zipIdx]; exact hg]
    rfl
  have hr := run_buildSlice (P := P) w t e 1 #[(0, ρ x)] us.toArray i z ht hi hzv (by rw [hsize]; omega) (by rw [hsize]; omega) (by simpa using hfill)
  refine out_val (x := .slice (some ⟨w.heap.size, 0, none⟩) 1 1) (w' := w.alloc (.cells us.toArray e)) (by simp [execOp, hr]) ⟨Grow.alloc w _, _, rfl, by simp, fun j u hu => ?_⟩
  have hh : (w.alloc (.cells us.toArray e)).heap[w.heap.size]? = some (.cells us.toArray e (0, 0)) := heap_alloc_new w _
  rw [show (⟨w.heap.size, 0, none⟩ : Addr).add j = ⟨w.heap.size, j, none⟩ from by unfold Addr.add; split <;> simp_all]
  simp only [World.cell?, hh]
  simpa using hu
end
section
variable {P : Program} {n B : Nat} {ops : Array Oper} {E : Env} {ty : TypeId} {pos : String} {after : Array Edge}
end
end Go.Proofs.YtfjpipkcfbmdeaaDoor
namespace Go.Proofs.YtfjpipkcfbmdeaaDoor
open Go Go.RowKit
set_option linter.unusedSimpArgs false
set_option linter.unusedVariables false
variable {κ : Cx}
/-- The facts M on memory stand in the environment, each at some number. -/
def MHas (E : Env) (M : Env) : Prop := ∀ q ∈ M, ∃ k d, vbase ≤ k ∧ E.look k = some d ∧ Le d q.2
theorem MHas.nil {E : Env} : MHas E [] := fun _ h => by cases h
theorem MHas.cons {E M : Env} {t : Nat} {d' : D} (k : Nat) {d : D} (hk : vbase ≤ k) (hE : E.look k = some d) (hl : Le d d') (hr : MHas E M) : MHas E ((t, d') :: M) := fun q hq => by
  rcases List.mem_cons.1 hq with rfl | hq
  · exact ⟨k, d, hk, hE, hl⟩
  · exact hr q hq
section
variable {P : Program} {B : Nat} {E : Env} {dst : Option Tmp} {ty : TypeId} {pos : String} {after : Array Edge} {guard : Option (Nat × Bool)}
end
section
variable {P : Program} {B : Nat} {E : Env}
end
end Go.Proofs.YtfjpipkcfbmdeaaDoor
namespace Go.Proofs.YtfjpipkcfbmdeaaDoor
open Go Go.RowKit
set_option linter.unusedVariables false
set_option linter.unusedSimpArgs false
variable {κ : Cx}
section
variable {P : Program} {B : Nat} {E : Env} {dst : Option Tmp} {ty : TypeId} {pos : String} {after : Array Edge} {guard : Option (Nat × Bool)}
end
section
variable {P : Program} {n B : Nat} {ops : Array Oper} {E : Env} {ty : TypeId} {pos : String} {after : Array Edge}
theorem eff_appendRoom {t e : TypeId} {z : Value} {nb sz : Nat} {r x : Operand} {b k c s dst : Nat} {e' : TypeId} {xs us : List Value} {E' : Env} (ht : P.underlying t = some (.slice e)) (hinfo : InfoP P e z sz nb)
    (hr : E.at r = some (.v (.slice (some ⟨b, 0, none⟩) k c))) (hx : E.at x = some (oneP us)) (hu : us.length = sz) (h1 : us.all (·.oneCell') = true) (hkc : k < c) (hb : B ≤ b) (hblk : E.look s = some (blk b e' xs)) (hfit : c * sz ≤ xs.length) (hnt : ∀ q, P.underlying t ≠ some (.int q)) (hdst : dst < n) (hl : LeftS B e' b E' E) :
    Eff P n B ops ⟨some dst, .call { callee := .builtin .append, args := #[r, x], argTypes := #[t, t] }, ty, pos, after, none⟩ E ((dst, .v (.slice (some ⟨b, 0, none⟩) (k + 1) c)) :: (s, blk b e' (xs.take (k * sz) ++ us ++ xs.drop (k * sz + sz))) :: E') := by
  subst hu
  obtain ⟨i, hi, _, hs, _⟩ := hinfo.get
  intro κ a w K Q h hK
  have hre : a.eval r = _ := h.at_ r _ hr
  obtain ⟨ad, hxe, _, hcell⟩ := h.at_ x _ hx
  obtain ⟨hlt, hh⟩ := h.of s _ hblk
  have hload := run_loadCells_list (P := P) w ad us hcell
  have hkf : k * us.length + us.length ≤ c * us.length := by
    have : (k + 1) * us.length ≤ c * us.length := Nat.mul_le_mul_right _ hkc
    rwa [Nat.add_mul, Nat.one_mul] at this
  have hst := run_storeCells_at P b (k * us.length) e' us 0 xs.toArray w hh (by simp; omega) (fun v hv => List.all_eq_true.1 h1 v hv)
  have haddr : (⟨b, 0, none⟩ : Addr).add (k * us.length) = ⟨b, k * us.length, none⟩ := by unfold Addr.add; split <;> simp_all
  have hrun : (Builtin.append_ #[t, t] ty #[a.eval r, a.eval x]).run P w = .ok (.slice (some ⟨b, 0, none⟩) (k + 1) c) (w.setRow b (xs.take (k * us.length) ++ us ++ xs.drop (k * us.length + us.length)).toArray) := by
    rw [hre, hxe]
    simp only [Nat.add_zero] at hst
    simp [Builtin.append_, run_underlying ht, Builtin.lenOf, Builtin.firstCells, sizeOf, typeInfo, hi, hs, haddr, hload]
    rw [if_pos (by omega)]
    simp [hst]
  have hexec : (execOp a.eval ⟨some dst, .call { callee := .builtin .append, args := #[r, x], argTypes := #[t, t] }, ty, pos, after, none⟩).run P w = .ok (.value (.slice (some ⟨b, 0, none⟩) (k + 1) c)) (w.setRow b (xs.take (k * us.length) ++ us ++ xs.drop (k * us.length + us.length)).toArray) := by
    simp [execOp, resolve, invoke, builtin, hrun]
  have hwr : Wrote B e' b w (w.setRow b (xs.take (k * us.length) ++ us ++ xs.drop (k * us.length + us.length)).toArray) := Wrote.setRow hb hh _
  rw [if_pos (by simp [Region.wanted])]
  refine opR (by nofun) ?_
  unfold Oper.wp
  rw [hexec, Oper.upon_value]
  exact hK _ _ (hwr.below h.base) (St.put ((hl.st h hwr).push (d := blk b e' (xs.take (k * us.length) ++ us ++ xs.drop (k * us.length + us.length))) ⟨by simpa [World.setRow] using hlt, by simp [World.setRow, Array.getElem?_modify, hh]⟩) hdst rfl)
end
section
variable {P : Program} {n : Nat} {w₀ : World} {E : Env}
end
end Go.Proofs.YtfjpipkcfbmdeaaDoor
namespace Go.Proofs.YtfjpipkcfbmdeaaDoor
open Go Go.RowKit
variable {κ : Cx}
section
variable {P : Program} {n : Nat} {w₀ : World} {ops : Array Oper} {E : Env} {ty : TypeId} {pos : String} {after : Array Edge}
def YieldsX (P : Program) (N : Nat) (l : Nat) (arg : Nat → D) (J : Nat → World → Prop) {X : Type} (XE : X → Env) : Prop :=
  ∀ (i : Nat) (W : World) (u : Value) (x : X), i < N → J i W → (arg i).Of W u → (∀ p ∈ XE x, p.2.Of W undef) → YieldAt (FR none) 0 P l #[u] W fun e W' => e = .returned (.bool true) ∧ J (i + 1) W' ∧ W.heap.size ≤ W'.heap.size ∧ ∀ p ∈ XE x, p.2.Of W' undef
structure SeqsX (P : Program) (w₀ : World) (N : Nat) (l : Nat) (arg : Nat → D) (V : Nat → Env) (J : Nat → World → Prop) {X : Type} (XE : X → Env) : Prop where
  grow : ∀ i a b, J i a → Grow a b → J i b
  holds : ∀ i W, J i W → Holds w₀ (V i) W
  yields : YieldsX P N l arg J XE
theorem SeqsX.sub {N l : Nat} {arg : Nat → D} {V V' : Nat → Env} {J : Nat → World → Prop} {X : Type} {XE : X → Env} (h : SeqsX P w₀ N l arg V J XE) (hs : ∀ i, ∀ p ∈ V' i, p ∈ V i) : SeqsX P w₀ N l arg V' J XE :=
  ⟨h.grow, fun i W hJ => ⟨(h.holds i W hJ).1, (h.holds i W hJ).2.1, fun p hp => (h.holds i W hJ).2.2 p (hs i p hp)⟩, h.yields⟩
end
end Go.Proofs.YtfjpipkcfbmdeaaDoor
namespace Go.Proofs.YtfjpipkcfbmdeaaDoor
open Go Go.RowKit
variable {κ : Cx}

/-! ### Counts -/
/-- What is under level k: the blocks, or the places of the level below. -/
def un (n : Nat) : Nat → Nat
  | 0 => n
  | k + 1 => (un n k + 3) / 4
theorem un_lt (n : Nat) : ∀ (k j : Nat), j < un n k ↔ j * 4 ^ k < n
  | 0, j => by simp [un]
  | k + 1, j => by
    have h1 : j < (un n k + 3) / 4 ↔ j * 4 < un n k := by omega
    show j < (un n k + 3) / 4 ↔ _
    rw [h1, un_lt n k, Nat.mul_assoc, Nat.pow_succ, Nat.mul_comm 4]
theorem un_pos {n : Nat} (h : 1 ≤ n) (k : Nat) : 1 ≤ un n k := (un_lt n k 0).2 (by omega)
theorem un_le {n : Nat} (h : 1 ≤ n) : ∀ k, un n k ≤ n
  | 0 => Nat.le_refl _
  | k + 1 => by
    have := un_le h k
    have := un_pos h k
    show (un n k + 3) / 4 ≤ n
    omega
/-- The level of the root. -/
def hg (n : Nat) : Nat := if n ≤ 4 then 0 else if n ≤ 16 then 1 else if n ≤ 64 then 2 else if n ≤ 256 then 3 else if n ≤ 1024 then 4 else 5
theorem hg_le (n : Nat) : hg n ≤ 5 := by unfold hg; (repeat' split) <;> omega
theorem hg_up {n : Nat} (h : n ≤ 4096) : n ≤ 4 ^ (hg n + 1) := by
  unfold hg
  split
  · simpa
  split
  · simpa
  split
  · simpa
  split
  · simpa
  split
  · simpa
  · simpa
theorem hg_lo {n : Nat} (h0 : hg n ≠ 0) : 4 ^ hg n < n := by
  unfold hg at *
  split at h0
  · exact absurd rfl h0
  rw [if_neg (by omega)]
  split
  · simp; omega
  split
  · simp; omega
  split
  · simp; omega
  split
  · simp; omega
  · simp; omega
theorem un_root {n : Nat} (h1 : 1 ≤ n) (h2 : n ≤ 4096) : un n (hg n + 1) = 1 := by
  have := un_pos h1 (hg n + 1)
  have h3 := un_lt n (hg n + 1) 1
  have := hg_up h2
  omega
theorem un_big {n k : Nat} (hk : k ≤ hg n) (h0 : k ≠ 0) : 1 < un n k := by
  rw [un_lt, Nat.one_mul]
  exact Nat.lt_of_le_of_lt (Nat.pow_le_pow_right (by decide) hk) (hg_lo (by omega))
/-- Where the loops over the levels stand: at a level, or above the root. -/
theorem un_case {n k : Nat} (h1 : 1 ≤ n) (h2 : n ≤ 4096) (hk : k ≤ hg n + 1) : (1 < un n k ∧ k ≤ hg n) ∨ (¬ 1 < un n k ∧ k = 0 ∧ k ≤ hg n) ∨ (¬ 1 < un n k ∧ k ≠ 0 ∧ k = hg n + 1) := by
  by_cases h : k ≤ hg n
  · by_cases h0 : k = 0
    · by_cases h3 : 1 < un n k
      · exact .inl ⟨h3, h⟩
      · exact .inr (.inl ⟨h3, h0, h⟩)
    · exact .inl ⟨un_big h h0, h⟩
  · obtain rfl : k = hg n + 1 := by omega
    exact .inr (.inr ⟨by rw [un_root h1 h2]; decide, by omega, rfl⟩)
/-- How many places there are below a level. -/
def tot (n : Nat) : Nat → Nat
  | 0 => 0
  | l + 1 => tot n l + un n (l + 1)
/-- The first sector of a level's nodes. -/
def bs (n l : Nat) : Nat := 2 * n + 2 * tot n l
/-! ### A place -/
/-! ### In memory -/
/-- The first k counts, in an array of six. -/
def rowU (n k : Nat) : List Value := (List.range 6).map fun i => nI (if i < k then un n (i + 1) else 0)
theorem rowU_length (n k : Nat) : (rowU n k).length = 6 := by simp [rowU]
theorem rowU_get {n k i : Nat} (h : i < k) (hi : i < 6) : (rowU n k)[i]? = some (nI (un n (i + 1))) := by simp [rowU, hi, h]
theorem rowU_zero (n : Nat) : (List.replicate 6 (.int .i64 0) : List Value) = rowU n 0 := by simp [rowU, List.range, List.range.loop, List.replicate]
theorem rowU_set {n k : Nat} (h : k < 6) : (rowU n k).take (k * 1) ++ [nI (un n (k + 1))] ++ (rowU n k).drop (k * 1 + 1) = rowU n (k + 1) := by
  apply List.ext_getElem?
  intro i
  rw [Nat.mul_one]
  have hl : ((rowU n k).take k).length = k := by rw [List.length_take, rowU_length]; omega
  rcases Nat.lt_trichotomy i k with hik | rfl | hik
  · rw [List.append_assoc, List.getElem?_append_left (by omega), List.getElem?_take, if_pos hik, rowU_get hik (by omega), rowU_get (by omega) (by omega)]
  · rw [List.append_assoc, List.getElem?_append_right (by omega), hl, Nat.sub_self, rowU_get (by omega) (by omega)]; rfl
  · rw [List.getElem?_append_right (by simp only [List.length_append, hl, List.length_singleton]; omega)]
    simp only [List.length_append, hl, List.length_singleton, List.getElem?_drop, show k + 1 + (i - (k + 1)) = i from by omega]
    unfold rowU
    simp only [List.getElem?_map]
    cases hi : (List.range 6)[i]? with
    | none => rfl
    | some x =>
      have hx : i < 6 ∧ x = i := by
        obtain ⟨h1, h2⟩ := List.getElem?_eq_some_iff.1 hi
        simp at h1 h2; exact ⟨h1, h2.symm⟩
      obtain ⟨_, rfl⟩ := hx
      simp only [Option.map_some]
      rw [if_neg (by omega), if_neg (by omega)]
/-- A shape, whose counts stand in block b. -/
def shV (n b : Nat) : List Value := [nI n, .slice (some ⟨b, 0, none⟩) (hg n + 1) 6]
/-! ### Operations -/
theorem FnM.key {P : Program} {f : FuncId} {k : Nat} {e d : D} {ds : List D} (k' : Nat) (h : FnM P f [(k, e)] ds d) : FnM P f [(k', e)] ds d :=
  ⟨h.body, fun vs w hM h1 h2 => h.calls vs w (fun p hp => by simp only [List.mem_cons, List.not_mem_nil, or_false] at hp; subst hp; exact hM (k', e) List.mem_cons_self) h1 h2⟩
/-- From a contract that speaks of a block by name, one that takes a new value over such a block. -/
theorem FnM.new {P : Program} {f : FuncId} {k : Nat} {T : TypeId} {d : D} {val : Nat → Value} {xs : List Value} {ds : List D} (h : ∀ b, FnM P f [(k, blk b T xs)] (.v (val b) :: ds) d) : Fn P f (newD 0 T val xs :: ds) d :=
  ⟨(h 0).body, fun vs w hl hv => by
    cases vs with
    | nil => simp at hl
    | cons v vs =>
      obtain ⟨b, h1, _, h3, h4⟩ := hv 0 _ v rfl rfl
      subst h1
      refine (h b).calls (val b :: vs) w (fun p hp => ?_) hl fun j e u he hu => ?_
      · simp only [List.mem_cons, List.not_mem_nil, or_false] at hp; subst hp; exact ⟨h3, h4⟩
      · cases j with
        | zero => simp only [List.getElem?_cons_zero, Option.some.injEq] at he hu; subst he; subst hu; rfl
        | succ j => exact hv (j + 1) e u (by simpa using he) hu⟩
section
variable {P : Program} {B : Nat} {E : Env} {dst : Option Tmp} {ty : TypeId} {pos : String} {after : Array Edge} {guard : Option (Nat × Bool)}
/-- A call of a function that reads one block that is known. -/
theorem ok_callK {f : FuncId} {args : Array Operand} {argTypes : Array TypeId} {ds : List D} {d e : D} {k₀ : Nat} (k : Nat) (hf : FnM P f [(k₀, e)] ds d) (hk : vbase ≤ k) (hE : E.look k = some e) (ha : Args E ds args.toList) :
    OpOk P B ⟨dst, .call { callee := .value (.func f), args := args, argTypes := argTypes }, ty, pos, after, guard⟩ E d :=
  ok_callM (hf.key k) (Sub.cons hE Sub.nil) (fun p hp => by simp only [List.mem_cons, List.not_mem_nil, or_false] at hp; subst hp; exact hk) ha
/-- An element's address, of several cells, in a slice whose value is known. -/
theorem ok_indexS {t e : TypeId} {z : Value} {nb sz : Nat} {x i : Operand} {b o n c : Nat} {k : IntKind} {j : Int} (m : Nat) (ht : P.underlying t = some (.slice e)) (hs : InfoP P e z sz nb) (hx : E.at x = some (.v (.slice (some ⟨b, o, none⟩) n c))) (hi : E.at i = some (.v (.int k j)))
    (h0 : j = (m : Int)) (hn : m < n) : OpOk P B ⟨dst, .indexAddr t x i, ty, pos, after, guard⟩ E (.v (.pointer (some ⟨b, o + m * sz, none⟩))) := fun ρ w _ _ hρ => by
  have h1 : ρ x = _ := hρ x (by simp [Op.operands]) _ hx
  have hi' : ρ i = .int k j := hρ i (by simp [Op.operands]) _ hi
  obtain ⟨info, hinfo, _, hsize, _⟩ := hs.get
  subst h0
  refine out_val (w' := w) ?_ ⟨Grow.refl w, rfl⟩
  simp [execOp, h1, hi', Instr.indexAt, asIntOf, run_underlying ht, sizeOf, typeInfo, hinfo, hsize, hn, add_lit0]
/-- A slice of one number. -/
theorem ok_build1N {t e : TypeId} {z : Value} {nb : Nat} {x : Operand} {k : IntKind} {a : Int} (ht : P.underlying t = some (.slice e)) (hs : InfoP P e z 1 nb) (hz : z.cells.size = 1) (hx : E.at x = some (.v (.int k a))) :
    OpOk P B ⟨dst, .buildSlice t 1 #[(0, x)], ty, pos, after, guard⟩ E (oneP [.int k a]) := fun ρ w _ _ hρ => by
  obtain ⟨i, hi, hzv, hsize, _⟩ := hs.get
  have h1 : ρ x = .int k a := hρ x (by simp [Op.operands]) _ hx
  have hfill : Instr.fill (fun j => some (j * i.size, i.size)) ((Array.range (1 * i.size)).map (z.cells[· % z.cells.size]!)) [(0, ρ x)] = some #[.int k a] := by
    rw [hsize, h1, hz]
    have h2 : ((Array.range (1 * 1)).map fun y => z.cells[y % 1]!) = #[z.cells[0]!] := by
      rw [show Array.range (1 * 1) = #[0] from by decide]
      simp
    rw [h2]
    simp [Instr.fill, Value.cells]
  have hr := run_buildSlice (P := P) w t e 1 #[(0, ρ x)] #[.int k a] i z ht hi hzv (by rw [hsize]; decide) (by rw [hsize]; decide) (by simpa using hfill)
  refine out_val (x := .slice (some ⟨w.heap.size, 0, none⟩) 1 1) (w' := w.alloc (.cells #[.int k a] e)) (by simp [execOp, hr]) ⟨Grow.alloc w _, _, rfl, by simp, fun j u hu => ?_⟩
  have hh : (w.alloc (.cells #[.int k a] e)).heap[w.heap.size]? = some (.cells #[.int k a] e (0, 0)) := heap_alloc_new w _
  rw [show (⟨w.heap.size, 0, none⟩ : Addr).add j = ⟨w.heap.size, j, none⟩ from by unfold Addr.add; split <;> simp_all]
  simp only [World.cell?, hh]
  simpa using hu
end
theorem wrap_eq {a : Int} {m : Nat} (h : a = (m : Int)) (hm : m < 9223372036854775808) : Value.int .i64 (IntKind.i64.wrap a) = nI m := by rw [h, wrapN_i64 hm]
end Go.Proofs.YtfjpipkcfbmdeaaDoor
namespace Go.Proofs.YtfjpipkcfbmdeaaDoor
open Go Go.RowKit
set_option linter.unusedVariables false
set_option maxRecDepth 20000
theorem info56 : InfoIs Tryd.prog 56 (.slice none 0 0) 24 := by unfold InfoIs; kernel_rfl
theorem zero89 : ZeroIs Tryd.prog 89 ([.int .i64 0] ++ [.slice none 0 0]) := by unfold ZeroIs; kernel_rfl
theorem size89 : SizeIs Tryd.prog 89 2 := by unfold SizeIs; kernel_rfl
theorem field89_1 : FieldIs Tryd.prog 89 1 1 1 := by unfold FieldIs; kernel_rfl
theorem size24 : SizeIs Tryd.prog 24 1 := by unfold SizeIs; kernel_rfl
theorem field24_0 : FieldIs Tryd.prog 24 0 0 1 := by unfold FieldIs; kernel_rfl
theorem zero100 : ZeroIs Tryd.prog 100 (List.replicate 6 (.int .i64 0)) := by unfold ZeroIs; kernel_rfl
theorem infoPI : InfoP Tryd.prog 3 (.int .i64 0) 1 8 := by unfold InfoP; kernel_rfl
theorem buildSh (n b c d : Nat) : Tryd.prog.built 89 [(0, nI n), (1, .slice (some ⟨b, 0, none⟩) c d)] = some ([nI n, .slice (some ⟨b, 0, none⟩) c d] : List Value).toArray := by kernel_rfl
theorem Check_ok (n : Nat) (h1 : 1 ≤ n) (h2 : n ≤ 4096)  : Fn Tryd.prog 34 [.v (nI (n))] (.v (.int .i64 (0))) := by
 refine Fn.of Tryd.func34 rfl (by kernel_rfl) Tryd.ntmps34 (by simp) (fun w => [(0, .v (nI (n)))]) (fun w => (Start.v rfl Start.nil)) fun w₀ => ?_
 refine GS ?_
 refine TL ?_
 refine RA rfl ?_
 refine RN ?_
 refine A.seq ?_
 refine GS ?_
 refine TL ?_
 refine RM rfl ?_
 refine RBS rfl rfl rfl (.bool false) (by first | rfl | (simp; done) | (simp; omega) | (simp [*]; done) | (simp [*]; omega)) ?_
 refine RM rfl ?_
 refine RQ (ok_move rfl) ?_
 refine RQ (ok_bin rfl rfl rfl) ?_; refine RZ (.bool false) (by first | rfl | (simp; done) | (simp; omega) | (simp [*]; done) | (simp [*]; omega)) ?_
 refine RP rfl rfl ?_
 refine RN ?_
 refine A.no rfl ?_
 refine A.skip ?_
 refine EN ?_
 refine GS ?_
 refine TL ?_
 refine RA rfl ?_
 refine RN ?_
 refine A.ret ?_
 exact End.ret1 rfl rfl (by first | exact Le.refl _ | exact Le.old _ _)
theorem Check_lo (m : Int) (h : m < 1) : Fn Tryd.prog 34 [.v (.int .i64 (m))] (.v (.int .i64 (1))) := by
 refine Fn.of Tryd.func34 rfl (by kernel_rfl) Tryd.ntmps34 (by simp) (fun w => [(0, .v (.int .i64 (m)))]) (fun w => (Start.v rfl Start.nil)) fun w₀ => ?_
 refine GS ?_
 refine TL ?_
 refine RA rfl ?_
 refine RN ?_
 refine A.seq ?_
 refine GS ?_
 refine TL ?_
 refine RM rfl ?_
 refine RBS rfl rfl rfl (.bool true) (by first | rfl | (simp; done) | (simp; omega) | (simp [*]; done) | (simp [*]; omega)) ?_
 refine RM rfl ?_
 refine RK ?_
 refine RK ?_
 refine RP rfl rfl ?_
 refine RN ?_
 refine A.yes rfl ?_
 refine GS ?_
 refine TL ?_
 refine RA rfl ?_
 refine RN ?_
 refine A.ret ?_
 refine End.ret_then ?_
 exact End.ret1 rfl rfl (by first | exact Le.refl _ | exact Le.old _ _)
theorem Check_hi (m : Int) (h : 4096 < m) : Fn Tryd.prog 34 [.v (.int .i64 (m))] (.v (.int .i64 (1))) := by
 refine Fn.of Tryd.func34 rfl (by kernel_rfl) Tryd.ntmps34 (by simp) (fun w => [(0, .v (.int .i64 (m)))]) (fun w => (Start.v rfl Start.nil)) fun w₀ => ?_
 refine GS ?_
 refine TL ?_
 refine RA rfl ?_
 refine RN ?_
 refine A.seq ?_
 refine GS ?_
 refine TL ?_
 refine RM rfl ?_
 refine RBS rfl rfl rfl (.bool false) (by first | rfl | (simp; done) | (simp; omega) | (simp [*]; done) | (simp [*]; omega)) ?_
 refine RM rfl ?_
 refine RQ (ok_move rfl) ?_
 refine RQ (ok_bin rfl rfl rfl) ?_; refine RZ (.bool true) (by first | rfl | (simp; done) | (simp; omega) | (simp [*]; done) | (simp [*]; omega)) ?_
 refine RP rfl rfl ?_
 refine RN ?_
 refine A.yes rfl ?_
 refine GS ?_
 refine TL ?_
 refine RA rfl ?_
 refine RN ?_
 refine A.ret ?_
 refine End.ret_then ?_
 exact End.ret1 rfl rfl (by first | exact Le.refl _ | exact Le.old _ _)
theorem Check_bad (m : Int) (hm : ¬ (1 ≤ m ∧ m ≤ 4096)) : Fn Tryd.prog 34 [.v (.int .i64 (m))] (.v (.int .i64 (1))) := by
 by_cases h0 : m < 1
 ·exact Check_lo m h0
 ·exact Check_hi m (by omega)
theorem countsOf_fnB (n : Nat) (h1 : 1 ≤ n) (h2 : n ≤ 4096)  : FnB Tryd.prog 42 [.v (nI (n))] (fun B => newD B 100 (fun b => .slice (some ⟨b, 0, none⟩) (hg n + 1) 6) (rowU n (hg n + 1))) := by
 refine FnB.of Tryd.func42 rfl (by kernel_rfl) Tryd.ntmps42 (by simp) (fun w => [(0, .v (nI (n)))]) (fun w => (Start.v rfl Start.nil)) fun w₀ => ?_
 refine GS ?_
 refine TL ?_
 refine RA rfl ?_
 refine RN ?_
 refine GS ?_
 refine TN 0 ?_
 refine RN ?_
 refine ⟨_, _, eff_alloc (n := 24) (d := 3) (k := 1000003) zero100 (by decide), fun b3 hb3 => ?_⟩
 have hBb3 := hb3.1
 refine TL ?_
 refine RN ?_
 refine GS ?_
 refine TL ?_
 refine RS (ok_sliceX (l := 0) (h := 0) (m := 6) Tryd.underlying100 info3 rfl (.inr ⟨rfl, rfl⟩) (.inl ⟨_, _, rfl, rfl⟩) (.inl ⟨_, _, rfl, rfl⟩) (by decide) (by decide) (by decide) (.inl (by decide))) ?_; refine RZ (.slice (some ⟨b3, 0, none⟩) 0 6) (rfl) ?_
 refine RA rfl ?_
 refine RN ?_
 refine A.seq ?_
 refine GS ?_
 refine TL ?_
 refine RM rfl ?_
 refine RA rfl ?_
 refine RN ?_
 refine A.block ?_
 refine A.loop (ι := Nat) (fun k => k ≤ hg n + 1) (fun k => [(4, .v (.slice (some ⟨b3, 0, none⟩) k 6)), (5, .v (nI (un n k))), (1000003, blk b3 100 (rowU n (k)))]) (fun k => hg n + 1 - k) 0 ?_ ?_ ?_
 ·exact Nat.zero_le _
 ·exact (KC 4 rfl (KC 5 rfl (KE 1000003 rfl (congrArg _ (rowU_zero n)) KN)))
 intro k hk
 have hu0 := un_le h1 (k)
 have hv0 := un_pos h1 (k)
 have hu1 := un_le h1 (k + 1)
 have hv1 := un_pos h1 (k + 1)
 have hh := hg_le n
 refine A.seq ?_
 rcases un_case h1 h2 hk with ⟨hA, hA'⟩ | ⟨hA, hA', hA''⟩ | ⟨hA, hA', hA''⟩
 ·refine GS ?_
  refine TL ?_
  refine RM rfl ?_
  refine RBS rfl rfl rfl (.bool true) (by first | rfl | (simp; done) | (simp; omega) | (simp [*]; done) | (simp [*]; omega)) ?_
  refine RM rfl ?_
  refine RK ?_
  refine RK ?_
  refine RK ?_
  refine RP rfl rfl ?_
  refine RN ?_
  refine A.yes rfl ?_
  refine A.skip ?_
  refine EN ?_
  refine A.block ?_
  refine GS ?_
  refine TL ?_
  refine RM rfl ?_
  refine RBS rfl rfl rfl (nI (un n k + 4)) (wrap_eq (by omega) (by omega)) ?_
  refine RBS rfl rfl rfl (nI (un n k + 3)) (wrap_eq (by omega) (by omega)) ?_
  refine RS (ok_div rfl rfl (by decide)) ?_; refine RZ (nI (un n (k + 1))) (by rw [tdiv_lit _ (by decide)]; exact wrap_eq rfl (by first | omega | (simp only [Int.toNat]; omega))) ?_
  refine RA rfl ?_
  refine RN ?_
  refine GE ?_
  refine TF 3 ?_
  refine RM rfl ?_
  refine RM rfl ?_
  refine RS (ok_build1N Tryd.underlying56 infoPI rfl rfl) ?_
  refine RN ?_
  refine ⟨_, eff_appendRoom (n := 24) (s := 1000003) (k := k) (c := 6) (us := [nI (un n (k + 1))]) Tryd.underlying56 infoPI rfl rfl rfl rfl (by omega) hBb3 rfl (by rw [rowU_length]; decide) (fun q hq => by rw [Tryd.underlying56] at hq; cases hq) (by decide) (LV 5 rfl LN), ?_⟩
  refine TL ?_
  refine RA rfl ?_
  refine RN ?_
  refine End.sub (KC 4 rfl (KC 5 rfl (KE 1000003 rfl (show blk b3 100 _ = blk b3 100 (rowU n (k + 1)) from congrArg _ (rowU_set (by omega))) KN))) ?_
  refine End.normal_block ?_
  refine End.normal_then ?_
  refine End.again (k + 1) ?_ ?_ ?_
  ·show _ ≤ _; omega
  ·show _ - _ < _ - _; omega
  ·exact (KC 4 rfl (KC 5 rfl (KC 1000003 rfl KN)))
 ·refine GS ?_
  refine TL ?_
  refine RM rfl ?_
  refine RBS rfl rfl rfl (.bool false) (by first | rfl | (simp; done) | (simp; omega) | (simp [*]; done) | (simp [*]; omega)) ?_
  refine RM rfl ?_
  refine RQ (ok_move rfl) ?_
  refine RQ (ok_lenV Tryd.underlying56 rfl) ?_
  refine RQ (ok_bin rfl rfl rfl) ?_; refine RZ (.bool true) (by first | rfl | (simp; done) | (simp; omega) | (simp [*]; done) | (simp [*]; omega)) ?_
  refine RP rfl rfl ?_
  refine RN ?_
  refine A.yes rfl ?_
  refine A.skip ?_
  refine EN ?_
  refine A.block ?_
  refine GS ?_
  refine TL ?_
  refine RM rfl ?_
  refine RBS rfl rfl rfl (nI (un n k + 4)) (wrap_eq (by omega) (by omega)) ?_
  refine RBS rfl rfl rfl (nI (un n k + 3)) (wrap_eq (by omega) (by omega)) ?_
  refine RS (ok_div rfl rfl (by decide)) ?_; refine RZ (nI (un n (k + 1))) (by rw [tdiv_lit _ (by decide)]; exact wrap_eq rfl (by first | omega | (simp only [Int.toNat]; omega))) ?_
  refine RA rfl ?_
  refine RN ?_
  refine GE ?_
  refine TF 3 ?_
  refine RM rfl ?_
  refine RM rfl ?_
  refine RS (ok_build1N Tryd.underlying56 infoPI rfl rfl) ?_
  refine RN ?_
  refine ⟨_, eff_appendRoom (n := 24) (s := 1000003) (k := k) (c := 6) (us := [nI (un n (k + 1))]) Tryd.underlying56 infoPI rfl rfl rfl rfl (by omega) hBb3 rfl (by rw [rowU_length]; decide) (fun q hq => by rw [Tryd.underlying56] at hq; cases hq) (by decide) (LV 5 rfl LN), ?_⟩
  refine TL ?_
  refine RA rfl ?_
  refine RN ?_
  refine End.sub (KC 4 rfl (KC 5 rfl (KE 1000003 rfl (show blk b3 100 _ = blk b3 100 (rowU n (k + 1)) from congrArg _ (rowU_set (by omega))) KN))) ?_
  refine End.normal_block ?_
  refine End.normal_then ?_
  refine End.again (k + 1) ?_ ?_ ?_
  ·show _ ≤ _; omega
  ·show _ - _ < _ - _; omega
  ·exact (KC 4 rfl (KC 5 rfl (KC 1000003 rfl KN)))
 ·refine GS ?_
  refine TL ?_
  refine RM rfl ?_
  refine RBS rfl rfl rfl (.bool false) (by first | rfl | (simp; done) | (simp; omega) | (simp [*]; done) | (simp [*]; omega)) ?_
  refine RM rfl ?_
  refine RQ (ok_move rfl) ?_
  refine RQ (ok_lenV Tryd.underlying56 rfl) ?_
  refine RQ (ok_bin rfl rfl rfl) ?_; refine RZ (.bool false) (by first | rfl | (simp; done) | (simp; omega) | (simp [*]; done) | (simp [*]; omega)) ?_
  refine RP rfl rfl ?_
  refine RN ?_
  refine A.no rfl ?_
  refine A.exit ?_
  refine End.exit_then ?_
  refine End.exit_then ?_
  refine End.exit_here ?_
  refine EN ?_
  refine GS ?_
  refine TL ?_
  refine RM rfl ?_
  refine RA rfl ?_
  refine RN ?_
  refine A.ret ?_
  exact End.newF rfl rfl (kg := 1000003) rfl hBb3 (by rw [hA'']) (by rw [hA''])
theorem shapeOf_fnB (n : Nat) (h1 : 1 ≤ n) (h2 : n ≤ 4096)  : FnB Tryd.prog 35 [.v (nI (n))] (fun B => newD B 100 (fun b => aggV (shV n b)) (rowU n (hg n + 1))) := by
 refine FnB.of Tryd.func35 rfl (by kernel_rfl) Tryd.ntmps35 (by simp) (fun w => [(0, .v (nI (n)))]) (fun w => (Start.v rfl Start.nil)) fun w₀ => ?_
 refine GS ?_
 refine TN 0 ?_
 refine RN ?_
 refine ⟨_, _, eff_alloc (n := 11) (d := 2) (k := 1000002) zero89 (by decide), fun b2 hb2 => ?_⟩
 have hBb2 := hb2.1
 refine TL ?_
 refine RN ?_
 refine A.seq ?_
 refine GS ?_
 refine TL ?_
 refine RM rfl ?_
 refine RS (ok_call (Check_ok n h1 h2) (A1 rfl)) ?_
 refine RBS rfl rfl rfl (.bool false) (by first | rfl | (simp; done) | (simp; omega) | (simp [*]; done) | (simp [*]; omega)) ?_
 refine RN ?_
 refine A.no rfl ?_
 refine A.skip ?_
 refine EN ?_
 refine GS ?_
 refine TN 2 ?_
 refine RM rfl ?_
 refine RM rfl ?_
 refine RN ?_
 refine ⟨_, _, eff_name (n := 11) (d := 9) (k := 1000009) rfl rfl (fun B' => ok_callB (countsOf_fnB n h1 h2) (fun _ _ h => newD_mono _ _ h) (A1 rfl)) (by decide) (by decide), fun b9 hb9 => ?_⟩
 have hBb9 := hb9.1
 have hlt_b2_b9 : b2 < b9 := hb9.2 1000002 _ _ _ rfl
 refine TF 4 ?_
 refine RS (ok_litS [(0, nI n), (1, .slice (some ⟨b9, 0, none⟩) (hg n + 1) 6)] (shV n b9) ⟨rfl, rfl, rfl, rfl, trivial⟩ (buildSh _ _ _ _)) ?_
 refine RN ?_
 refine ⟨_, eff_storeA (n := 11) (s := 1000002) (size89.of (rfl)) rfl rfl (rfl) hBb2 rfl (rfl) (LV 2 rfl (LT 1000009 rfl LN)), ?_⟩
 refine TL ?_
 refine RN ?_
 refine A.ret ?_
 exact End.new1 rfl Tryd.underlying89 rfl (size89.of rfl) rfl (s := 1000002) rfl (kg := 1000009) rfl hBb9 rfl rfl
theorem height_fn (n b : Nat) : Fn Tryd.prog 36 [.v (aggV (shV n b))] (.v (nI (hg n))) := by
 have hh := hg_le n
 refine Fn.of Tryd.func36 rfl (by kernel_rfl) Tryd.ntmps36 (by simp) (fun w => [(0, .v (aggV (shV n b)))]) (fun w => (Start.v rfl Start.nil)) fun w₀ => ?_
 refine GS ?_
 refine TN 0 ?_
 refine RN ?_
 refine ⟨_, _, eff_box (n := 7) (d := 1) (k := 1000001) rfl (by decide), fun b1 hb1 => ?_⟩
 have hBb1 := hb1.1
 refine TL ?_
 refine RA rfl ?_
 refine RN ?_
 refine GS ?_
 refine TL ?_
 refine RS (ok_field field89_1 (by decide) rfl) ?_
 refine RS (ok_loadV (s := 1000001) (by decide) Tryd.underlying56 rfl rfl rfl (rfl)) ?_
 refine RS (ok_lenV Tryd.underlying56 rfl) ?_
 refine RBS rfl rfl rfl (nI (hg n)) (wrap_eq (by omega) (by omega)) ?_
 refine RA rfl ?_
 refine RN ?_
 refine A.ret ?_
 exact End.ret1 rfl rfl (by first | exact Le.refl _ | exact Le.old _ _)
end Go.Proofs.YtfjpipkcfbmdeaaDoor
namespace Go.Proofs.YtfjpipkcfbmdeaaDoor
open Go Go.RowKit
variable {κ : Cx}
def subs : List Nat → List (List Nat)
  | [] => [[]]
  | x :: r => subs r ++ (subs r).map (x :: ·)
theorem filter_subs (f : Nat → Bool) : ∀ l : List Nat, l.filter f ∈ subs l
  | [] => by simp [subs]
  | x :: r => by
    have ih := filter_subs f r
    rw [List.filter_cons, subs, List.mem_append]
    split
    · exact .inr (List.mem_map.2 ⟨_, ih, rfl⟩)
    · exact .inl ih
def keeps (ops : Array Oper) (S : List Nat) (t : Nat) : Bool := !(S.any fun i => ((ops[i]?).bind (·.dst)) == some t)
/-- What is known without the operations S. -/
def without (ops : Array Oper) (S : List Nat) (E : Env) : Env := E.filter fun q => keeps ops S q.1
theorem without_look {ops : Array Oper} {S : List Nat} {t : Nat} {d : D} : ∀ {E : Env}, (without ops S E).look t = some d → E.look t = some d ∧ keeps ops S t = true
  | [], h => by simp [without, Env.look] at h
  | (s, e) :: E, h => by
    unfold without at h
    rw [List.filter_cons] at h
    by_cases hst : s = t
    · subst hst
      by_cases hk : keeps ops S s = true
      · rw [if_pos hk] at h
        rw [look_here] at h ⊢
        exact ⟨h, hk⟩
      · rw [if_neg hk] at h
        exact absurd (without_look (E := E) h).2 hk
    · rw [look_past _ _ hst]
      split at h
      · rw [look_past _ _ hst] at h; exact without_look (E := E) h
      · exact without_look (E := E) h
theorem look_without {ops : Array Oper} {S : List Nat} {t : Nat} {d : D} (hk : keeps ops S t = true) : ∀ {E : Env}, E.look t = some d → (without ops S E).look t = some d
  | [], h => by simp [Env.look] at h
  | (s, e) :: E, h => by
    unfold without
    rw [List.filter_cons]
    by_cases hst : s = t
    · subst hst
      rw [if_pos hk]
      rw [look_here] at h ⊢
      exact h
    · rw [look_past _ _ hst] at h
      split
      · rw [look_past _ _ hst]; exact look_without hk h
      · exact look_without hk h
/-- The operations before p have come up but for S. -/
def listedS (ops : Array Oper) (p : Nat) (S : List Nat) : Array Bool := ((List.range ops.size).map fun i => decide (i < p) && !S.contains i).toArray
theorem listedS_get {ops : Array Oper} {p i : Nat} {S : List Nat} (h : i < ops.size) : (listedS ops p S)[i]? = some (decide (i < p) && !S.contains i) := by simp [listedS, h]
def lateOk (ops : Array Oper) (p : Nat) (late : List Nat) : Bool :=
  let b := (befores ops).map List.eraseDups
  decide (p < ops.size) && late.all (· < p) && (List.range ops.size).all fun i => decide (i < p) || ((List.range p).all fun j => late.contains j || (b.getD i []).contains j) && (i == p || (b.getD i []).contains p)
theorem AnyT.mono {P : Program} {n B : Nat} {ops : Array Oper} {C : Env → Prop} : ∀ {m k : Nat} {listed : Array Bool} {E : Env}, m ≤ k → AnyT P n B ops C m listed E → AnyT P n B ops C k listed E
  | 0, k, _, _, _, ⟨hr, hC⟩ => AnyT.last hr hC
  | m + 1, 0, _, _, h, _ => absurd h (by omega)
  | m + 1, k + 1, _, _, h, .inl h' => .inl h'
  | m + 1, k + 1, _, _, h, .inr ⟨hne, h'⟩ => .inr ⟨hne, fun i hi => by
    obtain ⟨o, ho, ι, G, E₂, he, hn⟩ := h' i hi
    exact ⟨o, ho, ι, G, E₂, he, fun j hj => AnyT.mono (by omega) (hn j hj)⟩⟩
section
variable {P : Program} {n B : Nat} {ops : Array Oper} {Q : Exit → Act → World → Prop}
theorem wp_segL {p : Nat} {late : List Nat} {E E' : Env} {ds : List D} {a₀ : Act} {w₀ : World} (htied : tied ops = true) (hfits : fits n ops = true) (hlate : lateOk ops p late = true) (ht : Trace P B ops (ops.toList.take p) E ds E') (h₀ : St κ n B E a₀ w₀)
    (hnext : ∀ S ∈ subs late, ∀ fuel a' w', unlisted ops (listedS ops p S) ≤ fuel + 1 → Grow w₀ w' → St κ n B (without ops S E') a' w' → wpOpIn (FR κ.rd) 0 P ops Q p (wpAnyIn (FR κ.rd) 0 P .any ops Q fuel ((listedS ops p S).setIfInBounds p true)) a' w') :
    ∀ (fuel : Nat) (listed : Array Bool) (a : Act) (w : World), unlisted ops listed ≤ fuel → Inv κ n B ops 0 p E ds a₀ w₀ listed a w → wpAnyIn (FR κ.rd) 0 P .any ops Q fuel listed a w := by
  have hb := hlate
  simp only [lateOk, Bool.and_eq_true, decide_eq_true_eq, List.all_eq_true, List.mem_range, Bool.or_eq_true, beq_iff_eq] at hb
  obtain ⟨⟨hp, hlp⟩, hb⟩ := hb
  have hidx : ∀ (i : Nat) (o : Oper), i < p → ops[i]? = some o → (ops.toList.take p)[i]? = some o := fun i o h2 h3 => by
    rw [List.getElem?_take, if_pos h2]; simpa using h3
  have hidx' : ∀ (j : Nat) (o : Oper), (ops.toList.take p)[j]? = some o → ops[j]? = some o ∧ j < p := fun j o h => by
    rw [List.getElem?_take] at h
    split at h
    · exact ⟨by simpa using h, by assumption⟩
    · cases h
  have hends : ∀ (listed : Array Bool) (a : Act) (w : World), Inv κ n B ops 0 p E ds a₀ w₀ listed a w → Region.ready .any ops listed = [] → False := by
    intro listed a w I hr
    have hall : ∀ i, i < ops.size → listed.getD i false = true := by
      intro i
      induction i using Nat.strongRecOn with
      | _ i ih =>
        intro hi
        rcases hb : listed.getD i false with _ | _
        · exfalso
          have : i ∈ Region.ready .any ops listed := by
            rw [mem_ready]
            refine ⟨?_, ops[i], Array.getElem?_eq_getElem hi, fun e he hbd => ih e.on (tied_edge htied (Array.getElem?_eq_getElem hi) he hbd) (Nat.lt_trans (tied_edge htied (Array.getElem?_eq_getElem hi) he hbd) hi)⟩
            have : i < listed.size := by rw [I.lsize]; exact hi
            simp [this] at hb ⊢
            exact hb
          rw [hr] at this
          cases this
        · rfl
    have h1 := hall p hp
    rw [I.high p (Nat.le_refl _)] at h1
    cases h1
  intro fuel
  induction fuel with
  | zero =>
    intro listed a w hc I
    have hr : Region.ready .any ops listed = [] := by
      rcases hr : Region.ready .any ops listed with _ | ⟨i, l⟩
      · rfl
      · exfalso
        have hi : i ∈ Region.ready .any ops listed := by rw [hr]; exact List.mem_cons_self
        obtain ⟨hu, o, ho, _⟩ := mem_ready.1 hi
        have hpos : 0 < unlisted ops listed := List.countP_pos_iff.2 ⟨i, List.mem_range.2 (Array.getElem?_eq_some_iff.1 ho).1, by simp only [hu]; rfl⟩
        omega
    exact (hends listed a w I hr).elim
  | succ fuel ih =>
    intro listed a w hc I
    refine ⟨fun hr => (hends listed a w I hr).elim, fun i hi => ?_⟩
    obtain ⟨hu, o, ho, hall⟩ := mem_ready.1 hi
    have hlt : i < ops.size := (Array.getElem?_eq_some_iff.1 ho).1
    have huf : listed.getD i false = false := by
      have : i < listed.size := by rw [I.lsize]; exact hlt
      simp [this] at hu ⊢
      exact hu
    have hready : ∀ o', ops[i]? = some o' → ∀ e ∈ o'.after, Region.binds .any e = true → listed.getD e.on false = true := fun o' ho' e he hb => by
      rw [ho] at ho'; injection ho' with ho'; subst ho'; exact hall e he hb
    rcases Nat.lt_or_ge i p with hip | hip
    case inr =>
      have hmem : ∀ k l, l ∈ (Array.map List.eraseDups (befores ops)).getD k [] → l ∈ (befores ops).getD k [] := fun k l h => by
        rw [Array.getD_eq_getD_getElem?, Array.getElem?_map] at h
        rw [Array.getD_eq_getD_getElem?]
        cases hk : (befores ops)[k]? with
        | none => rw [hk] at h; simp at h
        | some v => rw [hk] at h; simpa using h
      obtain ⟨hb1, hb2⟩ := (hb i hlt).resolve_left (by omega)
      have hi : i = p := by
        rcases hb2 with h | h
        · exact h
        · have h2 := I.befores htied i p hready (hmem i p (by simpa using h))
          rw [I.high p (Nat.le_refl _)] at h2
          cases h2
      subst hi
      have hlow : ∀ k, k < i → k ∉ late → listed.getD k false = true := fun k hk hnl => by
        have h1 := (hb1 k hk).resolve_left (by simpa using hnl)
        exact I.befores htied i k hready (hmem i k (by simpa using h1))
      have hS := filter_subs (fun j => !listed.getD j false) late
      have hlist : listed = listedS ops i (late.filter fun j => !listed.getD j false) := by
        apply Array.ext_getElem?
        intro k
        rcases Nat.lt_or_ge k ops.size with hk | hk
        · rw [listedS_get hk]
          have hk' : k < listed.size := by rw [I.lsize]; exact hk
          have hg : listed[k]? = some (listed.getD k false) := by simp [hk']
          rw [hg]
          congr 1
          rcases Nat.lt_or_ge k i with h | h
          · by_cases hkl : k ∈ late
            · cases hv : listed.getD k false with
              | true => rw [Array.getD_eq_getD_getElem?] at hv; simp [h, hkl, hv]
              | false => rw [Array.getD_eq_getD_getElem?] at hv; simp [h, hkl, hv]
            · rw [hlow k h hkl]; simp [h, hkl]
          · rw [I.high k h]; simp; omega
        · rw [Array.getElem?_eq_none (by rw [I.lsize]; exact hk), Array.getElem?_eq_none (by simp [listedS]; exact hk)]
      have hst : St κ n B (without ops (late.filter fun j => !listed.getD j false) E') a w := by
        refine ⟨I.base, I.defers, I.size, fun t e he => ?_⟩
        obtain ⟨he, hkeep⟩ := without_look he
        rcases ht.last t e he with ⟨j, o', hj, hd, hds⟩ | ⟨hno, hl⟩
        · obtain ⟨hj', hjp⟩ := hidx' j o' hj
          refine I.facts j o' t e (Nat.zero_le _) hj' ?_ hd (by rw [Nat.sub_zero]; exact hds)
          by_cases hjl : j ∈ late
          · cases hv : listed.getD j false with
            | true => rfl
            | false =>
              exfalso
              simp only [keeps, Bool.not_eq_true', List.any_eq_false, beq_iff_eq] at hkeep
              exact hkeep j (List.mem_filter.2 ⟨hjl, by simp [hv]⟩) (by rw [hj']; exact hd)
          · exact hlow j hjp hjl
        · rw [I.frame t fun j o' _ hj hl' => ?_]
          · exact (h₀.of t e hl).grow I.grow
          · rcases Nat.lt_or_ge j i with hjp | hjp
            · exact hno j o' (hidx j o' hjp hj)
            · rw [I.high j hjp] at hl'; cases hl'
      have := hnext _ hS fuel a w (by rw [← hlist]; exact hc) I.grow hst
      rw [← hlist] at this
      exact this
    obtain ⟨t, d, Ei, hdst, hds, hgood, henv⟩ := ht.nth (i := i) (o := o) (hidx i o hip ho)
    have hf := fits_mem hfits (o := o) (by simpa using Array.mem_of_getElem? ho)
    refine wpOpR_step ho fun K hK => good_wp I.base (fun t e hvt he => ?_) hdst hgood (fun r e hs he => ?_) (fun r hs => by rw [I.size]; exact hf.1 r hs) fun x w' g hx => hK _ _ (ih _ _ _ ?_ ?_)
    · have hnb := fits_base hfits
      rcases henv t e he with ⟨j, q, hji, hj, hpd, hpds⟩ | ⟨hno, hl⟩
      · obtain ⟨hj', _⟩ := hidx' j q hj
        have h9 : t < n := (fits_mem hfits (o := q) (by simpa using Array.mem_of_getElem? hj')).2 t hpd
        exact absurd (Nat.lt_of_lt_of_le h9 hnb) (Nat.not_lt.2 hvt)
      · have h1 := (h₀.virt hnb) t e hvt hl
        exact h1.grow I.grow
    · rcases henv r e he with ⟨j, q, hji, hj, hpd, hpds⟩ | ⟨hno, hl⟩
      · obtain ⟨hj', hjp⟩ := hidx' j q hj
        obtain ⟨ed, he1, hb, hon⟩ := ((tied_pair htied ho hj' hpd (by omega)).2 hs).1 (by omega)
        refine I.facts j q r e (Nat.zero_le _) hj' ?_ hpd (by rw [Nat.sub_zero]; exact hpds)
        rw [← hon]
        exact hall ed he1 hb
      · rw [I.frame r]
        · exact (h₀.of r e hl).grow I.grow
        · intro j q hsj hj hlist hpd
          by_cases hji : j = i
          · subst hji; rw [huf] at hlist; cases hlist
          · rcases Nat.lt_or_ge j i with h | h
            · exact hno j q h (hidx j q (by omega) hj) hpd
            · obtain ⟨ed, he1, hb, hon⟩ := ((tied_pair htied ho hj hpd hji).2 hs).2 (by omega)
              have := I.closed j q hj hlist ed he1 hb
              rw [hon, huf] at this
              cases this
    · have : unlisted ops (listed.setIfInBounds i true) < unlisted ops listed := by
        refine countP_lt (x := i) (fun y hy => ?_) (List.mem_range.2 hlt) (by simp only [hu]; rfl) ?_
        · by_cases hyi : i = y
          · subst hyi
            have : i < listed.size := by rw [I.lsize]; exact hlt
            simp [this] at hy
          · rw [getD_set_ne true hyi] at hy; exact hy
        · have : i < listed.size := by rw [I.lsize]; exact hlt
          simp [this]
      omega
    · have hset : ∀ j, (listed.setIfInBounds i true).getD j false = true → j = i ∨ listed.getD j false = true := fun j hj => by
        by_cases hji : i = j
        · exact .inl hji.symm
        · rw [getD_set_ne false hji] at hj; exact .inr hj
      refine ⟨I.grow.trans g, Nat.le_trans I.base g.size, by simp [I.lsize], fun j hj hj' => by omega, fun j hj => ?_, I.defers, by simp [Act.put, I.size], ?_, ?_, ?_⟩
      · rw [getD_set_ne false (by omega)]; exact I.high j hj
      · intro j q hj hl e he hb
        rcases hset j hl with rfl | hl
        · rw [ho] at hj; injection hj with hj; subst hj
          exact getD_set_true (hall e he hb)
        · exact getD_set_true (I.closed j q hj hl e he hb)
      · intro j q r e hsj hj hl hpd hpds
        by_cases hji : j = i
        · subst hji
          rw [ho] at hj; injection hj with hj; subst hj
          rw [hdst] at hpd; injection hpd with hpd; subst hpd
          rw [Nat.sub_zero, hds] at hpds; injection hpds with hpds; subst hpds
          rw [getD_put_here _ _ (by rw [I.size]; exact hf.2 _ hdst)]
          exact hx
        · have hl' := (hset j hl).resolve_left hji
          have hne : t ≠ r := fun h => (tied_pair htied ho hj hpd hji).1 (by rw [hdst, h])
          rw [getD_put_past _ _ hne]
          exact (I.facts j q r e hsj hj hl' hpd hpds).grow g
      · intro r hs
        have hne : t ≠ r := fun h => hs i o (Nat.zero_le _) ho (by have : i < listed.size := by rw [I.lsize]; exact hlt
                                                                   simp [this]) (by rw [hdst, h])
        rw [getD_put_past _ _ hne]
        refine I.frame r fun j q hsj hj hl => hs j q hsj hj (getD_set_true hl)
/-- What is to be shown behind the operations before p, where S have not come up. -/
def LateT (P : Program) (n B : Nat) (ops : Array Oper) (C : Env → Prop) (p m : Nat) (S : List Nat) (E : Env) : Prop :=
  m + 1 ≤ unlisted ops (listedS ops p S) ∧ ∃ E₀, Sub E₀ E ∧ ((E₀.map (·.1)).all (keeps ops S)) = true ∧ ∃ o, ops[p]? = some o ∧ ∃ E₂, Eff P n B ops o E₀ E₂ ∧ AnyT P n B ops C m ((listedS ops p S).setIfInBounds p true) E₂
end
end Go.Proofs.YtfjpipkcfbmdeaaDoor
namespace Go.Proofs.YtfjpipkcfbmdeaaDoor
open Go Go.RowKit
set_option linter.unusedVariables false
set_option linter.unusedSimpArgs false
variable {κ : Cx}
/-! ### Rows of parts of one size -/
section
variable {α β : Type} {v : α → List β} {k : Nat}
theorem flat_length {L : List α} (h : ∀ a ∈ L, (v a).length = k) : (L.flatMap v).length = L.length * k := by
  induction L with
  | nil => simp
  | cons a L ih =>
    rw [List.flatMap_cons, List.length_append, ih (fun x hx => h x (List.mem_cons_of_mem _ hx)), h a List.mem_cons_self, List.length_cons, Nat.succ_mul, Nat.add_comm]
theorem flat_drop {L : List α} (h : ∀ a ∈ L, (v a).length = k) (i : Nat) : (L.flatMap v).drop (i * k) = (L.drop i).flatMap v := by
  induction i generalizing L with
  | zero => simp
  | succ i ih =>
    cases L with
    | nil => simp
    | cons a L =>
      rw [List.flatMap_cons, List.drop_succ_cons, ← ih (fun x hx => h x (List.mem_cons_of_mem _ hx)), List.drop_append, h a List.mem_cons_self, Nat.succ_mul, List.drop_eq_nil_of_le (by rw [h a List.mem_cons_self]; omega), List.nil_append]
      congr 1; omega
theorem flatM_at {L : List α} (h : ∀ a ∈ L, (v a).length = k) {i : Nat} (hi : i < L.length) : ((L.flatMap v).drop (i * k)).take k = v L[i] := by
  rw [flat_drop h, List.drop_eq_getElem_cons hi, List.flatMap_cons]
  exact List.take_left' (h _ (List.getElem_mem hi))
theorem flat_getD {L : List α} (h : ∀ a ∈ L, (v a).length = k) {i : Nat} (hi : i < L.length) (z : α) : ((L.flatMap v).drop (i * k)).take k = v (L.getD i z) := by
  rw [flatM_at h hi]; simp [hi]
theorem rmid_at {pre suf : List β} {L : List α} (h : ∀ a ∈ L, (v a).length = k) {i o : Nat} (ho : pre.length = o) (hi : i < L.length) (z : α) : ((pre ++ (L.flatMap v ++ suf)).drop (o + i * k)).take k = v (L.getD i z) := by
  have hl := flat_length h
  have hle : i * k + k ≤ L.length * k := by rw [← Nat.succ_mul]; exact Nat.mul_le_mul_right _ hi
  rw [← List.drop_drop, List.drop_left' ho, List.drop_append, Nat.sub_eq_zero_of_le (by omega), List.drop_zero, List.take_append_of_le_length (by rw [List.length_drop]; omega), flat_getD h hi z]
theorem getD_mem4 {L : List α} (h : L.length = 4) {i : Nat} (hi : i < 4) (z : α) : L.getD i z ∈ L := by
  rw [List.getD_eq_getElem?_getD, List.getElem?_eq_getElem (by omega)]
  exact List.getElem_mem _
end
/-- The first error of four. -/
def fst4 (f : Nat → Int) : Int := if f 0 ≠ 0 then f 0 else if f 1 ≠ 0 then f 1 else if f 2 ≠ 0 then f 2 else f 3
theorem fst4_at {f : Nat → Int} {i : Nat} (hi : i < 4) (h : ∀ k, k < i → f k = 0) (h0 : f i ≠ 0) : f i = fst4 f := by
  unfold fst4
  match i, hi with
  | 0, _ => rw [if_pos h0]
  | 1, _ => rw [if_neg (by simp [h 0 (by decide)]), if_pos h0]
  | 2, _ => rw [if_neg (by simp [h 0 (by decide)]), if_neg (by simp [h 1 (by decide)]), if_pos h0]
  | 3, _ => rw [if_neg (by simp [h 0 (by decide)]), if_neg (by simp [h 1 (by decide)]), if_neg (by simp [h 2 (by decide)])]
theorem fst4_no {f : Nat → Int} (h : ∀ k, k < 4 → f k = 0) : fst4 f = 0 := by
  unfold fst4
  rw [if_neg (by simp [h 0 (by decide)]), if_neg (by simp [h 1 (by decide)]), if_neg (by simp [h 2 (by decide)]), h 3 (by decide)]
theorem fst4_zero {f : Nat → Int} (h : fst4 f = 0) : ∀ k, k < 4 → f k = 0 := by
  unfold fst4 at h
  by_cases h0 : f 0 = 0
  · rw [if_neg (by simp [h0])] at h
    by_cases h1 : f 1 = 0
    · rw [if_neg (by simp [h1])] at h
      by_cases h2 : f 2 = 0
      · rw [if_neg (by simp [h2])] at h
        intro k hk
        match k, hk with
        | 0, _ => exact h0
        | 1, _ => exact h1
        | 2, _ => exact h2
        | 3, _ => exact h
      · rw [if_pos h2] at h; exact absurd h h2
    · rw [if_pos h1] at h; exact absurd h h1
  · rw [if_pos h0] at h; exact absurd h h0
/-! ### Records and entries as parts -/
structure RecT where
  x : UInt8
  s : Nat
  c : Nat
  t : List UInt8
structure EntT where
  x : UInt8
  t : List UInt8
namespace RecT
def zero : RecT := ⟨0, 0, 0, zD⟩
def v (r : RecT) : List Value := recV r.x r.s r.c r.t
def l (r : RecT) : List UInt8 := recL r.x r.s r.c r.t
structure Fit (r : RecT) : Prop where
  t : r.t.length = 32
  s : r.s < 4294967296
  c : r.c < 18446744073709551616
def Bad (r : RecT) : Prop := BadR r.x r.s r.c r.t
def Z (r : RecT) : Prop := r.x.toNat = 0 ∧ r.s = 0 ∧ r.c = 0 ∧ r.t = zD
def ck (r : RecT) : Int := ckR r.x r.s r.c r.t
theorem zero_fit : zero.Fit := ⟨rfl, by decide, by decide⟩
theorem Fit.len {r : RecT} (h : r.Fit) : r.v.length = 35 := rec_len _ _ _ h.t
theorem Fit.kin {r : RecT} (h : r.Fit) : Kin (fun _ _ => True) (.u8 :: .u32 :: .u64 :: List.replicate 32 .u8) r.v := kinRec _ _ _ h.t
theorem Fit.lenL {r : RecT} (h : r.Fit) : r.l.length = 45 := recL_len _ _ _ h.t
theorem one (r : RecT) : r.v.all (·.oneCell') = true := rec_one _ _ _ _
theorem v_inj {r q : RecT} (h : r.v = q.v) : r = q := by
  obtain ⟨x, s, c, t⟩ := r
  obtain ⟨x', s', c', t'⟩ := q
  simp only [v, recV] at h
  injection h with h1 h
  injection h with h2 h
  injection h with h3 h
  injection h2 with _ h2
  injection h3 with _ h3
  rw [byteV_inj h1, Int.ofNat.inj h2, Int.ofNat.inj h3, bytes_inj h]
theorem z_iff {r : RecT} : r.Z ↔ r = zero := ⟨fun ⟨h1, h2, h3, h4⟩ => by
    obtain ⟨x, s, c, t⟩ := r
    simp only at h1 h2 h3 h4
    rw [h2, h3, h4, show x = 0 from UInt8.toNat_inj.1 h1]; rfl, fun h => by rw [h]; exact ⟨rfl, rfl, rfl, rfl⟩⟩
theorem z_v {r : RecT} : r.Z ↔ r.v = zero.v := z_iff.trans ⟨fun h => by rw [h], v_inj⟩
theorem zero_ok : ¬ zero.Bad := by unfold Bad BadR zero; rintro (h | ⟨_, h⟩); exact absurd h (by decide); exact h ⟨rfl, rfl, rfl⟩
theorem ck_zero {r : RecT} : r.ck = 0 ↔ ¬ r.Bad := by unfold ck ckR Bad; split <;> simp_all
instance : DecidablePred Z := fun r => by unfold Z; infer_instance
end RecT
namespace EntT
def zero : EntT := ⟨0, zD⟩
def v (r : EntT) : List Value := entV r.x r.t
def l (r : EntT) : List UInt8 := entL r.x r.t
structure Fit (r : EntT) : Prop where
  t : r.t.length = 32
def Bad (r : EntT) : Prop := BadE r.x r.t
def Z (r : EntT) : Prop := r.x.toNat = 0 ∧ r.t = zD
def ck (r : EntT) : Int := ckE r.x r.t
theorem zero_fit : zero.Fit := ⟨rfl⟩
theorem Fit.len {r : EntT} (h : r.Fit) : r.v.length = 33 := ent_len _ h.t
theorem Fit.kin {r : EntT} (h : r.Fit) : Kin (fun _ _ => True) (.u8 :: List.replicate 32 .u8) r.v := kinEnt _ h.t
theorem Fit.lenL {r : EntT} (h : r.Fit) : r.l.length = 33 := entL_len _ h.t
theorem one (r : EntT) : r.v.all (·.oneCell') = true := ent_one _ _
theorem v_inj {r q : EntT} (h : r.v = q.v) : r = q := by
  obtain ⟨x, t⟩ := r
  obtain ⟨x', t'⟩ := q
  simp only [v, entV] at h
  injection h with h1 h
  rw [byteV_inj h1, bytes_inj h]
theorem z_iff {r : EntT} : r.Z ↔ r = zero := ⟨fun ⟨h1, h4⟩ => by
    obtain ⟨x, t⟩ := r
    simp only at h1 h4
    rw [h4, show x = 0 from UInt8.toNat_inj.1 h1]; rfl, fun h => by rw [h]; exact ⟨rfl, rfl⟩⟩
theorem z_v {r : EntT} : r.Z ↔ r.v = zero.v := z_iff.trans ⟨fun h => by rw [h], v_inj⟩
theorem zero_ok : ¬ zero.Bad := by unfold Bad BadE zero; rintro (h | ⟨_, h⟩); exact absurd h (by decide); exact h rfl
theorem ck_zero {r : EntT} : r.ck = 0 ↔ ¬ r.Bad := by unfold ck ckE Bad; split <;> simp_all
instance : DecidablePred Z := fun r => by unfold Z; infer_instance
end EntT
abbrev recsV (R : List RecT) : List Value := R.flatMap RecT.v
abbrev entsV (R : List EntT) : List Value := R.flatMap EntT.v
theorem RecT.lens {R : List RecT} (h : ∀ r ∈ R, r.Fit) : ∀ r ∈ R, r.v.length = 35 := fun r hr => (h r hr).len
theorem EntT.lens {R : List EntT} (h : ∀ r ∈ R, r.Fit) : ∀ r ∈ R, r.v.length = 33 := fun r hr => (h r hr).len
theorem RecT.lensL {R : List RecT} (h : ∀ r ∈ R, r.Fit) : ∀ r ∈ R, r.l.length = 45 := fun r hr => (h r hr).lenL
theorem EntT.lensL {R : List EntT} (h : ∀ r ∈ R, r.Fit) : ∀ r ∈ R, r.l.length = 33 := fun r hr => (h r hr).lenL
theorem RecT.all1 (R : List RecT) : (recsV R).all (·.oneCell') = true := by
  rw [List.all_flatMap]; simp only [List.all_eq_true]; exact fun r _ => List.all_eq_true.1 r.one
theorem EntT.all1 (R : List EntT) : (entsV R).all (·.oneCell') = true := by
  rw [List.all_flatMap]; simp only [List.all_eq_true]; exact fun r _ => List.all_eq_true.1 r.one
theorem RecT.kins {R : List RecT} (h : ∀ r ∈ R, r.Fit) : Kin (fun _ _ => True) (List.replicate R.length (.u8 :: .u32 :: .u64 :: List.replicate 32 .u8)).flatten (recsV R) := by
  induction R with
  | nil => exact kin_nil
  | cons r R ih => rw [List.length_cons, List.replicate_succ, List.flatten_cons, recsV, List.flatMap_cons]; exact Kin.join (h r List.mem_cons_self).kin (ih fun q hq => h q (List.mem_cons_of_mem _ hq))
theorem EntT.kins {R : List EntT} (h : ∀ r ∈ R, r.Fit) : Kin (fun _ _ => True) (List.replicate R.length (.u8 :: List.replicate 32 .u8)).flatten (entsV R) := by
  induction R with
  | nil => exact kin_nil
  | cons r R ih => rw [List.length_cons, List.replicate_succ, List.flatten_cons, entsV, List.flatMap_cons]; exact Kin.join (h r List.mem_cons_self).kin (ih fun q hq => h q (List.mem_cons_of_mem _ hq))
theorem flatMap_inj {α β : Type} {v : α → List β} {k : Nat} (hv : ∀ a b, v a = v b → a = b) : ∀ {L L' : List α}, (∀ a ∈ L, (v a).length = k) → (∀ a ∈ L', (v a).length = k) → L.length = L'.length → L.flatMap v = L'.flatMap v → L = L'
  | [], [], _, _, _, _ => rfl
  | a :: L, b :: L', h, h', hl, he => by
    rw [List.flatMap_cons, List.flatMap_cons] at he
    obtain ⟨h1, h2⟩ := List.append_inj he (by rw [h a List.mem_cons_self, h' b List.mem_cons_self])
    rw [hv a b h1, flatMap_inj hv (fun x hx => h x (List.mem_cons_of_mem _ hx)) (fun x hx => h' x (List.mem_cons_of_mem _ hx)) (by simpa using hl) h2]
/-! ### Nodes -/
structure NodT where
  l : UInt8
  j : Nat
  R : List RecT
  E : List EntT
def zerosR : List RecT := List.replicate 4 RecT.zero
def zerosE : List EntT := List.replicate 4 EntT.zero
def nodV (l : UInt8) (j : Nat) (R : List RecT) (E : List EntT) : List Value := [byteV l, .int .u32 ((j : Nat) : Int)] ++ (recsV R ++ entsV E)
theorem nodV_E (l : UInt8) (j : Nat) (R : List RecT) (E : List EntT) : nodV l j R E = ([byteV l, .int .u32 ((j : Nat) : Int)] ++ recsV R) ++ (entsV E ++ []) := by rw [nodV, List.append_nil, List.append_assoc]
namespace NodT
def v (x : NodT) : List Value := nodV x.l x.j x.R x.E
def r (x : NodT) (i : Nat) : RecT := x.R.getD i RecT.zero
def e (x : NodT) (i : Nat) : EntT := x.E.getD i EntT.zero
structure Fit (x : NodT) : Prop where
  j : x.j < 4294967296
  lr : x.R.length = 4
  le : x.E.length = 4
  fr : ∀ r ∈ x.R, r.Fit
  fe : ∀ r ∈ x.E, r.Fit
def emp (l : UInt8) (j : Nat) : NodT := ⟨l, j, zerosR, zerosE⟩
theorem zr_fit : ∀ r ∈ zerosR, r.Fit := fun r h => by rw [List.eq_of_mem_replicate h]; exact RecT.zero_fit
theorem ze_fit : ∀ r ∈ zerosE, r.Fit := fun r h => by rw [List.eq_of_mem_replicate h]; exact EntT.zero_fit
theorem emp_fit (l : UInt8) {j : Nat} (h : j < 4294967296) : (emp l j).Fit := ⟨h, rfl, rfl, zr_fit, ze_fit⟩
section
variable {x : NodT}
theorem Fit.r (h : x.Fit) (i : Nat) : (x.r i).Fit := by
  unfold NodT.r
  by_cases hi : i < 4
  · exact h.fr _ (getD_mem4 h.lr hi _)
  · rw [List.getD_eq_getElem?_getD, List.getElem?_eq_none (by have := h.lr; omega)]; exact RecT.zero_fit
theorem Fit.e (h : x.Fit) (i : Nat) : (x.e i).Fit := by
  unfold NodT.e
  by_cases hi : i < 4
  · exact h.fe _ (getD_mem4 h.le hi _)
  · rw [List.getD_eq_getElem?_getD, List.getElem?_eq_none (by have := h.le; omega)]; exact EntT.zero_fit
theorem Fit.lenR (h : x.Fit) : (recsV x.R).length = 140 := by rw [recsV, flat_length (RecT.lens h.fr), h.lr]
theorem Fit.lenE (h : x.Fit) : (entsV x.E).length = 132 := by rw [entsV, flat_length (EntT.lens h.fe), h.le]
theorem Fit.len (h : x.Fit) : x.v.length = 274 := by unfold NodT.v nodV; rw [List.length_append, List.length_append, h.lenR, h.lenE]; rfl
theorem one (x : NodT) : x.v.all (·.oneCell') = true := by
  unfold NodT.v nodV
  rw [List.all_append, List.all_append, RecT.all1, EntT.all1]; rfl
theorem Fit.getR (h : x.Fit) : (x.v.drop 2).take 140 = recsV x.R := by
  show List.take 140 (recsV x.R ++ entsV x.E) = recsV x.R
  exact List.take_left' h.lenR
theorem Fit.getE (h : x.Fit) : (x.v.drop 142).take 132 = entsV x.E := by
  show List.take 132 (List.drop 140 (recsV x.R ++ entsV x.E)) = entsV x.E
  rw [List.drop_left' h.lenR, List.take_of_length_le (Nat.le_of_eq h.lenE)]
theorem Fit.rec_at (h : x.Fit) {i : Nat} (hi : i < 4) : (x.v.drop (2 + i * 35)).take 35 = (x.r i).v := rmid_at (pre := [byteV x.l, .int .u32 ((x.j : Nat) : Int)]) (suf := entsV x.E) (RecT.lens h.fr) rfl (by rw [h.lr]; exact hi) _
theorem Fit.ent_at (h : x.Fit) {i : Nat} (hi : i < 4) : (x.v.drop (142 + i * 33)).take 33 = (x.e i).v := by
  unfold NodT.v
  rw [nodV_E]
  exact rmid_at (EntT.lens h.fe) (by rw [List.length_append, h.lenR]; rfl) (by rw [h.le]; exact hi) _
theorem Fit.kin (h : x.Fit) : Kin (fun _ _ => True) (.u8 :: .u32 :: ((List.replicate 4 (.u8 :: .u32 :: .u64 :: List.replicate 32 .u8)).flatten ++ (List.replicate 4 (.u8 :: List.replicate 32 .u8)).flatten)) x.v := by
  have h1 := RecT.kins h.fr
  have h2 := EntT.kins h.fe
  rw [h.lr] at h1
  rw [h.le] at h2
  show Kin _ _ (byteV x.l :: .int .u32 ((x.j : Nat) : Int) :: (recsV x.R ++ entsV x.E))
  exact kin_cons (kin_cons (Kin.join h1 h2))
theorem v_inj {x y : NodT} (hx : x.Fit) (hy : y.Fit) (h : x.v = y.v) : x = y := by
  have h1 := hx.getR
  have h2 := hx.getE
  rw [h, hy.getR] at h1
  rw [h, hy.getE] at h2
  have h3 := flatMap_inj (fun _ _ => RecT.v_inj) (RecT.lens hy.fr) (RecT.lens hx.fr) (by rw [hx.lr, hy.lr]) h1
  have h4 := flatMap_inj (fun _ _ => EntT.v_inj) (EntT.lens hy.fe) (EntT.lens hx.fe) (by rw [hx.le, hy.le]) h2
  obtain ⟨l, j, R, E⟩ := x
  obtain ⟨l', j', R', E'⟩ := y
  simp only at h3 h4
  subst h3; subst h4
  unfold NodT.v nodV at h
  simp only [List.cons_append, List.nil_append] at h
  injection h with h5 h
  injection h with h6 _
  injection h6 with _ h6
  rw [byteV_inj h5, Int.ofNat.inj h6]
end
/-! The error of a node. -/
open Classical in
noncomputable def ck (x : NodT) : Int := if 5 < x.l.toNat then 1 else if x.l.toNat = 0 then (if ∀ i, i < 4 → (x.e i).Z then fst4 fun i => (x.r i).ck else 1) else (if ∀ i, i < 4 → (x.r i).Z then fst4 fun i => (x.e i).ck else 1)
theorem ck_hi {x : NodT} (h : 5 < x.l.toNat) : x.ck = 1 := if_pos h
theorem ck_R {x : NodT} (h : x.l.toNat = 0) (hz : ∀ i, i < 4 → (x.e i).Z) : x.ck = fst4 fun i => (x.r i).ck := by unfold ck; rw [if_neg (by omega), if_pos h, if_pos hz]
theorem ck_Rz {x : NodT} (h : x.l.toNat = 0) (hz : ¬ ∀ i, i < 4 → (x.e i).Z) : x.ck = 1 := by unfold ck; rw [if_neg (by omega), if_pos h, if_neg hz]
theorem ck_E {x : NodT} (h5 : ¬ 5 < x.l.toNat) (h : ¬ x.l.toNat = 0) (hz : ∀ i, i < 4 → (x.r i).Z) : x.ck = fst4 fun i => (x.e i).ck := by unfold ck; rw [if_neg h5, if_neg h, if_pos hz]
theorem ck_Ez {x : NodT} (h5 : ¬ 5 < x.l.toNat) (h : ¬ x.l.toNat = 0) (hz : ¬ ∀ i, i < 4 → (x.r i).Z) : x.ck = 1 := by unfold ck; rw [if_neg h5, if_neg h, if_neg hz]
theorem ck_ok {x : NodT} (h : x.ck = 0) : x.l.toNat ≤ 5 ∧ (x.l.toNat = 0 → (∀ i, i < 4 → (x.e i).Z) ∧ ∀ i, i < 4 → ¬ (x.r i).Bad) ∧ (x.l.toNat ≠ 0 → (∀ i, i < 4 → (x.r i).Z) ∧ ∀ i, i < 4 → ¬ (x.e i).Bad) := by
  by_cases h5 : 5 < x.l.toNat
  · rw [ck_hi h5] at h; cases h
  refine ⟨by omega, fun h0 => ?_, fun h0 => ?_⟩
  · by_cases hz : ∀ i, i < 4 → (x.e i).Z
    · rw [ck_R h0 hz] at h; exact ⟨hz, fun i hi => RecT.ck_zero.1 (fst4_zero h i hi)⟩
    · rw [ck_Rz h0 hz] at h; cases h
  · by_cases hz : ∀ i, i < 4 → (x.r i).Z
    · rw [ck_E h5 h0 hz] at h; exact ⟨hz, fun i hi => EntT.ck_zero.1 (fst4_zero h i hi)⟩
    · rw [ck_Ez h5 h0 hz] at h; cases h
theorem ok_R {x : NodT} (h : x.l.toNat = 0) (hz : ∀ i, i < 4 → (x.e i).Z) (hb : ∀ i, i < 4 → ¬ (x.r i).Bad) : x.ck = 0 := by rw [ck_R h hz]; exact fst4_no fun i hi => RecT.ck_zero.2 (hb i hi)
theorem ok_E {x : NodT} (h5 : ¬ 5 < x.l.toNat) (h : ¬ x.l.toNat = 0) (hz : ∀ i, i < 4 → (x.r i).Z) (hb : ∀ i, i < 4 → ¬ (x.e i).Bad) : x.ck = 0 := by rw [ck_E h5 h hz]; exact fst4_no fun i hi => EntT.ck_zero.2 (hb i hi)
/-! The bytes of a node. -/
def bl (x : NodT) : List UInt8 := x.l :: (be 4 x.j ++ (if x.l.toNat = 0 then x.R.flatMap RecT.l else x.E.flatMap EntT.l))
def sz (n : Nat) : Nat := if n = 0 then 185 else 137
theorem Fit.bl_length {x : NodT} (h : x.Fit) : x.bl.length = sz x.l.toNat := by
  unfold bl sz
  rw [List.length_cons, List.length_append, be_length]
  split
  · rw [flat_length (RecT.lensL h.fr), h.lr]
  · rw [flat_length (EntT.lensL h.fe), h.le]
end NodT
/-! ### Bytes written so far -/
def wrt (N : Nat) (p : List UInt8) : List Value := p.map byteV ++ List.replicate (N - p.length) (.int .u8 0)
theorem wrt_len {N : Nat} {p : List UInt8} (h : p.length ≤ N) : (wrt N p).length = N := by simp [wrt]; omega
theorem wrt_zero (N : Nat) : wrt N [] = List.replicate N (.int .u8 0) := by simp [wrt]
theorem wrt_full {N : Nat} {p : List UInt8} (h : p.length = N) : wrt N p = p.map byteV := by simp [wrt, h]
theorem wrt_step {N : Nat} {p l : List UInt8} (h : p.length + l.length ≤ N) : (wrt N p).take (0 + p.length) ++ (l.take (N - p.length)).map byteV ++ (wrt N p).drop (0 + p.length + min l.length (N - p.length)) = wrt N (p ++ l) := by
  rw [Nat.zero_add, List.take_of_length_le (l := l) (by omega), show min l.length (N - p.length) = l.length from by omega, wrt, wrt, List.take_left' (by simp), ← List.drop_drop, List.drop_left' (by simp), List.drop_replicate, List.map_append, List.length_append, Nat.sub_sub]
theorem take_all {α : Type} {P : α → Prop} {L : List α} (h : ∀ r ∈ L, P r) (i : Nat) : ∀ r ∈ L.take i, P r := fun r hr => h r (List.mem_of_mem_take hr)
theorem take_flat {α β : Type} {v : α → List β} {L : List α} (hL : L.length = 4) {i : Nat} (hi : i < 4) {z : α} : (L.take (i + 1)).flatMap v = (L.take i).flatMap v ++ v (L.getD i z) := by
  rw [List.take_add_one, List.getElem?_eq_getElem (by omega), Option.toList_some, List.flatMap_append, List.flatMap_cons, List.flatMap_nil, List.append_nil]
  simp [List.getD_eq_getElem?_getD, hL, hi]
theorem getD_in {α : Type} (L : List α) {i : Nat} (hi : i < L.length) (z : α) : L.getD i z ∈ L := by
  rw [List.getD_eq_getElem?_getD, List.getElem?_eq_getElem hi]
  exact List.getElem_mem _
theorem rows_part {α β : Type} {v : α → List β} {k : Nat} {cs : List β} {L : List α} {o : Nat} (hL : ∀ a ∈ L, (v a).length = k) (hc : (cs.drop o).take (L.length * k) = L.flatMap v) {i : Nat} (hi : i < L.length) (z : α) : (cs.drop (o + i * k)).take k = v (L.getD i z) := by
  have h := flat_getD hL hi z
  have hle : i * k + k ≤ L.length * k := by rw [← Nat.succ_mul]; exact Nat.mul_le_mul_right _ hi
  rw [← hc, List.drop_take, List.drop_drop, List.take_take, Nat.min_eq_left (by omega)] at h
  exact h
theorem RecT.dz (r : RecT) : decide r.Z = true ↔ r.v = RecT.zero.v := by rw [decide_eq_true_iff]; exact RecT.z_v
theorem EntT.dz (r : EntT) : decide r.Z = true ↔ r.v = EntT.zero.v := by rw [decide_eq_true_iff]; exact EntT.z_v
theorem sz_le (n : Nat) : 137 ≤ NodT.sz n ∧ NodT.sz n ≤ 185 := by unfold NodT.sz; split <;> omega
theorem bl_R {x : NodT} (h : x.l.toNat = 0) : [] ++ [x.l] ++ be 4 x.j ++ x.R.flatMap RecT.l = x.bl := by unfold NodT.bl; rw [if_pos h]; simp
theorem bl_E {x : NodT} (h : ¬ x.l.toNat = 0) : [] ++ [x.l] ++ be 4 x.j ++ x.E.flatMap EntT.l = x.bl := by unfold NodT.bl; rw [if_neg h]; simp
/-! ### Numbers -/
/-! ### Contracts that read tables, whose result is told over the heap's size at the call -/
structure FnMB (P : Program) (f : FuncId) (M : Env) (ds : List D) (d : Nat → D) : Prop where
  body : ∃ fn, P.funcs[f]? = some fn ∧ (fn.name == "runtime.NumGoroutine") = false ∧ fn.body.isNone = false
  calls : ∀ (vs : List Value) (w : World), (∀ p ∈ M, p.2.Of w undef) → vs.length = ds.length → (∀ (j : Nat) (e : D) (u : Value), ds[j]? = some e → vs[j]? = some u → e.Of w u) → Calls P f vs.toArray w (PostOf w (d w.heap.size))
theorem FnMB.fn {P : Program} {f : FuncId} {M : Env} {ds : List D} {d : Nat → D} {d' : D} (h : FnMB P f M ds d) (hd : ∀ B, Le (d B) d') : FnM P f M ds d' :=
  ⟨h.body, fun vs w h0 h1 h2 => (h.calls vs w h0 h1 h2).mono fun _ _ ⟨x, he, g, hx⟩ => ⟨x, he, g, (hd _).of hx⟩⟩
theorem FnMB.of {P : Program} {n : Nat} {f : FuncId} {fn : Func} {c : Code} {M : Env} {ds : List D} {d : Nat → D} (hf : P.funcs[f]? = some fn) (hb : fn.body = some c) (hname : (fn.name == "runtime.NumGoroutine") = false) (hn : fn.ntmps = n) (hds : ds.length ≤ n) (hnv : n ≤ vbase) (E : World → Env)
    (hE : ∀ w, StartM w.heap.size ds M (E w)) (h : ∀ w₀, (∀ p ∈ M, p.2.Of w₀ undef) → A Cx.top P w₀ n c (E w₀) (BP P fn (PostOf w₀ (d w₀.heap.size)))) : FnMB P f M ds d := by
  refine ⟨⟨fn, hf, hname, by rw [hb]; rfl⟩, fun vs w hM hl hv => callsIn_FR.1 (callsIn_of_wp_marks (F := FR none) (n := 0) hf hb trivial (h w hM _ w (Below.refl _ _) ⟨Nat.le_refl _, rfl, ?_, fun t e he => ?_⟩))⟩
  · simp [hl, hn]; omega
  · show e.Of w ((vs.toArray ++ Array.replicate (fn.ntmps - vs.toArray.size) undef).getD t undef)
    rcases hE w _ (look_mem he) with ⟨hm, ht⟩ | ⟨d', hd', hor⟩
    · have h1 := hM _ hm
      rwa [Array.getD_eq_getD_getElem?, Array.getElem?_eq_none (by simp [hl, hn]; simp only at ht; omega)]
    · have hlt : t < vs.length := by have := (List.getElem?_eq_some_iff.1 hd').1; simp at this; omega
      have hget : (vs.toArray ++ Array.replicate (fn.ntmps - vs.toArray.size) undef).getD t undef = vs[t] := by
        rw [Array.getD_eq_getD_getElem?, Array.getElem?_append_left (by simpa using hlt)]
        simp [hlt]
      rw [hget]
      have h1 := hv t d' vs[t] hd' (List.getElem?_eq_getElem hlt)
      rcases hor with h2 | h2
      · simp only at h2; rw [h2]; exact h1
      · simp only at h2; rw [h2]; exact ⟨Nat.le_refl _, h1⟩
section
variable {P : Program} {B : Nat} {E : Env} {dst : Option Tmp} {ty : TypeId} {pos : String} {after : Array Edge} {guard : Option (Nat × Bool)}
/-- A call of a function value that is a plain function. -/
theorem ok_callV0 {f : FuncId} {x : Operand} {args : Array Operand} {argTypes : Array TypeId} {ds : List D} {d : D} (hf : Fn P f ds d) (hx : E.at x = some (.v (.func (.func f) #[] #[]))) (ha : Args E ds args.toList) :
    OpOk P B ⟨dst, .call { callee := .value x, args := args, argTypes := argTypes }, ty, pos, after, guard⟩ E d :=
  ok_callVM (us := []) (M := []) (by rw [List.map_nil, List.append_nil]; exact hf.m) Sub.nil (fun _ h => by cases h) hx ha
theorem ok_callVB {f : FuncId} {x : Operand} {args : Array Operand} {argTypes : Array TypeId} {ds : List D} {d : Nat → D} (hf : FnB P f ds d) (hd : ∀ B B', B ≤ B' → Le (d B') (d B)) (hx : E.at x = some (.v (.func (.func f) #[] #[]))) (ha : Args E ds args.toList) :
    OpOk P B ⟨dst, .call { callee := .value x, args := args, argTypes := argTypes }, ty, pos, after, guard⟩ E (d B) := fun ρ w hB hv hρ => by
  obtain ⟨fn, h1, h2, h3⟩ := hf.body
  have hfun : ρ x = .func (.func f) #[] #[] := hρ x (by simp [Op.operands, Call.operands]) _ hx
  have hrun : (execOp ρ ⟨dst, .call { callee := .value x, args := args, argTypes := argTypes }, ty, pos, after, guard⟩).run P w = .ok (.enter f (args.map ρ)) w := by
    have h2' : ¬ fn.name = "runtime.NumGoroutine" := by simpa using h2
    have h3' : ¬ fn.body = none := by intro h; rw [h] at h3; cases h3
    simp [execOp, resolve, Deferred.ofValue, hfun, invoke, callFunc, h1, h2', h3']
  unfold Out
  rw [hrun]
  have := hf.calls (args.toList.map ρ) w (by rw [List.length_map, ha.length]) fun j e u he hu => by
    rw [List.getElem?_map] at hu
    cases hx : args.toList[j]? with
    | none => rw [hx] at hu; cases hu
    | some x =>
      rw [hx] at hu; injection hu with hu; subst hu
      obtain ⟨e', h4, h5⟩ := ha.nth he hx
      exact h5.of (hρ x (by simp [Op.operands, Call.operands]; exact .inr (by simpa using List.mem_of_getElem? hx)) _ h4)
  have harr : (args.toList.map ρ).toArray = args.map ρ := by apply Array.ext'; simp
  rw [harr] at this
  exact this.mono fun e w' ⟨x, he, g, hx⟩ => ⟨x, he, g, (hd _ _ hB).of hx⟩
/-- An element of an array's value, the elements of several cells each. -/
theorem ok_indexAgg {t e : TypeId} {len sz : Nat} {td : TypeDesc} {x i : Operand} {xs ys : List Value} {k : IntKind} {j : Int} (m : Nat) (ht : P.underlying t = some (.array len e)) (he : P.underlying e = some td) (hp : td.isRow = true) (hs : SizeIs P e sz)
    (hx : E.at x = some (.v (aggV xs))) (hi : E.at i = some (.v (.int k j))) (hj : j = (m : Int)) (hm : m < len) (hu : (xs.drop (m * sz)).take sz = ys) : OpOk P B ⟨dst, .index t x i, ty, pos, after, guard⟩ E (.v (aggV ys)) := fun ρ w _ _ hρ => by
  have h1 : ρ x = _ := hρ x (by simp [Op.operands]) _ hx
  have h2 : ρ i = _ := hρ i (by simp [Op.operands]) _ hi
  obtain ⟨info, hinfo, hsize⟩ := hs.get
  subst hj
  have hagg : (isAgg e).run P w = .ok true w := by
    unfold isAgg
    rw [Sem.run_bind, run_underlying he w]
    cases td <;> simp_all [TypeDesc.isRow]
  refine out_val (w' := w) ?_ ⟨Grow.refl w, rfl⟩
  subst hu
  simp [execOp, h1, h2, aggV, Instr.index, asIntOf, run_underlying ht, hm, sizeOf, typeInfo, hinfo, hsize, part, hagg]
/-- Part of an array behind a pointer, the elements of several cells each. -/
theorem ok_sliceN {t e : TypeId} {len sz : Nat} {x : Operand} {lo hi mx : Option Operand} {b o : Nat} (l h : Nat) {m : Nat} (ht : P.underlying t = some (.array len e)) (hs : SizeIs P e sz) (hx : E.at x = some (.v (.pointer (some ⟨b, o, none⟩))))
    (hlo : Bnd E lo l 0) (hhi : (∃ ho k, hi = some ho ∧ E.at ho = some (.v (.int k (h : Int)))) ∨ (hi = none ∧ mx = none ∧ h = len)) (hmx : Bnd E mx m len) (hlh : l ≤ h) (hhm : h ≤ m) (hml : m ≤ len) :
    OpOk P B ⟨dst, .slice t x lo hi mx, ty, pos, after, guard⟩ E (.v (.slice (some ⟨b, if m = l then o else o + l * sz, none⟩) (h - l) (m - l))) := fun ρ w _ _ hρ => by
  have h1 : ρ x = _ := hρ x (by simp [Op.operands]) _ hx
  obtain ⟨info, hinfo, hsize⟩ := hs.get
  have hlo' := hlo.get (ρ := ρ) fun o ho u hu => hρ o (by simp [Op.operands, ho]) _ hu
  have hmx' := hmx.get (ρ := ρ) fun o ho u hu => hρ o (by simp [Op.operands, ho]) _ hu
  have hhi' : (∃ k, hi.map ρ = some (.int k (h : Int))) ∨ (hi.map ρ = none ∧ mx.map ρ = none ∧ h = len) := by
    rcases hhi with ⟨ho, k, rfl, hh⟩ | ⟨rfl, rfl, hh⟩
    · exact .inl ⟨k, by simp [show ρ ho = _ from hρ ho (by simp [Op.operands]) _ hh]⟩
    · exact .inr ⟨rfl, rfl, hh⟩
  have haddr : (if m = l then (⟨b, o, none⟩ : Addr) else (⟨b, o, none⟩ : Addr).add (l * sz)) = ⟨b, if m = l then o else o + l * sz, none⟩ := by
    rw [add_lit0]
    split <;> rfl
  have hr : (Instr.sliceAt t (.pointer (some ⟨b, o, none⟩)) (lo.map ρ) (hi.map ρ) (mx.map ρ)).run P w = .ok (.slice (some ⟨b, if m = l then o else o + l * sz, none⟩) (h - l) (m - l)) w := by
    rw [← haddr]
    have hb := sliceBounds_run (P := P) (sl := false) w hlo' hhi' hmx' hlh hhm hml
    simp [Instr.sliceAt, run_underlying ht, Instr.sureAddr, hb, sizeOf, typeInfo, hinfo, hsize]
  exact out_val (w' := w) (by simp only [execOp, h1, Sem.run_bind, hr, Result.andThen_ok, Sem.run_pure]) ⟨Grow.refl w, rfl⟩
/-- A slice that is given values: a row of the call's own. -/
theorem ok_buildOwn {t e : TypeId} {n : Nat} {ps : Array (Nat × Operand)} {z : Value} {nb : Nat} (vs : List Value) (ht : P.underlying t = some (.slice e)) (hinfo : InfoIs P e z nb) (hz1 : z.cells = #[z])
    (hn : 0 < n) (hn' : n ≤ 65536) (hl : vs.length = n) (hp : Parts E (vs.map D.v) ps.toList 0) (h1 : ∀ u ∈ vs, u.oneCell' = true) :
    OpOk P B ⟨dst, .buildSlice t n ps, ty, pos, after, guard⟩ E (own B e n vs) := fun ρ w hB _ hρ => by
  obtain ⟨i, hi, hz, hs, _⟩ := hinfo.get
  have hpl : ps.toList.length = vs.length := by rw [← hp.length, List.length_map]
  have hof : ∀ (j : Nat) (hj : j < vs.length), ∃ x, ps.toList[j]? = some (0 + j, x) ∧ ρ x = vs[j] := fun j hj => by
    obtain ⟨x, hx, he⟩ := hp.nth (j := j) (d := .v vs[j]) (by simp [hj])
    refine ⟨x, hx, hρ x ?_ (.v vs[j]) he⟩
    simp only [Op.operands, List.mem_toArray, List.mem_map]
    exact ⟨_, List.mem_of_getElem? hx, rfl⟩
  have hparts : (ps.map fun (i, x) => (i, ρ x)).toList = (vs.zipIdx 0).map fun x => (x.2, x.1) := by
    apply List.ext_getElem?
    intro j
    rcases Nat.lt_or_ge j vs.length with hj | hj
    · obtain ⟨x, hx, he⟩ := hof j hj
      have hx' : ps[j]? = some (0 + j, x) := by simpa using hx
      simp [List.getElem?_zipIdx, hx', he, hj]
    · rw [List.getElem?_eq_none (by simp at hpl ⊢; omega), List.getElem?_eq_none (by simp; omega)]
  have hz' : (Array.range (n * i.size)).map (z.cells[· % z.cells.size]!) = ([] ++ List.replicate n z).toArray := by
    rw [hs, hz1, Nat.mul_one]
    apply Array.ext
    · simp
    · intro j h1 h2; simp [Nat.mod_one]
  have hfill : Instr.fill (fun j => some (j * i.size, i.size)) ((Array.range (n * i.size)).map (z.cells[· % z.cells.size]!)) (ps.map fun (i, x) => (i, ρ x)).toList = some vs.toArray := by
    rw [hz', hparts, hs, fill_dense vs [] (List.replicate n z) 0 h1 rfl (by simp [hl])]
    simp [hl]
  have hr := run_buildSlice (P := P) w t e n (ps.map fun (i, x) => (i, ρ x)) vs.toArray i z ht hi hz (by rw [hs]; omega) (by rw [hs]; omega) hfill
  refine out_val (x := .slice (some ⟨w.heap.size, 0, none⟩) n n) (w' := w.alloc (.cells vs.toArray e)) (by simp [execOp, hr]) ⟨Grow.alloc w _, ⟨by omega, .inr ⟨w.heap.size, n, vs.toArray, rfl, hB, heap_alloc_new w _, Nat.le_refl _, by simp only [maxLen]; omega, by simp [hl], ?_⟩⟩, fun g hg => ?_⟩
  · rw [Nat.mul_one]; exact List.take_of_length_le (Nat.le_of_eq hl)
  · simp [Value.ownBlock] at hg; subst hg; simp
/-- A slice of one byte, in a block of its own. -/
theorem ok_build1B {t e : TypeId} {z : Value} {nb : Nat} {x : Operand} {a : UInt8} (ht : P.underlying t = some (.slice e)) (hs : InfoIs P e z nb) (hz : z.cells.size = 1) (hx : E.at x = some (.v (byteV a))) :
    OpOk P B ⟨dst, .buildSlice t 1 #[(0, x)], ty, pos, after, guard⟩ E (newD B e (fun b => .slice (some ⟨b, 0, none⟩) 1 1) [byteV a]) := fun ρ w hB hv hρ => by
  obtain ⟨i, hi, hzv, hsize, _⟩ := hs.get
  have h1 : ρ x = byteV a := hρ x (by simp [Op.operands]) _ hx
  have hfill : Instr.fill (fun j => some (j * i.size, i.size)) ((Array.range (1 * i.size)).map (z.cells[· % z.cells.size]!)) [(0, ρ x)] = some #[byteV a] := by
    rw [hsize, h1, hz]
    have h2 : ((Array.range (1 * 1)).map fun y => z.cells[y % 1]!) = #[z.cells[0]!] := by
      rw [show Array.range (1 * 1) = #[0] from by decide]
      simp
    rw [h2]
    simp [Instr.fill, byteV, Value.cells]
  have hr := run_buildSlice (P := P) w t e 1 #[(0, ρ x)] #[byteV a] i z ht hi hzv (by rw [hsize]; decide) (by rw [hsize]; decide) (by simpa using hfill)
  exact out_val (x := .slice (some ⟨w.heap.size, 0, none⟩) 1 1) (w' := w.alloc (.cells #[byteV a] e)) (by simp [execOp, hr]) ⟨Grow.alloc w _, _, rfl, hB, by simp, heap_alloc_new w _⟩
/-- A cell of a package-level table. -/
theorem ok_loadVT {t : TypeId} {td : TypeDesc} {x : Operand} {b o s : Nat} {xs : List Value} {u : Value} (hsl : vbase ≤ s) (ht : P.underlying t = some td) (hp : plainTD td = true) (hx : E.at x = some (.v (.pointer (some ⟨b, o, none⟩)))) (htab : E.look s = some (tab b xs)) (hu : xs[o]? = some u) :
    OpOk P B ⟨dst, .load t x, ty, pos, after, guard⟩ E (.v u) := fun ρ w hB hv hρ => by
  have h1 : ρ x = _ := hρ x (by simp [Op.operands]) _ hx
  obtain ⟨_, e, hh⟩ := hv s _ hsl htab
  have hc : w.cell? ⟨b, o, none⟩ = some u := by simp [World.cell?, hh, hu]
  exact out_val (x := u) (w' := w) (by simp [execOp, h1, run_load_plain ht hp hc]) ⟨Grow.refl w, rfl⟩
end
/-! ### Variables of a function that writes several blocks -/
section
variable {P : Program} {n B : Nat} {ops : Array Oper} {E : Env} {ty : TypeId} {pos : String} {after : Array Edge}
theorem eff_newL {o : Oper} {d k : Nat} {T : TypeId} {xs : List Value} (hd : o.dst = some d) (hg : o.guard = none)
    (hrun : ∀ (κ : Cx) a w, St κ n B E a w → (execOp a.eval o).run P w = .ok (.value (.pointer (some ⟨w.heap.size, 0, none⟩))) (w.alloc (.cells xs.toArray T))) (hdn : d < n) :
    EffG P n B ops o E (NewL B E) (fun b => (d, .v (.pointer (some ⟨b, 0, none⟩))) :: (k, blk b T xs) :: E) := by
  intro κ a w K Q h hK
  rw [if_pos (by simp [Region.wanted, hg])]
  refine opR (not_defer (hrun κ a w h)) ?_
  unfold Oper.wp
  rw [hrun κ a w h, Oper.upon_value, hd]
  have hbel : Below B w (w.alloc (.cells xs.toArray T)) := (Below.refl B w).alloc h.base _
  have hst := h.grow (Grow.alloc w (.cells xs.toArray T))
  refine hK w.heap.size _ _ ⟨h.base, fun s b' e ys hs => (h.of s _ hs).1, fun s gs w₁ hs => (h.of s _ hs).2.size⟩ hbel (St.put (hst.push ?_) hdn rfl)
  exact ⟨by simp, heap_alloc_new w _⟩
theorem eff_allocL {T : TypeId} {zs : List Value} {d k : Nat} (hz : ZeroIs P T zs) (hdn : d < n) :
    EffG P n B ops ⟨some d, .alloc T, ty, pos, after, none⟩ E (NewL B E) (fun b => (d, .v (.pointer (some ⟨b, 0, none⟩))) :: (k, blk b T zs) :: E) :=
  eff_newL rfl rfl (fun _ a w _ => by
    obtain ⟨i, z, hi, hz, hc⟩ := hz.get
    simp [execOp, Instr.alloc, zeroValue, typeInfo, hi, hz, newVar, newRow, hc]) hdn
theorem eff_boxL {T : TypeId} {x : Operand} {xs : List Value} {d k : Nat} (hx : E.at x = some (.v (aggV xs))) (hdn : d < n) :
    EffG P n B ops ⟨some d, .box T x, ty, pos, after, none⟩ E (NewL B E) (fun b => (d, .v (.pointer (some ⟨b, 0, none⟩))) :: (k, blk b T xs) :: E) :=
  eff_newL rfl rfl (fun _ a w h => by
    have h1 : a.eval x = aggV xs := h.at_ x _ hx
    simp [execOp, Instr.box, newVar, newRow, h1, aggV, Value.cells]) hdn
/-- The facts that such a contract speaks of may stand at other numbers. -/
theorem FnL.rekey {f : FuncId} {gs : List (TypeId × Nat)} {us : List Value} {M M₂ : Env} {G : Nat → Nat → Prop} {u : Nat → Value} {M' M₂' : Nat → Env} (h : FnL P f B gs us M G u M') (h1 : M₂.map Prod.snd = M.map Prod.snd) (h2 : ∀ i, (M₂' i).map Prod.snd = (M' i).map Prod.snd) : FnL P f B gs us M₂ G u M₂' :=
  ⟨h.body, fun w hB hM hw => (h.calls w hB (fun p hp => by
    have h3 : p.2 ∈ M₂.map Prod.snd := by rw [h1]; exact List.mem_map_of_mem hp
    obtain ⟨q, hq, hqe⟩ := List.mem_map.1 h3
    rw [← hqe]; exact hM q hq) hw).mono fun e w' ⟨i, h4, h5, h6, h7⟩ => ⟨i, h4, h5, h6, fun p hp => by
    have h3 : p.2 ∈ (M' i).map Prod.snd := by rw [← h2 i]; exact List.mem_map_of_mem hp
    obtain ⟨q, hq, hqe⟩ := List.mem_map.1 h3
    rw [← hqe]; exact h7 q hq⟩⟩
end
/-! ### A drawn region whose operations may come up late, at a function's end -/
section
variable {P : Program} {n B : Nat} {ops : Array Oper} {Q : Exit → Act → World → Prop}
theorem A.regL0 {w₀ : World} {E : Env} {id : Nat} (p : Nat) (late : List Nat) (hm : P.follows .mixedOrders = true) (hf : fits n ops = true) (htied : tied ops = true) (hlate : lateOk ops p late = true) (Z : Env)
    (h : RunK P w₀.heap.size ops (ops.toList.take p) E (fun E₁ => ∀ S ∈ subs late, ∃ m, LateT P n w₀.heap.size ops (fun E₃ => SubL Z E₃) p m S E₁)) (hz : End κ w₀ n Z (Q .normal)) : A κ P w₀ n (.region id ops true) E Q := fun a w hg hst => by
  obtain ⟨E₁, hr, hC⟩ := h
  obtain ⟨ds, ht⟩ := hr.trace
  have hd : Below w₀.heap.size w w.drew := (Below.refl _ w).drew
  have hst0 : St κ n w₀.heap.size E a w.drew := hst.grow (Grow.refl w).drew
  refine wpIn_region_any hm (wp_segL htied hf hlate ht hst0 (fun S hS fuel a' w' hfu g h' => ?_) _ _ a w.drew ?_ (start_inv (Nat.zero_le _) htied (by simp) (fun i hi => by simp [hi]) hst0))
  · obtain ⟨m, hmu, E₀, hsub, hkeep, o, ho, E₂, he, hn⟩ := hC S hS
    have h0 : St κ n w₀.heap.size E₀ a' w' := ⟨h'.base, h'.defers, h'.size, fun t e he => by
      have hm := look_mem he
      exact h'.of t e (look_without (List.all_eq_true.1 hkeep t (List.mem_map.2 ⟨_, hm, rfl⟩)) (hsub _ hm))⟩
    refine wpOpR_step ho fun K hK => he κ a' w' K _ h0 fun a'' w'' g' h'' => hK _ _ (wp_anyE (hn.mono (k := fuel) (by omega)) h'' fun E3 a3 w3 hC3 g3 h3 => ?_)
    exact hz a3 w3 (Below.trans hg (Below.trans hd (Below.trans (Below.mono g hst.base) (Below.trans g' g3)))) (h3.subL hC3)
  · refine Nat.le_trans List.countP_le_length ?_
    simp
end
end Go.Proofs.YtfjpipkcfbmdeaaDoor
namespace Go.Proofs.YtfjpipkcfbmdeaaDoor
open Go Go.RowKit
set_option linter.unusedVariables false
set_option maxRecDepth 20000
set_option linter.unusedSimpArgs false
/-- How many bytes a node of each level has. -/
def sizV : List Value := [185, 137, 137, 137, 137, 137].map fun n : Int => Value.int .i64 n
abbrev tabS : Env := [(1900000, tab 0 sizV)]
abbrev allM (b T : Nat) (cs : List Value) : Env := [(1900000, blk b T cs)]
theorem tabS_v : ∀ p ∈ tabS, vbase ≤ p.1 := fun p hp => by
 simp only [tabS, List.mem_cons, List.not_mem_nil, or_false] at hp
 subst hp; decide
theorem tabS_hi {w : World} (h : ∀ p ∈ tabS, p.2.Of w undef) : 0 < w.heap.size := (h _ List.mem_cons_self).1
theorem siz_get {n : Nat} (h : n ≤ 5) : sizV[n]? = some (nI (NodT.sz n)) := by
 match n, h with
 | 0, _ => rfl
 | 1, _ => rfl
 | 2, _ => rfl
 | 3, _ => rfl
 | 4, _ => rfl
 | 5, _ => rfl
theorem size73 : SizeIs Tryd.prog 73 140 := by unfold SizeIs; kernel_rfl
theorem infoP72 : InfoP Tryd.prog 72 (aggV RecT.zero.v) 35 56 := by unfold InfoP; kernel_rfl
theorem size76 : SizeIs Tryd.prog 76 132 := by unfold SizeIs; kernel_rfl
theorem infoP75 : InfoP Tryd.prog 75 (aggV EntT.zero.v) 33 33 := by unfold InfoP; kernel_rfl
theorem zero91 : ZeroIs Tryd.prog 91 [.slice none 0 0] := by unfold ZeroIs; kernel_rfl
theorem zero3 : ZeroIs Tryd.prog 3 [.int .i64 0] := by unfold ZeroIs; kernel_rfl
theorem zero78 : ZeroIs Tryd.prog 78 (NodT.v (NodT.emp 0 0)) := by unfold ZeroIs; kernel_rfl
theorem size78 : SizeIs Tryd.prog 78 274 := by unfold SizeIs; kernel_rfl
theorem field78_0 : FieldIs Tryd.prog 78 0 0 1 := by unfold FieldIs; kernel_rfl
theorem field78_1 : FieldIs Tryd.prog 78 1 1 1 := by unfold FieldIs; kernel_rfl
theorem field78_2 : FieldIs Tryd.prog 78 2 2 140 := by unfold FieldIs; kernel_rfl
theorem field78_3 : FieldIs Tryd.prog 78 3 142 132 := by unfold FieldIs; kernel_rfl
theorem isGroup_y (x : NodT) (hx : x.Fit) (h : x.l.toNat = 0) : Fn Tryd.prog 46 [.v (aggV x.v)] (.v (.bool true)) := by
 refine Fn.of Tryd.func46 rfl (by kernel_rfl) Tryd.ntmps46 (by simp) (fun w => [(0, .v (aggV x.v))]) (fun w => (Start.v rfl Start.nil)) fun w₀ => ?_
 refine GS ?_
 refine TN 0 ?_
 refine RN ?_
 refine ⟨_, _, eff_box (n := 6) (d := 1) (k := 1000001) rfl (by decide), fun b1 hb1 => ?_⟩
 have hBb1 := hb1.1
 refine TL ?_
 refine RA rfl ?_
 refine RN ?_
 refine GS ?_
 refine TL ?_
 refine RS (ok_field field78_0 (by decide) rfl) ?_
 refine RS (ok_loadV (s := 1000001) (by decide) Tryd.underlying5 rfl rfl rfl (rfl)) ?_
 refine RBS rfl rfl rfl (.bool true) (by first | rfl | (simp; done) | (simp; omega) | (simp [*]; done) | (simp [*]; omega)) ?_
 refine RA rfl ?_
 refine RN ?_
 refine A.ret ?_
 exact End.ret1 rfl rfl (by first | exact Le.refl _ | exact Le.old _ _)
theorem isGroup_n (x : NodT) (hx : x.Fit) (h : ¬ x.l.toNat = 0) : Fn Tryd.prog 46 [.v (aggV x.v)] (.v (.bool false)) := by
 refine Fn.of Tryd.func46 rfl (by kernel_rfl) Tryd.ntmps46 (by simp) (fun w => [(0, .v (aggV x.v))]) (fun w => (Start.v rfl Start.nil)) fun w₀ => ?_
 refine GS ?_
 refine TN 0 ?_
 refine RN ?_
 refine ⟨_, _, eff_box (n := 6) (d := 1) (k := 1000001) rfl (by decide), fun b1 hb1 => ?_⟩
 have hBb1 := hb1.1
 refine TL ?_
 refine RA rfl ?_
 refine RN ?_
 refine GS ?_
 refine TL ?_
 refine RS (ok_field field78_0 (by decide) rfl) ?_
 refine RS (ok_loadV (s := 1000001) (by decide) Tryd.underlying5 rfl rfl rfl (rfl)) ?_
 refine RBS rfl rfl rfl (.bool false) (by first | rfl | (simp; done) | (simp; omega) | (simp [*]; done) | (simp [*]; omega)) ?_
 refine RA rfl ?_
 refine RN ?_
 refine A.ret ?_
 exact End.ret1 rfl rfl (by first | exact Le.refl _ | exact Le.old _ _)
theorem allZeroR_fn (b T o m k : Nat) (cs : List Value) (L : List RecT) (hL : L.length = k) (hk : k ≤ 4) (hf : ∀ r ∈ L, r.Fit) (hc : (cs.drop o).take (L.length * 35) = L.flatMap RecT.v) (hl : o + k * 35 ≤ cs.length) : FnM Tryd.prog 78 (allM b T cs) [.v (.slice (some ⟨b, o, none⟩) k m)] (.v (.bool (decide (∀ i, i < k → (L.getD i RecT.zero).Z)))) := by
 refine FnM.of Tryd.func78 rfl (by kernel_rfl) Tryd.ntmps78 (by simp) (by decide) (fun w => [(0, .v (.slice (some ⟨b, o, none⟩) k m)), (1900000, blk b T cs)]) (fun w => (StartM.v rfl (StartM.m (by simp [allM]) (by decide) StartM.nil))) fun w₀ hM => ?_
 skip
 refine GS ?_
 refine TL ?_
 refine RA rfl ?_
 refine RN ?_
 refine GS ?_
 refine TN 0 ?_
 refine RN ?_
 refine ⟨_, _, eff_alloc (n := 16) (d := 3) (k := 1000003) zero72 (by decide), fun b3 hb3 => ?_⟩
 have hBb3 := hb3.1
 have hlt_b_b3 : b < b3 := hb3.2 1900000 _ _ _ rfl
 refine TL ?_
 refine RN ?_
 refine A.seq ?_
 refine GS ?_
 refine TL ?_
 refine RM rfl ?_
 refine RS (ok_lenV Tryd.underlying143 rfl) ?_
 refine RM rfl ?_
 refine RN ?_
 refine A.block ?_
 refine A.loop (ι := Nat) (fun i => i ≤ k ∧ ∀ j, j < i → (L.getD j RecT.zero).Z) (fun i => [(3, .v (ptr b3)), (6, .v (.slice (some ⟨b, o, none⟩) k m)), (7, .v (nI (k))), (8, .v (nI (i))), (1000003, blk b3 72 (RecT.v RecT.zero)), (1900000, blk b T cs)]) (fun i => k - i) 0 ?_ ?_ ?_
 ·exact ⟨Nat.zero_le _, fun j h => absurd h (Nat.not_lt_zero _)⟩
 ·exact (KC 3 rfl (KC 6 rfl (KC 7 rfl (KE 8 rfl (by rfl) (KE 1000003 rfl (by rfl) (KC 1900000 rfl KN))))))
 intro i hG
 refine GS ?_
 refine TL ?_
 refine RB rfl rfl rfl ?_
 refine RN ?_
 refine A.seq ?_
 refine A.cond rfl (fun hc9 => ?_) (fun hc9 => ?_)
 ·have hi : i < k := by simp at hc9; omega
  have hi' : i < L.length := by omega
  refine A.skip ?_
  refine EN ?_
  refine A.seq ?_
  refine A.block ?_
  refine GS ?_
  refine TN 2 ?_
  refine RS (ok_indexS i Tryd.underlying143 infoP72 rfl rfl rfl hi) ?_
  refine RS (ok_loadP (s := 1900000) (by decide) Tryd.underlying72 rfl size72 rfl rfl (by have := Nat.mul_le_mul_right 35 (Nat.succ_le_of_lt hi); rw [Nat.succ_mul] at this; omega) (rows_part (RecT.lens hf) hc hi' RecT.zero)) ?_
  refine RN ?_
  refine ⟨_, _, eff_alloc (n := 16) (d := 5) (k := 1000005) zero72 (by decide), fun b5 hb5 => ?_⟩
  have hBb5 := hb5.1
  have hlt_b3_b5 : b3 < b5 := hb5.2 1000003 _ _ _ rfl
  have hlt_b_b5 : b < b5 := hb5.2 1900000 _ _ _ rfl
  refine TF 3 ?_
  refine RN ?_
  refine ⟨_, eff_storeA (n := 16) (s := 1000005) (size72.of ((hf _ (getD_in L hi' _)).len)) rfl rfl (by first | exact NodT.one _ | exact RecT.one _ | exact EntT.one _ | exact RecT.all1 _ | exact EntT.all1 _ | exact all_byte _ | exact all_bytes _) hBb5 rfl (by first | rfl | (rw [(hf _ (getD_in L hi' _)).len]; rfl)) (LV 3 rfl (LV 5 rfl (LV 6 rfl (LV 7 rfl (LV 8 rfl (LB 1000003 rfl (LB 1900000 rfl LN))))))), ?_⟩
  refine TL ?_
  refine RN ?_
  refine GS ?_
  refine TL ?_
  refine RS (ok_loadA (s := 1000005) (by decide) Tryd.underlying72 rfl (size72.of ((hf _ (getD_in L hi' _)).len)) rfl rfl) ?_
  refine RS (ok_loadA (s := 1000003) (by decide) Tryd.underlying72 rfl (size72.of (rfl)) rfl rfl) ?_; refine RZ (aggV RecT.zero.v) (by rfl) ?_
  refine RS (ok_neqT (n := 4) (decide (L.getD i RecT.zero).Z) flat72 (by decide) (by kernel_rfl) (by kernel_rfl) rfl rfl (hf _ (getD_in L hi' _)).kin RecT.zero_fit.kin (RecT.dz _)) ?_
  refine RN ?_
  refine A.cond rfl (fun hc14 => ?_) (fun hc14 => ?_)
  ·have hz : ¬ (L.getD i RecT.zero).Z := by simpa using hc14
   refine GS ?_
   refine TL ?_
   refine RA rfl ?_
   refine RN ?_
   refine A.ret ?_
   refine End.ret_block ?_
   refine End.ret_then ?_
   refine End.ret_then ?_
   refine End.ret_block ?_
   refine End.ret_then ?_
   first | exact End.ret1 rfl rfl (Le.v (congrArg Value.bool (decide_eq_false (fun h => hz (h i hi))).symm)) | exact End.ret1 rfl rfl (Le.v (congrArg Value.bool (decide_eq_true (fun j hj => hG.2 j (by omega))).symm))
  ·have hz : (L.getD i RecT.zero).Z := by simpa using hc14
   refine A.skip ?_
   refine End.normal_block ?_
   refine EN ?_
   refine GE ?_
   refine TL ?_
   refine RBS rfl rfl rfl (nI (i + 1)) (wrap_eq (by omega) (by omega)) ?_
   refine RM rfl ?_
   refine RN ?_
   refine End.normal_then ?_
   refine End.again (i + 1) ?_ ?_ ?_
   ·exact ⟨by omega, fun j hj => (Nat.lt_or_ge j i).elim (hG.2 j) fun h => by rw [show j = i from by omega]; exact hz⟩
   ·show _ - _ < _ - _; omega
   ·exact (KC 3 rfl (KC 6 rfl (KC 7 rfl (KC 8 rfl (KC 1000003 rfl (KC 1900000 rfl KN))))))
 ·have hi2 : i = k := by have := hG.1; simp at hc9; omega
  refine A.exit ?_
  refine End.exit_then ?_
  refine End.exit_then ?_
  refine End.exit_here ?_
  refine EN ?_
  refine GS ?_
  refine TL ?_
  refine RA rfl ?_
  refine RN ?_
  refine A.ret ?_
  first | exact End.ret1 rfl rfl (Le.v (congrArg Value.bool (decide_eq_false (fun h => hz (h i hi))).symm)) | exact End.ret1 rfl rfl (Le.v (congrArg Value.bool (decide_eq_true (fun j hj => hG.2 j (by omega))).symm))
theorem allZeroE_fn (b T o m k : Nat) (cs : List Value) (L : List EntT) (hL : L.length = k) (hk : k ≤ 4) (hf : ∀ r ∈ L, r.Fit) (hc : (cs.drop o).take (L.length * 33) = L.flatMap EntT.v) (hl : o + k * 33 ≤ cs.length) : FnM Tryd.prog 76 (allM b T cs) [.v (.slice (some ⟨b, o, none⟩) k m)] (.v (.bool (decide (∀ i, i < k → (L.getD i EntT.zero).Z)))) := by
 refine FnM.of Tryd.func76 rfl (by kernel_rfl) Tryd.ntmps76 (by simp) (by decide) (fun w => [(0, .v (.slice (some ⟨b, o, none⟩) k m)), (1900000, blk b T cs)]) (fun w => (StartM.v rfl (StartM.m (by simp [allM]) (by decide) StartM.nil))) fun w₀ hM => ?_
 skip
 refine GS ?_
 refine TL ?_
 refine RA rfl ?_
 refine RN ?_
 refine GS ?_
 refine TN 0 ?_
 refine RN ?_
 refine ⟨_, _, eff_alloc (n := 16) (d := 3) (k := 1000003) zero75 (by decide), fun b3 hb3 => ?_⟩
 have hBb3 := hb3.1
 have hlt_b_b3 : b < b3 := hb3.2 1900000 _ _ _ rfl
 refine TL ?_
 refine RN ?_
 refine A.seq ?_
 refine GS ?_
 refine TL ?_
 refine RM rfl ?_
 refine RS (ok_lenV Tryd.underlying140 rfl) ?_
 refine RM rfl ?_
 refine RN ?_
 refine A.block ?_
 refine A.loop (ι := Nat) (fun i => i ≤ k ∧ ∀ j, j < i → (L.getD j EntT.zero).Z) (fun i => [(3, .v (ptr b3)), (6, .v (.slice (some ⟨b, o, none⟩) k m)), (7, .v (nI (k))), (8, .v (nI (i))), (1000003, blk b3 75 (EntT.v EntT.zero)), (1900000, blk b T cs)]) (fun i => k - i) 0 ?_ ?_ ?_
 ·exact ⟨Nat.zero_le _, fun j h => absurd h (Nat.not_lt_zero _)⟩
 ·exact (KC 3 rfl (KC 6 rfl (KC 7 rfl (KE 8 rfl (by rfl) (KE 1000003 rfl (by rfl) (KC 1900000 rfl KN))))))
 intro i hG
 refine GS ?_
 refine TL ?_
 refine RB rfl rfl rfl ?_
 refine RN ?_
 refine A.seq ?_
 refine A.cond rfl (fun hc9 => ?_) (fun hc9 => ?_)
 ·have hi : i < k := by simp at hc9; omega
  have hi' : i < L.length := by omega
  refine A.skip ?_
  refine EN ?_
  refine A.seq ?_
  refine A.block ?_
  refine GS ?_
  refine TN 2 ?_
  refine RS (ok_indexS i Tryd.underlying140 infoP75 rfl rfl rfl hi) ?_
  refine RS (ok_loadP (s := 1900000) (by decide) Tryd.underlying75 rfl size75 rfl rfl (by have := Nat.mul_le_mul_right 33 (Nat.succ_le_of_lt hi); rw [Nat.succ_mul] at this; omega) (rows_part (EntT.lens hf) hc hi' EntT.zero)) ?_
  refine RN ?_
  refine ⟨_, _, eff_alloc (n := 16) (d := 5) (k := 1000005) zero75 (by decide), fun b5 hb5 => ?_⟩
  have hBb5 := hb5.1
  have hlt_b3_b5 : b3 < b5 := hb5.2 1000003 _ _ _ rfl
  have hlt_b_b5 : b < b5 := hb5.2 1900000 _ _ _ rfl
  refine TF 3 ?_
  refine RN ?_
  refine ⟨_, eff_storeA (n := 16) (s := 1000005) (size75.of ((hf _ (getD_in L hi' _)).len)) rfl rfl (by first | exact NodT.one _ | exact RecT.one _ | exact EntT.one _ | exact RecT.all1 _ | exact EntT.all1 _ | exact all_byte _ | exact all_bytes _) hBb5 rfl (by first | rfl | (rw [(hf _ (getD_in L hi' _)).len]; rfl)) (LV 3 rfl (LV 5 rfl (LV 6 rfl (LV 7 rfl (LV 8 rfl (LB 1000003 rfl (LB 1900000 rfl LN))))))), ?_⟩
  refine TL ?_
  refine RN ?_
  refine GS ?_
  refine TL ?_
  refine RS (ok_loadA (s := 1000005) (by decide) Tryd.underlying75 rfl (size75.of ((hf _ (getD_in L hi' _)).len)) rfl rfl) ?_
  refine RS (ok_loadA (s := 1000003) (by decide) Tryd.underlying75 rfl (size75.of (rfl)) rfl rfl) ?_; refine RZ (aggV EntT.zero.v) (by rfl) ?_
  refine RS (ok_neqT (n := 4) (decide (L.getD i EntT.zero).Z) flat75 (by decide) (by kernel_rfl) (by kernel_rfl) rfl rfl (hf _ (getD_in L hi' _)).kin EntT.zero_fit.kin (EntT.dz _)) ?_
  refine RN ?_
  refine A.cond rfl (fun hc14 => ?_) (fun hc14 => ?_)
  ·have hz : ¬ (L.getD i EntT.zero).Z := by simpa using hc14
   refine GS ?_
   refine TL ?_
   refine RA rfl ?_
   refine RN ?_
   refine A.ret ?_
   refine End.ret_block ?_
   refine End.ret_then ?_
   refine End.ret_then ?_
   refine End.ret_block ?_
   refine End.ret_then ?_
   first | exact End.ret1 rfl rfl (Le.v (congrArg Value.bool (decide_eq_false (fun h => hz (h i hi))).symm)) | exact End.ret1 rfl rfl (Le.v (congrArg Value.bool (decide_eq_true (fun j hj => hG.2 j (by omega))).symm))
  ·have hz : (L.getD i EntT.zero).Z := by simpa using hc14
   refine A.skip ?_
   refine End.normal_block ?_
   refine EN ?_
   refine GE ?_
   refine TL ?_
   refine RBS rfl rfl rfl (nI (i + 1)) (wrap_eq (by omega) (by omega)) ?_
   refine RM rfl ?_
   refine RN ?_
   refine End.normal_then ?_
   refine End.again (i + 1) ?_ ?_ ?_
   ·exact ⟨by omega, fun j hj => (Nat.lt_or_ge j i).elim (hG.2 j) fun h => by rw [show j = i from by omega]; exact hz⟩
   ·show _ - _ < _ - _; omega
   ·exact (KC 3 rfl (KC 6 rfl (KC 7 rfl (KC 8 rfl (KC 1000003 rfl (KC 1900000 rfl KN))))))
 ·have hi2 : i = k := by have := hG.1; simp at hc9; omega
  refine A.exit ?_
  refine End.exit_then ?_
  refine End.exit_then ?_
  refine End.exit_here ?_
  refine EN ?_
  refine GS ?_
  refine TL ?_
  refine RA rfl ?_
  refine RN ?_
  refine A.ret ?_
  first | exact End.ret1 rfl rfl (Le.v (congrArg Value.bool (decide_eq_false (fun h => hz (h i hi))).symm)) | exact End.ret1 rfl rfl (Le.v (congrArg Value.bool (decide_eq_true (fun j hj => hG.2 j (by omega))).symm))
theorem checkPartsR_z (L : List RecT) (O : List EntT) (hL : L.length = 4) (hO : O.length = 4) (hf : ∀ r ∈ L, r.Fit) (hfo : ∀ r ∈ O, r.Fit) (hz : ¬ ∀ i, i < 4 → (O.getD i EntT.zero).Z) : Fn Tryd.prog 60 [.v (aggV (recsV L)), .v (.func (.func 61) #[] #[]), .v (aggV (entsV O))] (.v (.int .i64 (1))) := by
 refine Fn.of Tryd.func60 rfl (by kernel_rfl) Tryd.ntmps60 (by simp) (fun w => [(0, .v (aggV (recsV L))), (1, .v (.func (.func 61) #[] #[])), (2, .v (aggV (entsV O)))]) (fun w => (Start.v rfl (Start.v rfl (Start.v rfl Start.nil)))) fun w₀ => ?_
 refine GS ?_
 refine TN 0 ?_
 refine RN ?_
 refine ⟨_, _, eff_box (n := 24) (d := 3) (k := 1000003) rfl (by decide), fun b3 hb3 => ?_⟩
 have hBb3 := hb3.1
 refine TN 1 ?_
 refine RN ?_
 refine ⟨_, _, eff_box (n := 24) (d := 5) (k := 1000005) rfl (by decide), fun b5 hb5 => ?_⟩
 have hBb5 := hb5.1
 refine TL ?_
 refine RA rfl ?_
 refine RN ?_
 refine A.seq ?_
 refine GS ?_
 refine TL ?_
 refine RS (ok_sliceN 0 4 Tryd.underlying76 size75 rfl (.inr ⟨rfl, rfl⟩) (.inr ⟨rfl, rfl, rfl⟩) (.inr ⟨rfl, rfl⟩) (by decide) (by decide) (by decide)) ?_; refine RZ (.slice (some ⟨b5, 0, none⟩) 4 4) (by rfl) ?_
 refine RS (ok_callK 1000005 (allZeroE_fn b5 76 0 4 4 (entsV O) O hO (by decide) hfo (by rw [List.drop_zero, List.take_of_length_le (Nat.le_of_eq (flat_length (EntT.lens hfo)))]) (by rw [flat_length (EntT.lens hfo), hO]; decide)) (by decide) rfl (A1 rfl)) ?_; refine RZ (.bool false) (congrArg Value.bool (decide_eq_false hz)) ?_
 refine RS (ok_not rfl) ?_
 refine RN ?_
 refine A.yes rfl ?_
 refine GS ?_
 refine TL ?_
 refine RA rfl ?_
 refine RN ?_
 refine A.ret ?_
 refine End.ret_then ?_
 exact End.ret1 rfl rfl (by first | exact Le.refl _ | exact Le.old _ _)
theorem checkPartsR_fn (L : List RecT) (O : List EntT) (hL : L.length = 4) (hO : O.length = 4) (hf : ∀ r ∈ L, r.Fit) (hfo : ∀ r ∈ O, r.Fit) (hz : ∀ i, i < 4 → (O.getD i EntT.zero).Z) : Fn Tryd.prog 60 [.v (aggV (recsV L)), .v (.func (.func 61) #[] #[]), .v (aggV (entsV O))] (.v (.int .i64 (fst4 fun i => (L.getD i RecT.zero).ck))) := by
 refine Fn.of Tryd.func60 rfl (by kernel_rfl) Tryd.ntmps60 (by simp) (fun w => [(0, .v (aggV (recsV L))), (1, .v (.func (.func 61) #[] #[])), (2, .v (aggV (entsV O)))]) (fun w => (Start.v rfl (Start.v rfl (Start.v rfl Start.nil)))) fun w₀ => ?_
 refine GS ?_
 refine TN 0 ?_
 refine RN ?_
 refine ⟨_, _, eff_box (n := 24) (d := 3) (k := 1000003) rfl (by decide), fun b3 hb3 => ?_⟩
 have hBb3 := hb3.1
 refine TN 1 ?_
 refine RN ?_
 refine ⟨_, _, eff_box (n := 24) (d := 5) (k := 1000005) rfl (by decide), fun b5 hb5 => ?_⟩
 have hBb5 := hb5.1
 refine TL ?_
 refine RA rfl ?_
 refine RN ?_
 refine A.seq ?_
 refine GS ?_
 refine TL ?_
 refine RS (ok_sliceN 0 4 Tryd.underlying76 size75 rfl (.inr ⟨rfl, rfl⟩) (.inr ⟨rfl, rfl, rfl⟩) (.inr ⟨rfl, rfl⟩) (by decide) (by decide) (by decide)) ?_; refine RZ (.slice (some ⟨b5, 0, none⟩) 4 4) (by rfl) ?_
 refine RS (ok_callK 1000005 (allZeroE_fn b5 76 0 4 4 (entsV O) O hO (by decide) hfo (by rw [List.drop_zero, List.take_of_length_le (Nat.le_of_eq (flat_length (EntT.lens hfo)))]) (by rw [flat_length (EntT.lens hfo), hO]; decide)) (by decide) rfl (A1 rfl)) ?_; refine RZ (.bool true) (congrArg Value.bool (decide_eq_true hz)) ?_
 refine RS (ok_not rfl) ?_
 refine RN ?_
 refine A.no rfl ?_
 refine A.skip ?_
 refine EN ?_
 refine A.seq ?_
 refine GS ?_
 refine TL ?_
 refine RS (ok_loadA (s := 1000003) (by decide) Tryd.underlying73 rfl (size73.of (by rw [flat_length (RecT.lens hf), hL])) rfl rfl) ?_
 refine RM rfl ?_
 refine RN ?_
 refine A.block ?_
 refine A.loop (ι := Nat) (fun i => i ≤ 4 ∧ ∀ j, j < i → (L.getD j RecT.zero).ck = 0) (fun i => [(1, .v (.func (.func 61) #[] #[])), (13, .v (aggV (recsV L))), (14, .v (nI (i)))]) (fun i => 4 - i) 0 ?_ ?_ ?_
 ·exact ⟨Nat.zero_le _, fun j h => absurd h (Nat.not_lt_zero _)⟩
 ·exact (KC 1 rfl (KC 13 rfl (KE 14 rfl (by rfl) KN)))
 intro i hG
 refine GS ?_
 refine TL ?_
 refine RB rfl rfl rfl ?_
 refine RN ?_
 refine A.seq ?_
 refine A.cond rfl (fun hc15 => ?_) (fun hc15 => ?_)
 ·have hi : i < 4 := by simp at hc15; omega
  refine A.skip ?_
  refine EN ?_
  refine A.seq ?_
  refine A.block ?_
  refine GS ?_
  refine TN 1 ?_
  refine RS (ok_indexAgg i Tryd.underlying73 Tryd.underlying72 rfl size72 rfl rfl rfl hi (flat_getD (RecT.lens hf) (by omega) RecT.zero)) ?_
  refine RN ?_
  refine ⟨_, _, eff_alloc (n := 24) (d := 8) (k := 1000008) zero72 (by decide), fun b8 hb8 => ?_⟩
  have hBb8 := hb8.1
  refine TF 2 ?_
  refine RN ?_
  refine ⟨_, eff_storeA (n := 24) (s := 1000008) (size72.of ((hf (L.getD i RecT.zero) (getD_mem4 hL hi _)).len)) rfl rfl (by first | exact NodT.one _ | exact RecT.one _ | exact EntT.one _ | exact RecT.all1 _ | exact EntT.all1 _ | exact all_byte _ | exact all_bytes _) hBb8 rfl (by first | rfl | (rw [(hf (L.getD i RecT.zero) (getD_mem4 hL hi _)).len]; rfl)) (LV 1 rfl (LV 8 rfl (LV 13 rfl (LV 14 rfl LN)))), ?_⟩
  refine TL ?_
  refine RN ?_
  refine GS ?_
  refine TL ?_
  refine RM rfl ?_
  refine RS (ok_loadA (s := 1000008) (by decide) Tryd.underlying72 rfl (size72.of ((hf (L.getD i RecT.zero) (getD_mem4 hL hi _)).len)) rfl rfl) ?_
  refine RS (ok_callV0 (CheckR_fn (L.getD i RecT.zero).x (L.getD i RecT.zero).s (L.getD i RecT.zero).c (L.getD i RecT.zero).t (hf (L.getD i RecT.zero) (getD_mem4 hL hi _)).t) rfl (A1 rfl)) ?_; refine RZ (.int .i64 (L.getD i RecT.zero).ck) (rfl) ?_
  refine RA rfl ?_
  refine RN ?_
  refine GS ?_
  refine TL ?_
  refine RM rfl ?_
  refine RB rfl rfl rfl ?_
  refine RN ?_
  refine A.cond rfl (fun hc21 => ?_) (fun hc21 => ?_)
  ·have hk : (L.getD i RecT.zero).ck ≠ 0 := by simpa using hc21
   refine GS ?_
   refine TL ?_
   refine RM rfl ?_
   refine RA rfl ?_
   refine RN ?_
   refine A.ret ?_
   refine End.ret_block ?_
   refine End.ret_then ?_
   refine End.ret_then ?_
   refine End.ret_block ?_
   refine End.ret_then ?_
   first | exact End.ret1 rfl rfl (Le.v (congrArg (Value.int .i64) (fst4_at (f := fun i => (L.getD i RecT.zero).ck) hi hG.2 hk))) | exact End.ret1 rfl rfl (Le.v (congrArg (Value.int .i64) (fst4_no (f := fun i => (L.getD i RecT.zero).ck) (fun j hj => hG.2 j (by omega))).symm))
  ·have hk : (L.getD i RecT.zero).ck = 0 := by simpa using hc21
   refine A.skip ?_
   refine End.normal_block ?_
   refine EN ?_
   refine GE ?_
   refine TL ?_
   refine RBS rfl rfl rfl (nI (i + 1)) (wrap_eq (by omega) (by omega)) ?_
   refine RM rfl ?_
   refine RN ?_
   refine End.normal_then ?_
   refine End.again (i + 1) ?_ ?_ ?_
   ·exact ⟨by omega, fun j hj => (Nat.lt_or_ge j i).elim (hG.2 j) fun h => by rw [show j = i from by omega]; exact hk⟩
   ·show _ - _ < _ - _; omega
   ·exact (KC 1 rfl (KC 13 rfl (KC 14 rfl KN)))
 ·have hi2 : i = 4 := by have := hG.1; simp at hc15; omega
  refine A.exit ?_
  refine End.exit_then ?_
  refine End.exit_then ?_
  refine End.exit_here ?_
  refine EN ?_
  refine GS ?_
  refine TL ?_
  refine RA rfl ?_
  refine RN ?_
  refine A.ret ?_
  first | exact End.ret1 rfl rfl (Le.v (congrArg (Value.int .i64) (fst4_at (f := fun i => (L.getD i RecT.zero).ck) hi hG.2 hk))) | exact End.ret1 rfl rfl (Le.v (congrArg (Value.int .i64) (fst4_no (f := fun i => (L.getD i RecT.zero).ck) (fun j hj => hG.2 j (by omega))).symm))
theorem checkPartsE_z (L : List EntT) (O : List RecT) (hL : L.length = 4) (hO : O.length = 4) (hf : ∀ r ∈ L, r.Fit) (hfo : ∀ r ∈ O, r.Fit) (hz : ¬ ∀ i, i < 4 → (O.getD i RecT.zero).Z) : Fn Tryd.prog 62 [.v (aggV (entsV L)), .v (.func (.func 63) #[] #[]), .v (aggV (recsV O))] (.v (.int .i64 (1))) := by
 refine Fn.of Tryd.func62 rfl (by kernel_rfl) Tryd.ntmps62 (by simp) (fun w => [(0, .v (aggV (entsV L))), (1, .v (.func (.func 63) #[] #[])), (2, .v (aggV (recsV O)))]) (fun w => (Start.v rfl (Start.v rfl (Start.v rfl Start.nil)))) fun w₀ => ?_
 refine GS ?_
 refine TN 0 ?_
 refine RN ?_
 refine ⟨_, _, eff_box (n := 24) (d := 3) (k := 1000003) rfl (by decide), fun b3 hb3 => ?_⟩
 have hBb3 := hb3.1
 refine TN 1 ?_
 refine RN ?_
 refine ⟨_, _, eff_box (n := 24) (d := 5) (k := 1000005) rfl (by decide), fun b5 hb5 => ?_⟩
 have hBb5 := hb5.1
 refine TL ?_
 refine RA rfl ?_
 refine RN ?_
 refine A.seq ?_
 refine GS ?_
 refine TL ?_
 refine RS (ok_sliceN 0 4 Tryd.underlying73 size72 rfl (.inr ⟨rfl, rfl⟩) (.inr ⟨rfl, rfl, rfl⟩) (.inr ⟨rfl, rfl⟩) (by decide) (by decide) (by decide)) ?_; refine RZ (.slice (some ⟨b5, 0, none⟩) 4 4) (by rfl) ?_
 refine RS (ok_callK 1000005 (allZeroR_fn b5 73 0 4 4 (recsV O) O hO (by decide) hfo (by rw [List.drop_zero, List.take_of_length_le (Nat.le_of_eq (flat_length (RecT.lens hfo)))]) (by rw [flat_length (RecT.lens hfo), hO]; decide)) (by decide) rfl (A1 rfl)) ?_; refine RZ (.bool false) (congrArg Value.bool (decide_eq_false hz)) ?_
 refine RS (ok_not rfl) ?_
 refine RN ?_
 refine A.yes rfl ?_
 refine GS ?_
 refine TL ?_
 refine RA rfl ?_
 refine RN ?_
 refine A.ret ?_
 refine End.ret_then ?_
 exact End.ret1 rfl rfl (by first | exact Le.refl _ | exact Le.old _ _)
theorem checkPartsE_fn (L : List EntT) (O : List RecT) (hL : L.length = 4) (hO : O.length = 4) (hf : ∀ r ∈ L, r.Fit) (hfo : ∀ r ∈ O, r.Fit) (hz : ∀ i, i < 4 → (O.getD i RecT.zero).Z) : Fn Tryd.prog 62 [.v (aggV (entsV L)), .v (.func (.func 63) #[] #[]), .v (aggV (recsV O))] (.v (.int .i64 (fst4 fun i => (L.getD i EntT.zero).ck))) := by
 refine Fn.of Tryd.func62 rfl (by kernel_rfl) Tryd.ntmps62 (by simp) (fun w => [(0, .v (aggV (entsV L))), (1, .v (.func (.func 63) #[] #[])), (2, .v (aggV (recsV O)))]) (fun w => (Start.v rfl (Start.v rfl (Start.v rfl Start.nil)))) fun w₀ => ?_
 refine GS ?_
 refine TN 0 ?_
 refine RN ?_
 refine ⟨_, _, eff_box (n := 24) (d := 3) (k := 1000003) rfl (by decide), fun b3 hb3 => ?_⟩
 have hBb3 := hb3.1
 refine TN 1 ?_
 refine RN ?_
 refine ⟨_, _, eff_box (n := 24) (d := 5) (k := 1000005) rfl (by decide), fun b5 hb5 => ?_⟩
 have hBb5 := hb5.1
 refine TL ?_
 refine RA rfl ?_
 refine RN ?_
 refine A.seq ?_
 refine GS ?_
 refine TL ?_
 refine RS (ok_sliceN 0 4 Tryd.underlying73 size72 rfl (.inr ⟨rfl, rfl⟩) (.inr ⟨rfl, rfl, rfl⟩) (.inr ⟨rfl, rfl⟩) (by decide) (by decide) (by decide)) ?_; refine RZ (.slice (some ⟨b5, 0, none⟩) 4 4) (by rfl) ?_
 refine RS (ok_callK 1000005 (allZeroR_fn b5 73 0 4 4 (recsV O) O hO (by decide) hfo (by rw [List.drop_zero, List.take_of_length_le (Nat.le_of_eq (flat_length (RecT.lens hfo)))]) (by rw [flat_length (RecT.lens hfo), hO]; decide)) (by decide) rfl (A1 rfl)) ?_; refine RZ (.bool true) (congrArg Value.bool (decide_eq_true hz)) ?_
 refine RS (ok_not rfl) ?_
 refine RN ?_
 refine A.no rfl ?_
 refine A.skip ?_
 refine EN ?_
 refine A.seq ?_
 refine GS ?_
 refine TL ?_
 refine RS (ok_loadA (s := 1000003) (by decide) Tryd.underlying76 rfl (size76.of (by rw [flat_length (EntT.lens hf), hL])) rfl rfl) ?_
 refine RM rfl ?_
 refine RN ?_
 refine A.block ?_
 refine A.loop (ι := Nat) (fun i => i ≤ 4 ∧ ∀ j, j < i → (L.getD j EntT.zero).ck = 0) (fun i => [(1, .v (.func (.func 63) #[] #[])), (13, .v (aggV (entsV L))), (14, .v (nI (i)))]) (fun i => 4 - i) 0 ?_ ?_ ?_
 ·exact ⟨Nat.zero_le _, fun j h => absurd h (Nat.not_lt_zero _)⟩
 ·exact (KC 1 rfl (KC 13 rfl (KE 14 rfl (by rfl) KN)))
 intro i hG
 refine GS ?_
 refine TL ?_
 refine RB rfl rfl rfl ?_
 refine RN ?_
 refine A.seq ?_
 refine A.cond rfl (fun hc15 => ?_) (fun hc15 => ?_)
 ·have hi : i < 4 := by simp at hc15; omega
  refine A.skip ?_
  refine EN ?_
  refine A.seq ?_
  refine A.block ?_
  refine GS ?_
  refine TN 1 ?_
  refine RS (ok_indexAgg i Tryd.underlying76 Tryd.underlying75 rfl size75 rfl rfl rfl hi (flat_getD (EntT.lens hf) (by omega) EntT.zero)) ?_
  refine RN ?_
  refine ⟨_, _, eff_alloc (n := 24) (d := 8) (k := 1000008) zero75 (by decide), fun b8 hb8 => ?_⟩
  have hBb8 := hb8.1
  refine TF 2 ?_
  refine RN ?_
  refine ⟨_, eff_storeA (n := 24) (s := 1000008) (size75.of ((hf (L.getD i EntT.zero) (getD_mem4 hL hi _)).len)) rfl rfl (by first | exact NodT.one _ | exact RecT.one _ | exact EntT.one _ | exact RecT.all1 _ | exact EntT.all1 _ | exact all_byte _ | exact all_bytes _) hBb8 rfl (by first | rfl | (rw [(hf (L.getD i EntT.zero) (getD_mem4 hL hi _)).len]; rfl)) (LV 1 rfl (LV 8 rfl (LV 13 rfl (LV 14 rfl LN)))), ?_⟩
  refine TL ?_
  refine RN ?_
  refine GS ?_
  refine TL ?_
  refine RM rfl ?_
  refine RS (ok_loadA (s := 1000008) (by decide) Tryd.underlying75 rfl (size75.of ((hf (L.getD i EntT.zero) (getD_mem4 hL hi _)).len)) rfl rfl) ?_
  refine RS (ok_callV0 (CheckE_fn (L.getD i EntT.zero).x (L.getD i EntT.zero).t (hf (L.getD i EntT.zero) (getD_mem4 hL hi _)).t) rfl (A1 rfl)) ?_; refine RZ (.int .i64 (L.getD i EntT.zero).ck) (rfl) ?_
  refine RA rfl ?_
  refine RN ?_
  refine GS ?_
  refine TL ?_
  refine RM rfl ?_
  refine RB rfl rfl rfl ?_
  refine RN ?_
  refine A.cond rfl (fun hc21 => ?_) (fun hc21 => ?_)
  ·have hk : (L.getD i EntT.zero).ck ≠ 0 := by simpa using hc21
   refine GS ?_
   refine TL ?_
   refine RM rfl ?_
   refine RA rfl ?_
   refine RN ?_
   refine A.ret ?_
   refine End.ret_block ?_
   refine End.ret_then ?_
   refine End.ret_then ?_
   refine End.ret_block ?_
   refine End.ret_then ?_
   first | exact End.ret1 rfl rfl (Le.v (congrArg (Value.int .i64) (fst4_at (f := fun i => (L.getD i EntT.zero).ck) hi hG.2 hk))) | exact End.ret1 rfl rfl (Le.v (congrArg (Value.int .i64) (fst4_no (f := fun i => (L.getD i EntT.zero).ck) (fun j hj => hG.2 j (by omega))).symm))
  ·have hk : (L.getD i EntT.zero).ck = 0 := by simpa using hc21
   refine A.skip ?_
   refine End.normal_block ?_
   refine EN ?_
   refine GE ?_
   refine TL ?_
   refine RBS rfl rfl rfl (nI (i + 1)) (wrap_eq (by omega) (by omega)) ?_
   refine RM rfl ?_
   refine RN ?_
   refine End.normal_then ?_
   refine End.again (i + 1) ?_ ?_ ?_
   ·exact ⟨by omega, fun j hj => (Nat.lt_or_ge j i).elim (hG.2 j) fun h => by rw [show j = i from by omega]; exact hk⟩
   ·show _ - _ < _ - _; omega
   ·exact (KC 1 rfl (KC 13 rfl (KC 14 rfl KN)))
 ·have hi2 : i = 4 := by have := hG.1; simp at hc15; omega
  refine A.exit ?_
  refine End.exit_then ?_
  refine End.exit_then ?_
  refine End.exit_here ?_
  refine EN ?_
  refine GS ?_
  refine TL ?_
  refine RA rfl ?_
  refine RN ?_
  refine A.ret ?_
  first | exact End.ret1 rfl rfl (Le.v (congrArg (Value.int .i64) (fst4_at (f := fun i => (L.getD i EntT.zero).ck) hi hG.2 hk))) | exact End.ret1 rfl rfl (Le.v (congrArg (Value.int .i64) (fst4_no (f := fun i => (L.getD i EntT.zero).ck) (fun j hj => hG.2 j (by omega))).symm))
theorem nCheck_hi (x : NodT) (hx : x.Fit) (h : 5 < x.l.toNat) : Fn Tryd.prog 43 [.v (aggV x.v)] (.v (.int .i64 (1))) := by
 refine Fn.of Tryd.func43 rfl (by kernel_rfl) Tryd.ntmps43 (by simp) (fun w => [(0, .v (aggV x.v))]) (fun w => (Start.v rfl Start.nil)) fun w₀ => ?_
 refine GS ?_
 refine TN 0 ?_
 refine RN ?_
 refine ⟨_, _, eff_box (n := 20) (d := 1) (k := 1000001) rfl (by decide), fun b1 hb1 => ?_⟩
 have hBb1 := hb1.1
 refine TL ?_
 refine RA rfl ?_
 refine RN ?_
 refine A.seq ?_
 refine A.block ?_
 refine GS ?_
 refine TL ?_
 refine RS (ok_field field78_0 (by decide) rfl) ?_
 refine RS (ok_loadV (s := 1000001) (by decide) Tryd.underlying5 rfl rfl rfl (rfl)) ?_
 refine RBS rfl rfl rfl (.bool true) (by first | rfl | (simp; done) | (simp; omega) | (simp [*]; done) | (simp [*]; omega)) ?_
 refine RA rfl ?_
 refine RN ?_
 refine A.yes rfl ?_
 refine GS ?_
 refine TL ?_
 refine RA rfl ?_
 refine RN ?_
 refine A.ret ?_
 refine End.ret_block ?_
 refine End.ret_then ?_
 exact End.ret1 rfl rfl (by first | exact Le.refl _ | exact Le.old _ _)
theorem nCheck_Rz (x : NodT) (hx : x.Fit) (h : x.l.toNat = 0) (hz : ¬ ∀ i, i < 4 → (x.e i).Z) : Fn Tryd.prog 43 [.v (aggV x.v)] (.v (.int .i64 (1))) := by
 refine Fn.of Tryd.func43 rfl (by kernel_rfl) Tryd.ntmps43 (by simp) (fun w => [(0, .v (aggV x.v))]) (fun w => (Start.v rfl Start.nil)) fun w₀ => ?_
 refine GS ?_
 refine TN 0 ?_
 refine RN ?_
 refine ⟨_, _, eff_box (n := 20) (d := 1) (k := 1000001) rfl (by decide), fun b1 hb1 => ?_⟩
 have hBb1 := hb1.1
 refine TL ?_
 refine RA rfl ?_
 refine RN ?_
 refine A.seq ?_
 refine A.block ?_
 refine GS ?_
 refine TL ?_
 refine RS (ok_field field78_0 (by decide) rfl) ?_
 refine RS (ok_loadV (s := 1000001) (by decide) Tryd.underlying5 rfl rfl rfl (rfl)) ?_
 refine RBS rfl rfl rfl (.bool false) (by first | rfl | (simp; done) | (simp; omega) | (simp [*]; done) | (simp [*]; omega)) ?_
 refine RA rfl ?_
 refine RN ?_
 refine A.no rfl ?_
 refine GS ?_
 refine TL ?_
 refine RS (ok_loadA (s := 1000001) (by decide) Tryd.underlying78 rfl (size78.of (hx.len)) rfl rfl) ?_
 refine RS (ok_call (isGroup_y x hx h) (A1 rfl)) ?_
 refine RA rfl ?_
 refine RN ?_
 refine A.yes rfl ?_
 refine GS ?_
 refine TL ?_
 refine RS (ok_field field78_2 (by decide) rfl) ?_
 refine RS (ok_loadP (s := 1000001) (by decide) Tryd.underlying73 rfl size73 rfl rfl (by rw [hx.len]; decide) (hx.getR)) ?_
 refine RS (ok_field field78_3 (by decide) rfl) ?_
 refine RS (ok_loadP (s := 1000001) (by decide) Tryd.underlying76 rfl size76 rfl rfl (by rw [hx.len]; decide) (hx.getE)) ?_
 refine RS (ok_call (checkPartsR_z x.R x.E hx.lr hx.le hx.fr hx.fe hz) (A3 rfl rfl rfl)) ?_
 refine RA rfl ?_
 refine RN ?_
 refine A.ret ?_
 refine End.ret_block ?_
 refine End.ret_then ?_
 exact End.ret1 rfl rfl (by first | exact Le.refl _ | exact Le.old _ _)
theorem nCheck_R (x : NodT) (hx : x.Fit) (h : x.l.toNat = 0) (hz : ∀ i, i < 4 → (x.e i).Z) : Fn Tryd.prog 43 [.v (aggV x.v)] (.v (.int .i64 (fst4 fun i => (x.r i).ck))) := by
 refine Fn.of Tryd.func43 rfl (by kernel_rfl) Tryd.ntmps43 (by simp) (fun w => [(0, .v (aggV x.v))]) (fun w => (Start.v rfl Start.nil)) fun w₀ => ?_
 refine GS ?_
 refine TN 0 ?_
 refine RN ?_
 refine ⟨_, _, eff_box (n := 20) (d := 1) (k := 1000001) rfl (by decide), fun b1 hb1 => ?_⟩
 have hBb1 := hb1.1
 refine TL ?_
 refine RA rfl ?_
 refine RN ?_
 refine A.seq ?_
 refine A.block ?_
 refine GS ?_
 refine TL ?_
 refine RS (ok_field field78_0 (by decide) rfl) ?_
 refine RS (ok_loadV (s := 1000001) (by decide) Tryd.underlying5 rfl rfl rfl (rfl)) ?_
 refine RBS rfl rfl rfl (.bool false) (by first | rfl | (simp; done) | (simp; omega) | (simp [*]; done) | (simp [*]; omega)) ?_
 refine RA rfl ?_
 refine RN ?_
 refine A.no rfl ?_
 refine GS ?_
 refine TL ?_
 refine RS (ok_loadA (s := 1000001) (by decide) Tryd.underlying78 rfl (size78.of (hx.len)) rfl rfl) ?_
 refine RS (ok_call (isGroup_y x hx h) (A1 rfl)) ?_
 refine RA rfl ?_
 refine RN ?_
 refine A.yes rfl ?_
 refine GS ?_
 refine TL ?_
 refine RS (ok_field field78_2 (by decide) rfl) ?_
 refine RS (ok_loadP (s := 1000001) (by decide) Tryd.underlying73 rfl size73 rfl rfl (by rw [hx.len]; decide) (hx.getR)) ?_
 refine RS (ok_field field78_3 (by decide) rfl) ?_
 refine RS (ok_loadP (s := 1000001) (by decide) Tryd.underlying76 rfl size76 rfl rfl (by rw [hx.len]; decide) (hx.getE)) ?_
 refine RS (ok_call (checkPartsR_fn x.R x.E hx.lr hx.le hx.fr hx.fe hz) (A3 rfl rfl rfl)) ?_
 refine RA rfl ?_
 refine RN ?_
 refine A.ret ?_
 refine End.ret_block ?_
 refine End.ret_then ?_
 exact End.ret1 rfl rfl (by first | exact Le.refl _ | exact Le.old _ _)
theorem nCheck_Ez (x : NodT) (hx : x.Fit) (h5 : ¬ 5 < x.l.toNat) (h : ¬ x.l.toNat = 0) (hz : ¬ ∀ i, i < 4 → (x.r i).Z) : Fn Tryd.prog 43 [.v (aggV x.v)] (.v (.int .i64 (1))) := by
 refine Fn.of Tryd.func43 rfl (by kernel_rfl) Tryd.ntmps43 (by simp) (fun w => [(0, .v (aggV x.v))]) (fun w => (Start.v rfl Start.nil)) fun w₀ => ?_
 refine GS ?_
 refine TN 0 ?_
 refine RN ?_
 refine ⟨_, _, eff_box (n := 20) (d := 1) (k := 1000001) rfl (by decide), fun b1 hb1 => ?_⟩
 have hBb1 := hb1.1
 refine TL ?_
 refine RA rfl ?_
 refine RN ?_
 refine A.seq ?_
 refine A.block ?_
 refine GS ?_
 refine TL ?_
 refine RS (ok_field field78_0 (by decide) rfl) ?_
 refine RS (ok_loadV (s := 1000001) (by decide) Tryd.underlying5 rfl rfl rfl (rfl)) ?_
 refine RBS rfl rfl rfl (.bool false) (by first | rfl | (simp; done) | (simp; omega) | (simp [*]; done) | (simp [*]; omega)) ?_
 refine RA rfl ?_
 refine RN ?_
 refine A.no rfl ?_
 refine GS ?_
 refine TL ?_
 refine RS (ok_loadA (s := 1000001) (by decide) Tryd.underlying78 rfl (size78.of (hx.len)) rfl rfl) ?_
 refine RS (ok_call (isGroup_n x hx h) (A1 rfl)) ?_
 refine RA rfl ?_
 refine RN ?_
 refine A.no rfl ?_
 refine A.skip ?_
 refine End.normal_block ?_
 refine EN ?_
 refine GS ?_
 refine TL ?_
 refine RS (ok_field field78_3 (by decide) rfl) ?_
 refine RS (ok_loadP (s := 1000001) (by decide) Tryd.underlying76 rfl size76 rfl rfl (by rw [hx.len]; decide) (hx.getE)) ?_
 refine RS (ok_field field78_2 (by decide) rfl) ?_
 refine RS (ok_loadP (s := 1000001) (by decide) Tryd.underlying73 rfl size73 rfl rfl (by rw [hx.len]; decide) (hx.getR)) ?_
 refine RS (ok_call (checkPartsE_z x.E x.R hx.le hx.lr hx.fe hx.fr hz) (A3 rfl rfl rfl)) ?_
 refine RA rfl ?_
 refine RN ?_
 refine A.ret ?_
 exact End.ret1 rfl rfl (by first | exact Le.refl _ | exact Le.old _ _)
theorem nCheck_E (x : NodT) (hx : x.Fit) (h5 : ¬ 5 < x.l.toNat) (h : ¬ x.l.toNat = 0) (hz : ∀ i, i < 4 → (x.r i).Z) : Fn Tryd.prog 43 [.v (aggV x.v)] (.v (.int .i64 (fst4 fun i => (x.e i).ck))) := by
 refine Fn.of Tryd.func43 rfl (by kernel_rfl) Tryd.ntmps43 (by simp) (fun w => [(0, .v (aggV x.v))]) (fun w => (Start.v rfl Start.nil)) fun w₀ => ?_
 refine GS ?_
 refine TN 0 ?_
 refine RN ?_
 refine ⟨_, _, eff_box (n := 20) (d := 1) (k := 1000001) rfl (by decide), fun b1 hb1 => ?_⟩
 have hBb1 := hb1.1
 refine TL ?_
 refine RA rfl ?_
 refine RN ?_
 refine A.seq ?_
 refine A.block ?_
 refine GS ?_
 refine TL ?_
 refine RS (ok_field field78_0 (by decide) rfl) ?_
 refine RS (ok_loadV (s := 1000001) (by decide) Tryd.underlying5 rfl rfl rfl (rfl)) ?_
 refine RBS rfl rfl rfl (.bool false) (by first | rfl | (simp; done) | (simp; omega) | (simp [*]; done) | (simp [*]; omega)) ?_
 refine RA rfl ?_
 refine RN ?_
 refine A.no rfl ?_
 refine GS ?_
 refine TL ?_
 refine RS (ok_loadA (s := 1000001) (by decide) Tryd.underlying78 rfl (size78.of (hx.len)) rfl rfl) ?_
 refine RS (ok_call (isGroup_n x hx h) (A1 rfl)) ?_
 refine RA rfl ?_
 refine RN ?_
 refine A.no rfl ?_
 refine A.skip ?_
 refine End.normal_block ?_
 refine EN ?_
 refine GS ?_
 refine TL ?_
 refine RS (ok_field field78_3 (by decide) rfl) ?_
 refine RS (ok_loadP (s := 1000001) (by decide) Tryd.underlying76 rfl size76 rfl rfl (by rw [hx.len]; decide) (hx.getE)) ?_
 refine RS (ok_field field78_2 (by decide) rfl) ?_
 refine RS (ok_loadP (s := 1000001) (by decide) Tryd.underlying73 rfl size73 rfl rfl (by rw [hx.len]; decide) (hx.getR)) ?_
 refine RS (ok_call (checkPartsE_fn x.E x.R hx.le hx.lr hx.fe hx.fr hz) (A3 rfl rfl rfl)) ?_
 refine RA rfl ?_
 refine RN ?_
 refine A.ret ?_
 exact End.ret1 rfl rfl (by first | exact Le.refl _ | exact Le.old _ _)
theorem nCheck_fn (x : NodT) (hx : x.Fit) : Fn Tryd.prog 43 [.v (aggV x.v)] (.v (.int .i64 (x.ck))) := by
 by_cases h5 : 5 < x.l.toNat
 ·rw [NodT.ck_hi h5]; exact nCheck_hi x hx h5
 by_cases h : x.l.toNat = 0
 ·by_cases hz : ∀ i, i < 4 → (x.e i).Z
  ·rw [NodT.ck_R h hz]; exact nCheck_R x hx h hz
  ·rw [NodT.ck_Rz h hz]; exact nCheck_Rz x hx h hz
 ·by_cases hz : ∀ i, i < 4 → (x.r i).Z
  ·rw [NodT.ck_E h5 h hz]; exact nCheck_E x hx h5 h hz
  ·rw [NodT.ck_Ez h5 h hz]; exact nCheck_Ez x hx h5 h hz
theorem put_fnB (V K : Nat) (hv : V < 18446744073709551616) (hk : K ≤ 8) : FnB Tryd.prog 64 [.v (.int .u64 (V : Int)), .v (.int .i64 (K : Int))] (fun B => fresh B 5 ((be K V).map byteV) K) := by
 refine FnB.of Tryd.func64 rfl (by kernel_rfl) Tryd.ntmps64 (by simp) (fun w => [(0, .v (.int .u64 (V : Int))), (1, .v (.int .i64 (K : Int)))]) (fun w => (Start.v rfl (Start.v rfl Start.nil))) fun w₀ => ?_
 refine GS ?_
 refine TL ?_
 refine RA rfl ?_
 refine RN ?_
 refine GS ?_
 refine TL ?_
 refine RM rfl ?_
 refine RS (ok_make K Tryd.underlying91 info5 (by decide) rfl rfl rfl rfl rfl (by omega)) ?_
 refine RA rfl ?_
 refine RN ?_
 refine A.open (t := 5) (k := 1000000) rfl fun b hb => ?_
 refine A.seq ?_
 refine GS ?_
 refine TL ?_
 refine RM rfl ?_
 refine RM rfl ?_
 refine RN ?_
 refine A.block ?_
 refine A.loop (ι := Nat) (fun i => i ≤ K) (fun i => [(0, .v (.int .u64 (V : Int))), (1, .v (.int .i64 (K : Int))), (5, .v (.slice (some ⟨b, 0, none⟩) K K)), (9, .v (.int .i64 (K : Int))), (10, .v (.int .i64 (i : Int))), (1000000, blk b 5 (((be K V).take i).map byteV ++ List.replicate ((be K V).length - i) (.int .u8 0)))]) (fun i => K - i) 0 ?_ ?_ ?_
 ·exact Nat.zero_le _
 ·exact (KC 0 rfl (KC 1 rfl (KE 5 rfl (by simp) (KC 9 rfl (KC 10 rfl (KE 1000000 rfl (by simp [be_length]) KN))))))
 intro i hi
 refine GS ?_
 refine TL ?_
 refine RB rfl rfl rfl ?_
 refine RN ?_
 refine A.seq ?_
 refine A.cond rfl (fun hc11 => ?_) (fun hc11 => ?_)
 ·have hlt : i < K := by simpa using hc11
  refine A.skip ?_
  refine EN ?_
  refine A.seq ?_
  refine A.block ?_
  refine GS ?_
  refine TL ?_
  refine RM rfl ?_
  refine RA rfl ?_
  refine RN ?_
  refine GE ?_
  refine TF 11 ?_
  refine RM rfl ?_
  refine RM rfl ?_
  refine RM rfl ?_
  refine RM rfl ?_
  refine RBS rfl rfl rfl (nI (K - 1)) (by rw [wrap_i64 (by omega) (by omega)]; congr 1; omega) ?_
  refine RM rfl ?_
  refine RBS rfl rfl rfl (nI (K - 1 - i)) (by rw [wrap_i64 (by omega) (by omega)]; congr 1; omega) ?_
  refine RBS rfl rfl rfl (nI (8 * (K - 1 - i))) (by rw [wrap_i64 (by omega) (by omega)]; congr 1) ?_
  refine RS (ok_shr rfl rfl (by omega)) ?_; refine RZ (nQ (V / 256 ^ (K - 1 - i))) (by rw [Int.toNat_natCast, show min (8 * (K - 1 - i)) IntKind.u64.bits = 8 * (K - 1 - i) from by simp only [IntKind.bits]; omega, shr_nat, pow256]) ?_
  refine RS (ok_conv Tryd.underlying28 Tryd.underlying5 rfl) ?_; refine RZ (byteV (UInt8.ofNat (V / 256 ^ (K - 1 - i)))) (by rw [wrap_u8_nat]; rfl) ?_
  refine RS (ok_indexV i Tryd.underlying91 info5 rfl rfl rfl hlt) ?_
  refine RN ?_
  refine ⟨_, eff_store (n := 26) (s := 1000000) info5 rfl rfl rfl hb rfl (by simp [be_length]; omega) (Left.cons (t := 0) rfl (Stays.v _ _) (Left.cons (t := 1) rfl (Stays.v _ _) (Left.cons (t := 5) rfl (Stays.v _ _) (Left.cons (t := 9) rfl (Stays.v _ _) (Left.cons (t := 10) rfl (Stays.v _ _) Left.nil))))), ?_⟩
  refine TL ?_
  refine RN ?_
  refine End.normal_block ?_
  refine EN ?_
  refine GE ?_
  refine TL ?_
  refine RBS rfl rfl rfl (nI (i + 1)) (by rw [wrap_i64 (by omega) (by omega)]; congr 1) ?_
  refine RM rfl ?_
  refine RN ?_
  refine End.normal_then ?_
  refine End.again (i + 1) ?_ ?_ ?_
  ·show _ ≤ _; omega
  ·show _ - _ < _ - _; omega
  ·exact (KC 0 rfl (KC 1 rfl (KC 5 rfl (KC 9 rfl (KC 10 rfl (KE 1000000 rfl (by rw [Nat.zero_add]; exact congrArg _ (fill_step (be_get hlt))) KN))))))
 ·refine A.exit ?_
  refine End.exit_then ?_
  refine End.exit_then ?_
  refine End.exit_here ?_
  refine EN ?_
  refine GS ?_
  refine TL ?_
  refine RM rfl ?_
  refine RA rfl ?_
  refine RN ?_
  refine A.ret ?_
  have hK : i = K := by simp at hc11; omega
  subst hK
  exact End.fresh rfl hb rfl (by rw [List.length_map, be_length]) (k := 1000000) rfl (by rw [be_length, Nat.sub_self, List.replicate_zero, List.append_nil, List.take_of_length_le (by rw [be_length]; omega)])
theorem Put32_fnB (v : Nat) (hv : v < 4294967296) : FnB Tryd.prog 45 [.v (.int .u32 (v : Int))] (fun B => fresh B 5 ((be 4 v).map byteV) 4) := by
 refine FnB.of Tryd.func45 rfl (by kernel_rfl) Tryd.ntmps45 (by simp) (fun w => [(0, .v (.int .u32 (v : Int)))]) (fun w => (Start.v rfl Start.nil)) fun w₀ => ?_
 refine GS ?_
 refine TL ?_
 refine RA rfl ?_
 refine RN ?_
 refine GS ?_
 refine TL ?_
 refine RM rfl ?_
 refine RS (ok_conv Tryd.underlying68 Tryd.underlying28 rfl) ?_; refine RZ (.int .u64 (v : Int)) (by rw [wrap_u64 (by omega) (by omega)]) ?_
 refine RS (ok_callB (put_fnB v 4 (by omega) (by decide)) (fun _ _ => fresh_mono _ _) (A2 rfl rfl)) ?_
 refine RA rfl ?_
 refine RN ?_
 refine A.ret ?_
 exact End.ret1 rfl rfl (by first | exact Le.refl _ | exact Le.old _ _)
set_option maxHeartbeats 1000000 in
theorem writeRaw_fnL (B : Nat) (pa pb bs q N : Nat) (p l : List UInt8) (h0 : 0 < l.length) (hN : p.length + l.length ≤ N) (hN' : N ≤ 4096) (hBa : B ≤ pa) (hBs : B ≤ bs) (hq : bs < q) : FnL Tryd.prog 44 B [(3, pa), (5, bs)] [.slice (some ⟨q, 0, none⟩) l.length l.length, ptr pa, ptr pb] [(1000001, blk pa 3 [nI p.length]), (1000002, blk pb 91 [.slice (some ⟨bs, 0, none⟩) N N]), (1000003, blk bs 5 (wrt N p)), (1000004, blk q 5 (l.map byteV))] (fun _ _ => True) (fun _ => .tuple #[]) (fun b => [(1000001, blk pa 3 [nI (p.length + l.length)]), (1000003, blk bs 5 ((wrt N p).take (0 + p.length) ++ (l.take (N - p.length)).map byteV ++ (wrt N p).drop (0 + p.length + min l.length (N - p.length))))]) := by
 refine FnL.of (n := 11) (kw := 1000099) (ks := 1000098) Tryd.func44 rfl (by kernel_rfl) Tryd.ntmps44 (by simp) (by decide) (vbL_cons (vL rfl) (vbL_cons (vL rfl) (vbL_cons (vL rfl) (vbL_cons (vL rfl) vbL_nil)))) (vL rfl) (vL rfl) [(0, .v (.slice (some ⟨q, 0, none⟩) l.length l.length)), (1, .v (ptr pa)), (2, .v (ptr pb))]
  (fun p hp => by simp only [List.mem_cons, List.not_mem_nil, or_false] at hp; rcases hp with rfl | rfl | rfl <;> exact ⟨_, rfl, rfl⟩) fun w₀ w₁ hw hw₁ => ?_
 have hBpa : w₀.heap.size ≤ pa := by omega
 have hBbs : w₀.heap.size ≤ bs := by omega
 refine A.regL0 5 [0] (by kernel_rfl) (by kernel_rfl) (by kernel_rfl) (by kernel_rfl) [(1000001, blk pa 3 [nI (p.length + l.length)]), (1000003, blk bs 5 ((wrt N p).take (0 + p.length) ++ (l.take (N - p.length)).map byteV ++ (wrt N p).drop (0 + p.length + min l.length (N - p.length)))), (1000099, wroteL [(3, pa), (5, bs)] w₁)] ?_ ?_
 ·refine RS (ok_loadV (s := 1000001) (by decide) Tryd.underlying3 rfl rfl rfl (rfl)) ?_
  refine RS (ok_loadV (s := 1000002) (by decide) Tryd.underlying91 rfl rfl rfl (rfl)) ?_
  refine RS (ok_loadV (s := 1000001) (by decide) Tryd.underlying3 rfl rfl rfl (rfl)) ?_
  refine RS (ok_sliceS (l := p.length) (h := N) (m := N) Tryd.underlying91 info5 rfl (.inl ⟨_, _, rfl, rfl⟩) (.inr ⟨rfl, rfl, rfl⟩) (.inr ⟨rfl, rfl⟩) (by omega) (Nat.le_refl _) (Nat.le_refl _) (.inl (by omega))) ?_
  refine RS (OpOk.fact (ok_move rfl) (d := bytes l l.length) (s := 1000004) (by decide) rfl (slice_bytes l rfl (Nat.le_refl _) (by simp only [maxLen]; omega) (by rw [List.drop_zero, List.take_of_length_le (by simp)]))) ?_
  refine RN ?_
  intro S hS
  simp only [subs, List.map_cons, List.map_nil, List.cons_append, List.nil_append, List.mem_cons, List.not_mem_nil, or_false] at hS
  rcases hS with rfl | rfl
  ·refine ⟨2, Nat.le_of_ble_eq_true (by kernel_rfl), _, (KC 0 rfl (KC 1 rfl (KC 2 rfl (KC 4 rfl (KC 5 rfl (KC 6 rfl (KC 7 rfl (KC 8 rfl (KC 1000001 rfl (KC 1000002 rfl (KC 1000003 rfl (KC 1000004 rfl (KC 1000099 rfl KN))))))))))))), by kernel_rfl, _, rfl, _, eff_copyS (n := 11) (s := 1000003) Tryd.underlying91 info5 rfl rfl (le_byt _ _) hBbs rfl (by rw [wrt_len (by omega)]; omega) (by decide) (LV 0 rfl (LV 1 rfl (LV 2 rfl (LV 4 rfl (LV 5 rfl (LV 6 rfl (LV 7 rfl (LT 1000001 rfl (LT 1000002 rfl (LB 1000004 rfl (LeftS.cons (t := 1000099) rfl (Surv.wroteL (by simp)) LN))))))))))), ?_⟩
   refine AnyT.step 6 [] (by kernel_rfl) ?_
   refine NextT.pure (by kernel_rfl) rfl rfl rfl (OpOk.asV (nI (p.length + l.length)) (by rw [show min l.length (N - p.length) = l.length from by omega]; exact wrap_eq (by omega) (by omega)) (ok_bin rfl rfl rfl)) ?_ ?_
   ·refine AnyT.step 7 [] (by kernel_rfl) ?_
    refine NextT.eff rfl (eff_storeS (n := 11) (s := 1000001) info3 rfl rfl rfl hBpa rfl (by simp) (LV 0 rfl (LV 1 rfl (LV 2 rfl (LV 4 rfl (LV 5 rfl (LV 6 rfl (LV 7 rfl (LV 9 rfl (LV 10 rfl (LT 1000002 rfl (LT 1000003 rfl (LT 1000004 rfl (LeftS.cons (t := 1000099) rfl (Surv.wroteL (by simp)) LN)))))))))))))) ?_ ?_
    ·refine AnyT.last (by kernel_rfl) ?_
     exact (SubL.cons (t := 1000001) rfl (Le.refl _) (SubL.cons (t := 1000003) rfl (Le.refl _) (SubL.cons (t := 1000099) rfl (Le.refl _) SubL.nil)))
    exact trivial
   exact trivial
  ·refine ⟨3, Nat.le_of_ble_eq_true (by kernel_rfl), _, (KC 0 rfl (KC 1 rfl (KC 2 rfl (KC 5 rfl (KC 6 rfl (KC 7 rfl (KC 8 rfl (KC 1000001 rfl (KC 1000002 rfl (KC 1000003 rfl (KC 1000004 rfl (KC 1000099 rfl KN)))))))))))), by kernel_rfl, _, rfl, _, eff_copyS (n := 11) (s := 1000003) Tryd.underlying91 info5 rfl rfl (le_byt _ _) hBbs rfl (by rw [wrt_len (by omega)]; omega) (by decide) (LV 0 rfl (LV 1 rfl (LV 2 rfl (LV 5 rfl (LV 6 rfl (LV 7 rfl (LT 1000001 rfl (LT 1000002 rfl (LB 1000004 rfl (LeftS.cons (t := 1000099) rfl (Surv.wroteL (by simp)) LN)))))))))), ?_⟩
   refine AnyT.step 0 [] (by kernel_rfl) ?_
   refine NextT.pure (by kernel_rfl) rfl rfl rfl (ok_loadV (s := 1000001) (by decide) Tryd.underlying3 rfl rfl rfl (rfl)) ?_ ?_
   ·refine AnyT.step 6 [] (by kernel_rfl) ?_
    refine NextT.pure (by kernel_rfl) rfl rfl rfl (OpOk.asV (nI (p.length + l.length)) (by rw [show min l.length (N - p.length) = l.length from by omega]; exact wrap_eq (by omega) (by omega)) (ok_bin rfl rfl rfl)) ?_ ?_
    ·refine AnyT.step 7 [] (by kernel_rfl) ?_
     refine NextT.eff rfl (eff_storeS (n := 11) (s := 1000001) info3 rfl rfl rfl hBpa rfl (by simp) (LV 0 rfl (LV 1 rfl (LV 2 rfl (LV 4 rfl (LV 5 rfl (LV 6 rfl (LV 7 rfl (LV 9 rfl (LV 10 rfl (LT 1000002 rfl (LT 1000003 rfl (LT 1000004 rfl (LeftS.cons (t := 1000099) rfl (Surv.wroteL (by simp)) LN)))))))))))))) ?_ ?_
     ·refine AnyT.last (by kernel_rfl) ?_
      exact (SubL.cons (t := 1000001) rfl (Le.refl _) (SubL.cons (t := 1000003) rfl (Le.refl _) (SubL.cons (t := 1000099) rfl (Le.refl _) SubL.nil)))
     exact trivial
    exact trivial
   exact trivial
 ·exact End.wroteL0 (.inr rfl) rfl (kw := 1000099) rfl 0 trivial (by decide) (lookL_cons (k := 1000001) (vL rfl) rfl (lookL_cons (k := 1000003) (vL rfl) rfl lookL_nil))
theorem write_fnL (k₁ k₂ k₃ k₄ B : Nat) (pa pb bs q N : Nat) (p l : List UInt8) (h0 : 0 < l.length) (hN : p.length + l.length ≤ N) (hN' : N ≤ 4096) (hBa : B ≤ pa) (hBs : B ≤ bs) (hq : bs < q) :
  FnL Tryd.prog 44 B [(3, pa), (5, bs)] [.slice (some ⟨q, 0, none⟩) l.length l.length, ptr pa, ptr pb] [(k₁, blk pa 3 [nI p.length]), (k₂, blk pb 91 [.slice (some ⟨bs, 0, none⟩) N N]), (k₃, blk bs 5 (wrt N p)), (k₄, blk q 5 (l.map byteV))] (fun _ _ => True) (fun _ => .tuple #[]) (fun _ => [(k₁, blk pa 3 [nI (p ++ l).length]), (k₃, blk bs 5 (wrt N (p ++ l)))]) := by
 have h := writeRaw_fnL B pa pb bs q N p l h0 hN hN' hBa hBs hq
 rw [wrt_step hN, ← List.length_append] at h
 exact h.rekey rfl fun _ => rfl
set_option maxHeartbeats 1000000 in
theorem putRRaw_fnL (B : Nat) (pa pb bs N : Nat) (p : List UInt8) (L : List RecT) (hL : L.length = 4) (hf : ∀ r ∈ L, r.Fit) (hb : ∀ i, i < 4 → ¬ (L.getD i RecT.zero).Bad) (hN : p.length + 180 ≤ N) (hN' : N ≤ 4096) (hBa : B ≤ pa) (hBs : B ≤ bs) : FnL Tryd.prog 47 B [(3, pa), (5, bs)] [aggV (recsV L), .func (.func 48) #[] #[], .func (.func 44) #[] #[ptr pa, ptr pb]] [(1000101, blk pa 3 [nI p.length]), (1000102, blk pb 91 [.slice (some ⟨bs, 0, none⟩) N N]), (1000103, blk bs 5 (wrt N p))] (fun _ _ => True) (fun _ => .tuple #[]) (fun b => [(1000101, blk pa 3 [nI (p ++ (L.take 4).flatMap RecT.l).length]), (1000103, blk bs 5 (wrt N (p ++ (L.take 4).flatMap RecT.l)))]) := by
 refine FnL.of (n := 24) (kw := 1000099) (ks := 1000098) Tryd.func47 rfl (by kernel_rfl) Tryd.ntmps47 (by simp) (by decide) (vbL_cons (vL rfl) (vbL_cons (vL rfl) (vbL_cons (vL rfl) vbL_nil))) (vL rfl) (vL rfl) [(0, .v (aggV (recsV L))), (1, .v (.func (.func 48) #[] #[])), (2, .v (.func (.func 44) #[] #[ptr pa, ptr pb]))]
  (fun p hp => by simp only [List.mem_cons, List.not_mem_nil, or_false] at hp; rcases hp with rfl | rfl | rfl <;> exact ⟨_, rfl, rfl⟩) fun w₀ w₁ hw hw₁ => ?_
 have hBpa : w₀.heap.size ≤ pa := by omega
 have hBbs : w₀.heap.size ≤ bs := by omega
 refine GS ?_
 refine TN 0 ?_
 refine RN ?_
 refine ⟨_, _, eff_boxL (n := 24) (d := 3) (k := 1000003) rfl (by decide), fun b3 hb3 => ?_⟩
 have hBb3 := hb3.1
 have hw_b3 := hb3.2.2 1000099 _ _ rfl
 refine TL ?_
 refine RN ?_
 refine GS ?_
 refine TL ?_
 refine RS (ok_loadA (s := 1000003) (by decide) Tryd.underlying73 rfl (size73.of (by rw [flat_length (RecT.lens hf), hL])) rfl rfl) ?_
 refine RM rfl ?_
 refine RN ?_
 refine A.block ?_
 refine A.loop (ι := Nat) (fun i => i ≤ 4) (fun i => [(1, .v (.func (.func 48) #[] #[])), (2, .v (.func (.func 44) #[] #[ptr pa, ptr pb])), (10, .v (aggV (recsV L))), (11, .v (nI (i))), (1000101, blk pa 3 [nI (p ++ (L.take i).flatMap RecT.l).length]), (1000102, blk pb 91 [.slice (some ⟨bs, 0, none⟩) N N]), (1000103, blk bs 5 (wrt N (p ++ (L.take i).flatMap RecT.l))), (1000099, wroteL [(3, pa), (5, bs)] w₁)]) (fun i => 4 - i) 0 ?_ ?_ ?_
 ·exact Nat.zero_le _
 ·exact (KC 1 rfl (KC 2 rfl (KC 10 rfl (KE 11 rfl (by rfl) (KE 1000101 rfl (by rw [List.take_zero, List.flatMap_nil, List.append_nil]) (KC 1000102 rfl (KE 1000103 rfl (by rw [List.take_zero, List.flatMap_nil, List.append_nil]) (KC 1000099 rfl KN))))))))
 intro i hG
 refine GS ?_
 refine TL ?_
 refine RB rfl rfl rfl ?_
 refine RN ?_
 refine A.seq ?_
 refine A.cond rfl (fun hc12 => ?_) (fun hc12 => ?_)
 ·have hi : i < 4 := by simp at hc12; omega
  refine A.skip ?_
  refine EN ?_
  refine A.seq ?_
  refine A.block ?_
  refine GS ?_
  refine TN 1 ?_
  refine RS (ok_indexAgg i Tryd.underlying73 Tryd.underlying72 rfl size72 rfl rfl rfl hi (flat_getD (RecT.lens hf) (by omega) RecT.zero)) ?_
  refine RN ?_
  refine ⟨_, _, eff_allocL (n := 24) (d := 7) (k := 1000007) zero72 (by decide), fun b7 hb7 => ?_⟩
  have hBb7 := hb7.1
  have hw_b7 := hb7.2.2 1000099 _ _ rfl
  refine TF 2 ?_
  refine RN ?_
  refine ⟨_, eff_storeA (n := 24) (s := 1000007) (size72.of ((hf (L.getD i RecT.zero) (getD_mem4 hL hi _)).len)) rfl rfl (by first | exact NodT.one _ | exact RecT.one _ | exact EntT.one _ | exact RecT.all1 _ | exact EntT.all1 _ | exact all_byte _ | exact all_bytes _) hBb7 rfl (by first | rfl | (rw [(hf (L.getD i RecT.zero) (getD_mem4 hL hi _)).len]; rfl)) (LV 1 rfl (LV 2 rfl (LV 7 rfl (LV 10 rfl (LV 11 rfl (LeftS.cons (t := 1000099) rfl (Surv.wroteLN hw_b7) (LT 1000101 rfl (LT 1000102 rfl (LT 1000103 rfl LN))))))))), ?_⟩
  refine TL ?_
  refine RN ?_
  refine GS ?_
  refine TN 2 ?_
  refine RM rfl ?_
  refine RS (ok_loadA (s := 1000007) (by decide) Tryd.underlying72 rfl (size72.of ((hf (L.getD i RecT.zero) (getD_mem4 hL hi _)).len)) rfl rfl) ?_
  refine RN ?_
  refine ⟨_, _, eff_nameL (n := 24) (d := 17) (k := 1000017) rfl rfl (fun B' => ok_callVB (PutRecord_okB (L.getD i RecT.zero).x (L.getD i RecT.zero).s (L.getD i RecT.zero).c (L.getD i RecT.zero).t (hf (L.getD i RecT.zero) (getD_mem4 hL hi _)).t (hf (L.getD i RecT.zero) (getD_mem4 hL hi _)).s (hf (L.getD i RecT.zero) (getD_mem4 hL hi _)).c (hb i hi)) newD_mono rfl (A1 rfl)) (by decide) (by decide), fun b17 hb17 => ?_⟩
  have hBb17 := hb17.1
  have hlt_b7_b17 : b7 < b17 := hb17.2.1 1000007 _ _ _ rfl
  have hw_b17 := hb17.2.2 1000099 _ _ rfl
  have hlt_pa_b17 : pa < b17 := hb17.2.1 1000101 _ _ _ rfl
  have hlt_pb_b17 : pb < b17 := hb17.2.1 1000102 _ _ _ rfl
  have hlt_bs_b17 : bs < b17 := hb17.2.1 1000103 _ _ _ rfl
  refine TL ?_
  refine RM rfl ?_
  refine RS (ok_extractV rfl rfl) ?_; refine RZ (.slice (some ⟨b17, 0, none⟩) (L.getD i RecT.zero).l.length (L.getD i RecT.zero).l.length) (by rw [(hf (L.getD i RecT.zero) (getD_mem4 hL hi _)).lenL]) ?_
  refine RS (ok_extractV rfl rfl) ?_
  refine RA rfl ?_
  refine RA rfl ?_
  refine RN ?_
  refine GE ?_
  refine TF 2 ?_
  refine RM rfl ?_
  refine RM rfl ?_
  refine RN ?_
  refine ⟨_, eff_callL1 (n := 24) (vs := [.slice (some ⟨b17, 0, none⟩) (L.getD i RecT.zero).l.length (L.getD i RecT.zero).l.length]) (us := [ptr pa, ptr pb]) (write_fnL 1000101 1000102 1000103 1000017 w₀.heap.size pa pb bs b17 N (p ++ (L.take i).flatMap RecT.l) (L.getD i RecT.zero).l (by rw [(hf (L.getD i RecT.zero) (getD_mem4 hL hi _)).lenL]; decide) (by have h1 := (hf (L.getD i RecT.zero) (getD_mem4 hL hi _)).lenL; have h2 := flat_length (RecT.lensL (take_all hf i)); rw [List.length_take, hL] at h2; rw [List.length_append]; omega) hN' hBpa hBbs hlt_bs_b17) rfl (A1 rfl) (subL_M (KC 1000101 rfl (KC 1000102 rfl (KC 1000103 rfl (KC 1000017 rfl KN)))) (vbL_cons (vL rfl) (vbL_cons (vL rfl) (vbL_cons (vL rfl) (vbL_cons (vL rfl) vbL_nil))))) (vbL_cons (vL rfl) (vbL_cons (vL rfl) vbL_nil)) (gsL_cons (k := 1000101) hBpa rfl (gsL_cons (k := 1000103) hBbs rfl gsL_nil)) (by decide) (by decide) (LeftL.cons (LV 1 rfl (LV 2 rfl (LV 10 rfl (LV 11 rfl (LT 1000007 rfl (LT 1000017 rfl (LeftS.cons (t := 1000099) rfl (Surv.wroteL (by simp)) (LT 1000102 rfl LN)))))))) (LeftL.one (LV 1 rfl (LV 2 rfl (LV 10 rfl (LV 11 rfl (LT 1000007 rfl (LB 1000017 rfl (LeftS.cons (t := 1000099) rfl (Surv.wroteL (by simp)) (LT 1000102 rfl LN)))))))))), ?_⟩
  refine TL ?_
  refine RN ?_
  refine End.normal_block ?_
  refine EN ?_
  refine GE ?_
  refine TL ?_
  refine RBS rfl rfl rfl (nI (i + 1)) (wrap_eq (by omega) (by omega)) ?_
  refine RM rfl ?_
  refine RN ?_
  refine End.normal_then ?_
  refine End.again (i + 1) ?_ ?_ ?_
  ·show _ ≤ _; omega
  ·show _ - _ < _ - _; omega
  ·exact (KC 1 rfl (KC 2 rfl (KC 10 rfl (KC 11 rfl (KE 1000101 rfl (by rw [take_flat hL hi, List.append_assoc]) (KC 1000102 rfl (KE 1000103 rfl (by rw [take_flat hL hi, List.append_assoc]) (KC 1000099 rfl KN))))))))
 ·have hi2 : i = 4 := by simp at hc12; omega
  refine A.exit ?_
  refine End.exit_then ?_
  refine End.exit_then ?_
  refine End.exit_here ?_
  subst hi2
  exact End.wroteL0 (.inr rfl) rfl (kw := 1000099) rfl 0 trivial (by decide) (lookL_cons (k := 1000101) (vL rfl) rfl (lookL_cons (k := 1000103) (vL rfl) rfl lookL_nil))
theorem putR_fnL (k₁ k₂ k₃ B : Nat) (pa pb bs N : Nat) (p : List UInt8) (L : List RecT) (hL : L.length = 4) (hf : ∀ r ∈ L, r.Fit) (hb : ∀ i, i < 4 → ¬ (L.getD i RecT.zero).Bad) (hN : p.length + 180 ≤ N) (hN' : N ≤ 4096) (hBa : B ≤ pa) (hBs : B ≤ bs) :
  FnL Tryd.prog 47 B [(3, pa), (5, bs)] [aggV (recsV L), .func (.func 48) #[] #[], .func (.func 44) #[] #[ptr pa, ptr pb]] [(k₁, blk pa 3 [nI p.length]), (k₂, blk pb 91 [.slice (some ⟨bs, 0, none⟩) N N]), (k₃, blk bs 5 (wrt N p))] (fun _ _ => True) (fun _ => .tuple #[]) (fun _ => [(k₁, blk pa 3 [nI (p ++ L.flatMap RecT.l).length]), (k₃, blk bs 5 (wrt N (p ++ L.flatMap RecT.l)))]) := by
 have h := putRRaw_fnL B pa pb bs N p L hL hf hb hN hN' hBa hBs
 rw [List.take_of_length_le (Nat.le_of_eq hL)] at h
 exact h.rekey rfl fun _ => rfl
set_option maxHeartbeats 1000000 in
theorem putERaw_fnL (B : Nat) (pa pb bs N : Nat) (p : List UInt8) (L : List EntT) (hL : L.length = 4) (hf : ∀ r ∈ L, r.Fit) (hb : ∀ i, i < 4 → ¬ (L.getD i EntT.zero).Bad) (hN : p.length + 132 ≤ N) (hN' : N ≤ 4096) (hBa : B ≤ pa) (hBs : B ≤ bs) : FnL Tryd.prog 49 B [(3, pa), (5, bs)] [aggV (entsV L), .func (.func 50) #[] #[], .func (.func 44) #[] #[ptr pa, ptr pb]] [(1000101, blk pa 3 [nI p.length]), (1000102, blk pb 91 [.slice (some ⟨bs, 0, none⟩) N N]), (1000103, blk bs 5 (wrt N p))] (fun _ _ => True) (fun _ => .tuple #[]) (fun b => [(1000101, blk pa 3 [nI (p ++ (L.take 4).flatMap EntT.l).length]), (1000103, blk bs 5 (wrt N (p ++ (L.take 4).flatMap EntT.l)))]) := by
 refine FnL.of (n := 24) (kw := 1000099) (ks := 1000098) Tryd.func49 rfl (by kernel_rfl) Tryd.ntmps49 (by simp) (by decide) (vbL_cons (vL rfl) (vbL_cons (vL rfl) (vbL_cons (vL rfl) vbL_nil))) (vL rfl) (vL rfl) [(0, .v (aggV (entsV L))), (1, .v (.func (.func 50) #[] #[])), (2, .v (.func (.func 44) #[] #[ptr pa, ptr pb]))]
  (fun p hp => by simp only [List.mem_cons, List.not_mem_nil, or_false] at hp; rcases hp with rfl | rfl | rfl <;> exact ⟨_, rfl, rfl⟩) fun w₀ w₁ hw hw₁ => ?_
 have hBpa : w₀.heap.size ≤ pa := by omega
 have hBbs : w₀.heap.size ≤ bs := by omega
 refine GS ?_
 refine TN 0 ?_
 refine RN ?_
 refine ⟨_, _, eff_boxL (n := 24) (d := 3) (k := 1000003) rfl (by decide), fun b3 hb3 => ?_⟩
 have hBb3 := hb3.1
 have hw_b3 := hb3.2.2 1000099 _ _ rfl
 refine TL ?_
 refine RN ?_
 refine GS ?_
 refine TL ?_
 refine RS (ok_loadA (s := 1000003) (by decide) Tryd.underlying76 rfl (size76.of (by rw [flat_length (EntT.lens hf), hL])) rfl rfl) ?_
 refine RM rfl ?_
 refine RN ?_
 refine A.block ?_
 refine A.loop (ι := Nat) (fun i => i ≤ 4) (fun i => [(1, .v (.func (.func 50) #[] #[])), (2, .v (.func (.func 44) #[] #[ptr pa, ptr pb])), (10, .v (aggV (entsV L))), (11, .v (nI (i))), (1000101, blk pa 3 [nI (p ++ (L.take i).flatMap EntT.l).length]), (1000102, blk pb 91 [.slice (some ⟨bs, 0, none⟩) N N]), (1000103, blk bs 5 (wrt N (p ++ (L.take i).flatMap EntT.l))), (1000099, wroteL [(3, pa), (5, bs)] w₁)]) (fun i => 4 - i) 0 ?_ ?_ ?_
 ·exact Nat.zero_le _
 ·exact (KC 1 rfl (KC 2 rfl (KC 10 rfl (KE 11 rfl (by rfl) (KE 1000101 rfl (by rw [List.take_zero, List.flatMap_nil, List.append_nil]) (KC 1000102 rfl (KE 1000103 rfl (by rw [List.take_zero, List.flatMap_nil, List.append_nil]) (KC 1000099 rfl KN))))))))
 intro i hG
 refine GS ?_
 refine TL ?_
 refine RB rfl rfl rfl ?_
 refine RN ?_
 refine A.seq ?_
 refine A.cond rfl (fun hc12 => ?_) (fun hc12 => ?_)
 ·have hi : i < 4 := by simp at hc12; omega
  refine A.skip ?_
  refine EN ?_
  refine A.seq ?_
  refine A.block ?_
  refine GS ?_
  refine TN 1 ?_
  refine RS (ok_indexAgg i Tryd.underlying76 Tryd.underlying75 rfl size75 rfl rfl rfl hi (flat_getD (EntT.lens hf) (by omega) EntT.zero)) ?_
  refine RN ?_
  refine ⟨_, _, eff_allocL (n := 24) (d := 7) (k := 1000007) zero75 (by decide), fun b7 hb7 => ?_⟩
  have hBb7 := hb7.1
  have hw_b7 := hb7.2.2 1000099 _ _ rfl
  refine TF 2 ?_
  refine RN ?_
  refine ⟨_, eff_storeA (n := 24) (s := 1000007) (size75.of ((hf (L.getD i EntT.zero) (getD_mem4 hL hi _)).len)) rfl rfl (by first | exact NodT.one _ | exact RecT.one _ | exact EntT.one _ | exact RecT.all1 _ | exact EntT.all1 _ | exact all_byte _ | exact all_bytes _) hBb7 rfl (by first | rfl | (rw [(hf (L.getD i EntT.zero) (getD_mem4 hL hi _)).len]; rfl)) (LV 1 rfl (LV 2 rfl (LV 7 rfl (LV 10 rfl (LV 11 rfl (LeftS.cons (t := 1000099) rfl (Surv.wroteLN hw_b7) (LT 1000101 rfl (LT 1000102 rfl (LT 1000103 rfl LN))))))))), ?_⟩
  refine TL ?_
  refine RN ?_
  refine GS ?_
  refine TN 2 ?_
  refine RM rfl ?_
  refine RS (ok_loadA (s := 1000007) (by decide) Tryd.underlying75 rfl (size75.of ((hf (L.getD i EntT.zero) (getD_mem4 hL hi _)).len)) rfl rfl) ?_
  refine RN ?_
  refine ⟨_, _, eff_nameL (n := 24) (d := 17) (k := 1000017) rfl rfl (fun B' => ok_callVB (PutEntry_okB (L.getD i EntT.zero).x (L.getD i EntT.zero).t (hf (L.getD i EntT.zero) (getD_mem4 hL hi _)).t (hb i hi)) newD_mono rfl (A1 rfl)) (by decide) (by decide), fun b17 hb17 => ?_⟩
  have hBb17 := hb17.1
  have hlt_b7_b17 : b7 < b17 := hb17.2.1 1000007 _ _ _ rfl
  have hw_b17 := hb17.2.2 1000099 _ _ rfl
  have hlt_pa_b17 : pa < b17 := hb17.2.1 1000101 _ _ _ rfl
  have hlt_pb_b17 : pb < b17 := hb17.2.1 1000102 _ _ _ rfl
  have hlt_bs_b17 : bs < b17 := hb17.2.1 1000103 _ _ _ rfl
  refine TL ?_
  refine RM rfl ?_
  refine RS (ok_extractV rfl rfl) ?_; refine RZ (.slice (some ⟨b17, 0, none⟩) (L.getD i EntT.zero).l.length (L.getD i EntT.zero).l.length) (by rw [(hf (L.getD i EntT.zero) (getD_mem4 hL hi _)).lenL]) ?_
  refine RS (ok_extractV rfl rfl) ?_
  refine RA rfl ?_
  refine RA rfl ?_
  refine RN ?_
  refine GE ?_
  refine TF 2 ?_
  refine RM rfl ?_
  refine RM rfl ?_
  refine RN ?_
  refine ⟨_, eff_callL1 (n := 24) (vs := [.slice (some ⟨b17, 0, none⟩) (L.getD i EntT.zero).l.length (L.getD i EntT.zero).l.length]) (us := [ptr pa, ptr pb]) (write_fnL 1000101 1000102 1000103 1000017 w₀.heap.size pa pb bs b17 N (p ++ (L.take i).flatMap EntT.l) (L.getD i EntT.zero).l (by rw [(hf (L.getD i EntT.zero) (getD_mem4 hL hi _)).lenL]; decide) (by have h1 := (hf (L.getD i EntT.zero) (getD_mem4 hL hi _)).lenL; have h2 := flat_length (EntT.lensL (take_all hf i)); rw [List.length_take, hL] at h2; rw [List.length_append]; omega) hN' hBpa hBbs hlt_bs_b17) rfl (A1 rfl) (subL_M (KC 1000101 rfl (KC 1000102 rfl (KC 1000103 rfl (KC 1000017 rfl KN)))) (vbL_cons (vL rfl) (vbL_cons (vL rfl) (vbL_cons (vL rfl) (vbL_cons (vL rfl) vbL_nil))))) (vbL_cons (vL rfl) (vbL_cons (vL rfl) vbL_nil)) (gsL_cons (k := 1000101) hBpa rfl (gsL_cons (k := 1000103) hBbs rfl gsL_nil)) (by decide) (by decide) (LeftL.cons (LV 1 rfl (LV 2 rfl (LV 10 rfl (LV 11 rfl (LT 1000007 rfl (LT 1000017 rfl (LeftS.cons (t := 1000099) rfl (Surv.wroteL (by simp)) (LT 1000102 rfl LN)))))))) (LeftL.one (LV 1 rfl (LV 2 rfl (LV 10 rfl (LV 11 rfl (LT 1000007 rfl (LB 1000017 rfl (LeftS.cons (t := 1000099) rfl (Surv.wroteL (by simp)) (LT 1000102 rfl LN)))))))))), ?_⟩
  refine TL ?_
  refine RN ?_
  refine End.normal_block ?_
  refine EN ?_
  refine GE ?_
  refine TL ?_
  refine RBS rfl rfl rfl (nI (i + 1)) (wrap_eq (by omega) (by omega)) ?_
  refine RM rfl ?_
  refine RN ?_
  refine End.normal_then ?_
  refine End.again (i + 1) ?_ ?_ ?_
  ·show _ ≤ _; omega
  ·show _ - _ < _ - _; omega
  ·exact (KC 1 rfl (KC 2 rfl (KC 10 rfl (KC 11 rfl (KE 1000101 rfl (by rw [take_flat hL hi, List.append_assoc]) (KC 1000102 rfl (KE 1000103 rfl (by rw [take_flat hL hi, List.append_assoc]) (KC 1000099 rfl KN))))))))
 ·have hi2 : i = 4 := by simp at hc12; omega
  refine A.exit ?_
  refine End.exit_then ?_
  refine End.exit_then ?_
  refine End.exit_here ?_
  subst hi2
  exact End.wroteL0 (.inr rfl) rfl (kw := 1000099) rfl 0 trivial (by decide) (lookL_cons (k := 1000101) (vL rfl) rfl (lookL_cons (k := 1000103) (vL rfl) rfl lookL_nil))
theorem putE_fnL (k₁ k₂ k₃ B : Nat) (pa pb bs N : Nat) (p : List UInt8) (L : List EntT) (hL : L.length = 4) (hf : ∀ r ∈ L, r.Fit) (hb : ∀ i, i < 4 → ¬ (L.getD i EntT.zero).Bad) (hN : p.length + 132 ≤ N) (hN' : N ≤ 4096) (hBa : B ≤ pa) (hBs : B ≤ bs) :
  FnL Tryd.prog 49 B [(3, pa), (5, bs)] [aggV (entsV L), .func (.func 50) #[] #[], .func (.func 44) #[] #[ptr pa, ptr pb]] [(k₁, blk pa 3 [nI p.length]), (k₂, blk pb 91 [.slice (some ⟨bs, 0, none⟩) N N]), (k₃, blk bs 5 (wrt N p))] (fun _ _ => True) (fun _ => .tuple #[]) (fun _ => [(k₁, blk pa 3 [nI (p ++ L.flatMap EntT.l).length]), (k₃, blk bs 5 (wrt N (p ++ L.flatMap EntT.l)))]) := by
 have h := putERaw_fnL B pa pb bs N p L hL hf hb hN hN' hBa hBs
 rw [List.take_of_length_le (Nat.le_of_eq hL)] at h
 exact h.rekey rfl fun _ => rfl
set_option maxHeartbeats 2000000 in
theorem nPut_RB (x : NodT) (hx : x.Fit) (hk : x.ck = 0) (h0 : x.l.toNat = 0) : FnMB Tryd.prog 37 tabS [.v (aggV x.v)] (fun B => newD B 5 (fun b => .tuple #[.slice (some ⟨b, 0, none⟩) (NodT.sz x.l.toNat) (NodT.sz x.l.toNat), .int .i64 0]) (x.bl.map byteV)) := by
 have hk5 := NodT.ck_ok hk
 have hl5 := hk5.1
 refine FnMB.of Tryd.func37 rfl (by kernel_rfl) Tryd.ntmps37 (by simp) (by decide) (fun w => [(0, .v (aggV x.v)), (1900000, tab 0 (sizV))]) (fun w => (StartM.v rfl (StartM.m (by simp [tabS]) (by decide) StartM.nil))) fun w₀ hM => ?_
 have htab := tabS_hi hM
 refine GS ?_
 refine TN 0 ?_
 refine RN ?_
 refine ⟨_, _, eff_box (n := 40) (d := 1) (k := 1000001) rfl (by decide), fun b1 hb1 => ?_⟩
 have hBb1 := hb1.1
 refine TL ?_
 refine RA rfl ?_
 refine RA rfl ?_
 refine RN ?_
 refine A.seq ?_
 refine GS ?_
 refine TL ?_
 refine RS (ok_loadA (s := 1000001) (by decide) Tryd.underlying78 rfl (size78.of (hx.len)) rfl rfl) ?_
 refine RS (ok_call (nCheck_fn x hx) (A1 rfl)) ?_; refine RZ (.int .i64 0) (by rw [hk]) ?_
 refine RA rfl ?_
 refine RN ?_
 refine GS ?_
 refine TL ?_
 refine RM rfl ?_
 refine RBS rfl rfl rfl (.bool false) (by first | rfl | (simp; done) | (simp; omega) | (simp [*]; done) | (simp [*]; omega)) ?_
 refine RN ?_
 refine A.no rfl ?_
 refine A.skip ?_
 refine EN ?_
 refine GS ?_
 refine TN 4 ?_
 refine RS (ok_field field78_0 (by decide) rfl) ?_
 refine RS (ok_loadV (s := 1000001) (by decide) Tryd.underlying5 rfl rfl rfl (rfl)) ?_
 refine RS (ok_index0 x.l.toNat Tryd.underlying100 info3 rfl rfl rfl (by omega)) ?_
 refine RS (ok_loadVT (s := 1900000) (by decide) Tryd.underlying3 rfl rfl rfl (siz_get (by omega))) ?_
 refine RN ?_
 refine ⟨_, _, eff_nameF (c := (NodT.sz x.l.toNat)) (by simp) (n := 40) (d := 17) (k := 1000017) rfl rfl (fun B' => ok_make (NodT.sz x.l.toNat) Tryd.underlying91 info5 (by decide) rfl rfl rfl rfl rfl (by have := sz_le x.l.toNat; omega)) (by decide) (by decide), fun b17 hb17 => ?_⟩
 have hBb17 := hb17.1
 have hlt_b1_b17 : b1 < b17 := hb17.2 1000001 _ _ _ rfl
 refine TN 5 ?_
 refine RN ?_
 refine ⟨_, _, eff_alloc (n := 40) (d := 5) (k := 1000005) zero91 (by decide), fun b5 hb5 => ?_⟩
 have hBb5 := hb5.1
 refine TN 6 ?_
 refine RN ?_
 refine ⟨_, _, eff_alloc (n := 40) (d := 6) (k := 1000006) zero3 (by decide), fun b6 hb6 => ?_⟩
 have hBb6 := hb6.1
 refine TF 7 ?_
 refine RN ?_
 refine ⟨_, eff_storeS (n := 40) (s := 1000005) info91 rfl rfl rfl hBb5 rfl (by simp) (LV 1 rfl (LV 5 rfl (LV 6 rfl (LT 1000001 rfl (LT 1000006 rfl (LT 1000017 rfl (LeftS.cons (t := 1900000) rfl (Surv.tab (by omega)) LN))))))), ?_⟩
 refine TF 8 ?_
 refine RN ?_
 refine ⟨_, eff_storeS (n := 40) (s := 1000006) info3 rfl rfl rfl hBb6 rfl (by simp) (LV 1 rfl (LV 5 rfl (LV 6 rfl (LT 1000001 rfl (LT 1000005 rfl (LT 1000017 rfl (LeftS.cons (t := 1900000) rfl (Surv.tab (by omega)) LN))))))), ?_⟩
 refine TL ?_
 refine RN ?_
 refine A.sub (KC 1 rfl (KC 5 rfl (KC 6 rfl (KC 1000001 rfl (KC 1000005 rfl (KE 1000006 rfl (show _ = blk b6 3 [nI ([] : List UInt8).length] from rfl) (KE 1000017 rfl (show _ = blk b17 5 (wrt (NodT.sz x.l.toNat) []) from congrArg _ (wrt_zero _).symm) (KC 1900000 rfl KN)))))))) ?_
 refine GS ?_
 refine TL ?_
 refine RS (ok_makeFuncN [ptr b6, ptr b5] ⟨rfl, rfl, trivial⟩) ?_
 refine RA rfl ?_
 refine RN ?_
 refine GS ?_
 refine TN 3 ?_
 refine RM rfl ?_
 refine RS (ok_field field78_0 (by decide) rfl) ?_
 refine RS (ok_loadV (s := 1000001) (by decide) Tryd.underlying5 rfl rfl rfl (rfl)) ?_
 refine RN ?_
 refine ⟨_, _, eff_name (n := 40) (d := 22) (k := 1000022) rfl rfl (fun B' => ok_build1B Tryd.underlying91 info5 rfl rfl) (by decide) (by decide), fun b22 hb22 => ?_⟩
 have hBb22 := hb22.1
 have hlt_b1_b22 : b1 < b22 := hb22.2 1000001 _ _ _ rfl
 have hlt_b5_b22 : b5 < b22 := hb22.2 1000005 _ _ _ rfl
 have hlt_b6_b22 : b6 < b22 := hb22.2 1000006 _ _ _ rfl
 have hlt_b17_b22 : b17 < b22 := hb22.2 1000017 _ _ _ rfl
 refine TF 4 ?_
 refine RN ?_
 refine ⟨_, eff_callL1 (n := 40) (vs := [.slice (some ⟨b22, 0, none⟩) ([x.l] : List UInt8).length ([x.l] : List UInt8).length]) (us := [ptr b6, ptr b5]) (write_fnL 1000006 1000005 1000017 1000022 w₀.heap.size b6 b5 b17 b22 (NodT.sz x.l.toNat) (([] : List UInt8)) ([x.l]) (by rw [show [x.l].length = 1 from rfl]; decide) (by have := sz_le x.l.toNat; simp [be_length]; omega) (by have := sz_le x.l.toNat; omega) hBb6 hBb17 hlt_b17_b22) rfl (A1 rfl) (subL_M (KC 1000006 rfl (KC 1000005 rfl (KC 1000017 rfl (KC 1000022 rfl KN)))) (vbL_cons (vL rfl) (vbL_cons (vL rfl) (vbL_cons (vL rfl) (vbL_cons (vL rfl) vbL_nil))))) (vbL_cons (vL rfl) (vbL_cons (vL rfl) vbL_nil)) (gsL_cons (k := 1000006) hBb6 rfl (gsL_cons (k := 1000017) hBb17 rfl gsL_nil)) (by decide) (by decide) (LeftL.cons (LV 1 rfl (LV 5 rfl (LV 7 rfl (LT 1000001 rfl (LT 1000005 rfl (LT 1000022 rfl (LeftS.cons (t := 1900000) rfl (Surv.tab (by omega)) LN))))))) (LeftL.one (LV 1 rfl (LV 5 rfl (LV 7 rfl (LT 1000001 rfl (LT 1000005 rfl (LB 1000022 rfl (LeftS.cons (t := 1900000) rfl (Surv.tab (by omega)) LN))))))))), ?_⟩
 refine TL ?_
 refine RN ?_
 refine A.sub (KC 1 rfl (KC 5 rfl (KC 7 rfl (KC 1000001 rfl (KC 1000005 rfl (KC 1000006 rfl (KE 1000017 rfl (rfl) (KC 1000022 rfl (KC 1900000 rfl KN))))))))) ?_
 refine GS ?_
 refine TN 3 ?_
 refine RM rfl ?_
 refine RS (ok_field field78_1 (by decide) rfl) ?_
 refine RS (ok_loadV (s := 1000001) (by decide) Tryd.underlying68 rfl rfl rfl (rfl)) ?_
 refine RN ?_
 refine ⟨_, _, eff_nameF (c := 4) (by rw [List.length_map, be_length]) (n := 40) (d := 27) (k := 1000027) rfl rfl (fun B' => ok_callB (Put32_fnB x.j hx.j) (fun _ _ => fresh_mono _ _) (A1 rfl)) (by decide) (by decide), fun b27 hb27 => ?_⟩
 have hBb27 := hb27.1
 have hlt_b1_b27 : b1 < b27 := hb27.2 1000001 _ _ _ rfl
 have hlt_b5_b27 : b5 < b27 := hb27.2 1000005 _ _ _ rfl
 have hlt_b6_b27 : b6 < b27 := hb27.2 1000006 _ _ _ rfl
 have hlt_b17_b27 : b17 < b27 := hb27.2 1000017 _ _ _ rfl
 have hlt_b22_b27 : b22 < b27 := hb27.2 1000022 _ _ _ rfl
 refine TF 4 ?_
 refine RN ?_
 refine ⟨_, eff_callL1 (n := 40) (vs := [.slice (some ⟨b27, 0, none⟩) (be 4 x.j : List UInt8).length (be 4 x.j : List UInt8).length]) (us := [ptr b6, ptr b5]) (write_fnL 1000006 1000005 1000017 1000027 w₀.heap.size b6 b5 b17 b27 (NodT.sz x.l.toNat) ([] ++ [x.l]) (be 4 x.j) (by rw [be_length]; decide) (by have := sz_le x.l.toNat; simp [be_length]; omega) (by have := sz_le x.l.toNat; omega) hBb6 hBb17 hlt_b17_b27) rfl (A1 rfl) (subL_M (KC 1000006 rfl (KC 1000005 rfl (KC 1000017 rfl (KC 1000027 rfl KN)))) (vbL_cons (vL rfl) (vbL_cons (vL rfl) (vbL_cons (vL rfl) (vbL_cons (vL rfl) vbL_nil))))) (vbL_cons (vL rfl) (vbL_cons (vL rfl) vbL_nil)) (gsL_cons (k := 1000006) hBb6 rfl (gsL_cons (k := 1000017) hBb17 rfl gsL_nil)) (by decide) (by decide) (LeftL.cons (LV 1 rfl (LV 5 rfl (LV 7 rfl (LT 1000001 rfl (LT 1000005 rfl (LT 1000022 rfl (LT 1000027 rfl (LeftS.cons (t := 1900000) rfl (Surv.tab (by omega)) LN)))))))) (LeftL.one (LV 1 rfl (LV 5 rfl (LV 7 rfl (LT 1000001 rfl (LT 1000005 rfl (LB 1000022 rfl (LB 1000027 rfl (LeftS.cons (t := 1900000) rfl (Surv.tab (by omega)) LN)))))))))), ?_⟩
 refine TL ?_
 refine RN ?_
 refine A.seq ?_
 refine GS ?_
 refine TL ?_
 refine RS (ok_loadA (s := 1000001) (by decide) Tryd.underlying78 rfl (size78.of (hx.len)) rfl rfl) ?_
 refine RS (ok_call (isGroup_y x hx h0) (A1 rfl)) ?_
 refine RN ?_
 refine A.yes rfl ?_
 refine GE ?_
 refine TF 3 ?_
 refine RS (ok_field field78_2 (by decide) rfl) ?_
 refine RS (ok_loadP (s := 1000001) (by decide) Tryd.underlying73 rfl size73 rfl rfl (by rw [hx.len]; decide) (hx.getR)) ?_
 refine RM rfl ?_
 refine RN ?_
 refine ⟨_, eff_callL1 (n := 40) (vs := [aggV (recsV x.R), .func (.func 48) #[] #[], .func (.func 44) #[] #[ptr b6, ptr b5]]) (us := []) (putR_fnL 1000006 1000005 1000017 w₀.heap.size b6 b5 b17 (NodT.sz x.l.toNat) ([] ++ [x.l] ++ be 4 x.j) x.R hx.lr hx.fr (hk5.2.1 h0).2 (by unfold NodT.sz; simp [be_length, h0]) (by have := sz_le x.l.toNat; omega) hBb6 hBb17) rfl (A3 rfl rfl rfl) (subL_M (KC 1000006 rfl (KC 1000005 rfl (KC 1000017 rfl KN))) (vbL_cons (vL rfl) (vbL_cons (vL rfl) (vbL_cons (vL rfl) vbL_nil)))) (vbL_cons (vL rfl) (vbL_cons (vL rfl) vbL_nil)) (gsL_cons (k := 1000006) hBb6 rfl (gsL_cons (k := 1000017) hBb17 rfl gsL_nil)) (by decide) (by decide) (LeftL.cons (LV 5 rfl (LT 1000001 rfl (LT 1000005 rfl (LT 1000022 rfl (LT 1000027 rfl (LeftS.cons (t := 1900000) rfl (Surv.tab (by omega)) LN)))))) (LeftL.one (LV 5 rfl (LT 1000001 rfl (LT 1000005 rfl (LB 1000022 rfl (LB 1000027 rfl (LeftS.cons (t := 1900000) rfl (Surv.tab (by omega)) LN)))))))), ?_⟩
 refine TL ?_
 refine RN ?_
 refine EN ?_
 refine GS ?_
 refine TL ?_
 refine RS (ok_loadV (s := 1000005) (by decide) Tryd.underlying91 rfl rfl rfl (rfl)) ?_
 refine RA rfl ?_
 refine RA rfl ?_
 refine RN ?_
 refine A.ret ?_
 exact End.newTT (kg := 1000017) rfl rfl rfl rfl hBb17 rfl (by rw [wrt_full (by rw [bl_R h0, hx.bl_length]), bl_R h0])
set_option maxHeartbeats 2000000 in
theorem nPut_EB (x : NodT) (hx : x.Fit) (hk : x.ck = 0) (h0 : ¬ x.l.toNat = 0) : FnMB Tryd.prog 37 tabS [.v (aggV x.v)] (fun B => newD B 5 (fun b => .tuple #[.slice (some ⟨b, 0, none⟩) (NodT.sz x.l.toNat) (NodT.sz x.l.toNat), .int .i64 0]) (x.bl.map byteV)) := by
 have hk5 := NodT.ck_ok hk
 have hl5 := hk5.1
 refine FnMB.of Tryd.func37 rfl (by kernel_rfl) Tryd.ntmps37 (by simp) (by decide) (fun w => [(0, .v (aggV x.v)), (1900000, tab 0 (sizV))]) (fun w => (StartM.v rfl (StartM.m (by simp [tabS]) (by decide) StartM.nil))) fun w₀ hM => ?_
 have htab := tabS_hi hM
 refine GS ?_
 refine TN 0 ?_
 refine RN ?_
 refine ⟨_, _, eff_box (n := 40) (d := 1) (k := 1000001) rfl (by decide), fun b1 hb1 => ?_⟩
 have hBb1 := hb1.1
 refine TL ?_
 refine RA rfl ?_
 refine RA rfl ?_
 refine RN ?_
 refine A.seq ?_
 refine GS ?_
 refine TL ?_
 refine RS (ok_loadA (s := 1000001) (by decide) Tryd.underlying78 rfl (size78.of (hx.len)) rfl rfl) ?_
 refine RS (ok_call (nCheck_fn x hx) (A1 rfl)) ?_; refine RZ (.int .i64 0) (by rw [hk]) ?_
 refine RA rfl ?_
 refine RN ?_
 refine GS ?_
 refine TL ?_
 refine RM rfl ?_
 refine RBS rfl rfl rfl (.bool false) (by first | rfl | (simp; done) | (simp; omega) | (simp [*]; done) | (simp [*]; omega)) ?_
 refine RN ?_
 refine A.no rfl ?_
 refine A.skip ?_
 refine EN ?_
 refine GS ?_
 refine TN 4 ?_
 refine RS (ok_field field78_0 (by decide) rfl) ?_
 refine RS (ok_loadV (s := 1000001) (by decide) Tryd.underlying5 rfl rfl rfl (rfl)) ?_
 refine RS (ok_index0 x.l.toNat Tryd.underlying100 info3 rfl rfl rfl (by omega)) ?_
 refine RS (ok_loadVT (s := 1900000) (by decide) Tryd.underlying3 rfl rfl rfl (siz_get (by omega))) ?_
 refine RN ?_
 refine ⟨_, _, eff_nameF (c := (NodT.sz x.l.toNat)) (by simp) (n := 40) (d := 17) (k := 1000017) rfl rfl (fun B' => ok_make (NodT.sz x.l.toNat) Tryd.underlying91 info5 (by decide) rfl rfl rfl rfl rfl (by have := sz_le x.l.toNat; omega)) (by decide) (by decide), fun b17 hb17 => ?_⟩
 have hBb17 := hb17.1
 have hlt_b1_b17 : b1 < b17 := hb17.2 1000001 _ _ _ rfl
 refine TN 5 ?_
 refine RN ?_
 refine ⟨_, _, eff_alloc (n := 40) (d := 5) (k := 1000005) zero91 (by decide), fun b5 hb5 => ?_⟩
 have hBb5 := hb5.1
 refine TN 6 ?_
 refine RN ?_
 refine ⟨_, _, eff_alloc (n := 40) (d := 6) (k := 1000006) zero3 (by decide), fun b6 hb6 => ?_⟩
 have hBb6 := hb6.1
 refine TF 7 ?_
 refine RN ?_
 refine ⟨_, eff_storeS (n := 40) (s := 1000005) info91 rfl rfl rfl hBb5 rfl (by simp) (LV 1 rfl (LV 5 rfl (LV 6 rfl (LT 1000001 rfl (LT 1000006 rfl (LT 1000017 rfl (LeftS.cons (t := 1900000) rfl (Surv.tab (by omega)) LN))))))), ?_⟩
 refine TF 8 ?_
 refine RN ?_
 refine ⟨_, eff_storeS (n := 40) (s := 1000006) info3 rfl rfl rfl hBb6 rfl (by simp) (LV 1 rfl (LV 5 rfl (LV 6 rfl (LT 1000001 rfl (LT 1000005 rfl (LT 1000017 rfl (LeftS.cons (t := 1900000) rfl (Surv.tab (by omega)) LN))))))), ?_⟩
 refine TL ?_
 refine RN ?_
 refine A.sub (KC 1 rfl (KC 5 rfl (KC 6 rfl (KC 1000001 rfl (KC 1000005 rfl (KE 1000006 rfl (show _ = blk b6 3 [nI ([] : List UInt8).length] from rfl) (KE 1000017 rfl (show _ = blk b17 5 (wrt (NodT.sz x.l.toNat) []) from congrArg _ (wrt_zero _).symm) (KC 1900000 rfl KN)))))))) ?_
 refine GS ?_
 refine TL ?_
 refine RS (ok_makeFuncN [ptr b6, ptr b5] ⟨rfl, rfl, trivial⟩) ?_
 refine RA rfl ?_
 refine RN ?_
 refine GS ?_
 refine TN 3 ?_
 refine RM rfl ?_
 refine RS (ok_field field78_0 (by decide) rfl) ?_
 refine RS (ok_loadV (s := 1000001) (by decide) Tryd.underlying5 rfl rfl rfl (rfl)) ?_
 refine RN ?_
 refine ⟨_, _, eff_name (n := 40) (d := 22) (k := 1000022) rfl rfl (fun B' => ok_build1B Tryd.underlying91 info5 rfl rfl) (by decide) (by decide), fun b22 hb22 => ?_⟩
 have hBb22 := hb22.1
 have hlt_b1_b22 : b1 < b22 := hb22.2 1000001 _ _ _ rfl
 have hlt_b5_b22 : b5 < b22 := hb22.2 1000005 _ _ _ rfl
 have hlt_b6_b22 : b6 < b22 := hb22.2 1000006 _ _ _ rfl
 have hlt_b17_b22 : b17 < b22 := hb22.2 1000017 _ _ _ rfl
 refine TF 4 ?_
 refine RN ?_
 refine ⟨_, eff_callL1 (n := 40) (vs := [.slice (some ⟨b22, 0, none⟩) ([x.l] : List UInt8).length ([x.l] : List UInt8).length]) (us := [ptr b6, ptr b5]) (write_fnL 1000006 1000005 1000017 1000022 w₀.heap.size b6 b5 b17 b22 (NodT.sz x.l.toNat) (([] : List UInt8)) ([x.l]) (by rw [show [x.l].length = 1 from rfl]; decide) (by have := sz_le x.l.toNat; simp [be_length]; omega) (by have := sz_le x.l.toNat; omega) hBb6 hBb17 hlt_b17_b22) rfl (A1 rfl) (subL_M (KC 1000006 rfl (KC 1000005 rfl (KC 1000017 rfl (KC 1000022 rfl KN)))) (vbL_cons (vL rfl) (vbL_cons (vL rfl) (vbL_cons (vL rfl) (vbL_cons (vL rfl) vbL_nil))))) (vbL_cons (vL rfl) (vbL_cons (vL rfl) vbL_nil)) (gsL_cons (k := 1000006) hBb6 rfl (gsL_cons (k := 1000017) hBb17 rfl gsL_nil)) (by decide) (by decide) (LeftL.cons (LV 1 rfl (LV 5 rfl (LV 7 rfl (LT 1000001 rfl (LT 1000005 rfl (LT 1000022 rfl (LeftS.cons (t := 1900000) rfl (Surv.tab (by omega)) LN))))))) (LeftL.one (LV 1 rfl (LV 5 rfl (LV 7 rfl (LT 1000001 rfl (LT 1000005 rfl (LB 1000022 rfl (LeftS.cons (t := 1900000) rfl (Surv.tab (by omega)) LN))))))))), ?_⟩
 refine TL ?_
 refine RN ?_
 refine A.sub (KC 1 rfl (KC 5 rfl (KC 7 rfl (KC 1000001 rfl (KC 1000005 rfl (KC 1000006 rfl (KE 1000017 rfl (rfl) (KC 1000022 rfl (KC 1900000 rfl KN))))))))) ?_
 refine GS ?_
 refine TN 3 ?_
 refine RM rfl ?_
 refine RS (ok_field field78_1 (by decide) rfl) ?_
 refine RS (ok_loadV (s := 1000001) (by decide) Tryd.underlying68 rfl rfl rfl (rfl)) ?_
 refine RN ?_
 refine ⟨_, _, eff_nameF (c := 4) (by rw [List.length_map, be_length]) (n := 40) (d := 27) (k := 1000027) rfl rfl (fun B' => ok_callB (Put32_fnB x.j hx.j) (fun _ _ => fresh_mono _ _) (A1 rfl)) (by decide) (by decide), fun b27 hb27 => ?_⟩
 have hBb27 := hb27.1
 have hlt_b1_b27 : b1 < b27 := hb27.2 1000001 _ _ _ rfl
 have hlt_b5_b27 : b5 < b27 := hb27.2 1000005 _ _ _ rfl
 have hlt_b6_b27 : b6 < b27 := hb27.2 1000006 _ _ _ rfl
 have hlt_b17_b27 : b17 < b27 := hb27.2 1000017 _ _ _ rfl
 have hlt_b22_b27 : b22 < b27 := hb27.2 1000022 _ _ _ rfl
 refine TF 4 ?_
 refine RN ?_
 refine ⟨_, eff_callL1 (n := 40) (vs := [.slice (some ⟨b27, 0, none⟩) (be 4 x.j : List UInt8).length (be 4 x.j : List UInt8).length]) (us := [ptr b6, ptr b5]) (write_fnL 1000006 1000005 1000017 1000027 w₀.heap.size b6 b5 b17 b27 (NodT.sz x.l.toNat) ([] ++ [x.l]) (be 4 x.j) (by rw [be_length]; decide) (by have := sz_le x.l.toNat; simp [be_length]; omega) (by have := sz_le x.l.toNat; omega) hBb6 hBb17 hlt_b17_b27) rfl (A1 rfl) (subL_M (KC 1000006 rfl (KC 1000005 rfl (KC 1000017 rfl (KC 1000027 rfl KN)))) (vbL_cons (vL rfl) (vbL_cons (vL rfl) (vbL_cons (vL rfl) (vbL_cons (vL rfl) vbL_nil))))) (vbL_cons (vL rfl) (vbL_cons (vL rfl) vbL_nil)) (gsL_cons (k := 1000006) hBb6 rfl (gsL_cons (k := 1000017) hBb17 rfl gsL_nil)) (by decide) (by decide) (LeftL.cons (LV 1 rfl (LV 5 rfl (LV 7 rfl (LT 1000001 rfl (LT 1000005 rfl (LT 1000022 rfl (LT 1000027 rfl (LeftS.cons (t := 1900000) rfl (Surv.tab (by omega)) LN)))))))) (LeftL.one (LV 1 rfl (LV 5 rfl (LV 7 rfl (LT 1000001 rfl (LT 1000005 rfl (LB 1000022 rfl (LB 1000027 rfl (LeftS.cons (t := 1900000) rfl (Surv.tab (by omega)) LN)))))))))), ?_⟩
 refine TL ?_
 refine RN ?_
 refine A.seq ?_
 refine GS ?_
 refine TL ?_
 refine RS (ok_loadA (s := 1000001) (by decide) Tryd.underlying78 rfl (size78.of (hx.len)) rfl rfl) ?_
 refine RS (ok_call (isGroup_n x hx h0) (A1 rfl)) ?_
 refine RN ?_
 refine A.no rfl ?_
 refine GE ?_
 refine TF 3 ?_
 refine RS (ok_field field78_3 (by decide) rfl) ?_
 refine RS (ok_loadP (s := 1000001) (by decide) Tryd.underlying76 rfl size76 rfl rfl (by rw [hx.len]; decide) (hx.getE)) ?_
 refine RM rfl ?_
 refine RN ?_
 refine ⟨_, eff_callL1 (n := 40) (vs := [aggV (entsV x.E), .func (.func 50) #[] #[], .func (.func 44) #[] #[ptr b6, ptr b5]]) (us := []) (putE_fnL 1000006 1000005 1000017 w₀.heap.size b6 b5 b17 (NodT.sz x.l.toNat) ([] ++ [x.l] ++ be 4 x.j) x.E hx.le hx.fe (hk5.2.2 h0).2 (by unfold NodT.sz; simp [be_length, h0]) (by have := sz_le x.l.toNat; omega) hBb6 hBb17) rfl (A3 rfl rfl rfl) (subL_M (KC 1000006 rfl (KC 1000005 rfl (KC 1000017 rfl KN))) (vbL_cons (vL rfl) (vbL_cons (vL rfl) (vbL_cons (vL rfl) vbL_nil)))) (vbL_cons (vL rfl) (vbL_cons (vL rfl) vbL_nil)) (gsL_cons (k := 1000006) hBb6 rfl (gsL_cons (k := 1000017) hBb17 rfl gsL_nil)) (by decide) (by decide) (LeftL.cons (LV 5 rfl (LT 1000001 rfl (LT 1000005 rfl (LT 1000022 rfl (LT 1000027 rfl (LeftS.cons (t := 1900000) rfl (Surv.tab (by omega)) LN)))))) (LeftL.one (LV 5 rfl (LT 1000001 rfl (LT 1000005 rfl (LB 1000022 rfl (LB 1000027 rfl (LeftS.cons (t := 1900000) rfl (Surv.tab (by omega)) LN)))))))), ?_⟩
 refine TL ?_
 refine RN ?_
 refine EN ?_
 refine GS ?_
 refine TL ?_
 refine RS (ok_loadV (s := 1000005) (by decide) Tryd.underlying91 rfl rfl rfl (rfl)) ?_
 refine RA rfl ?_
 refine RA rfl ?_
 refine RN ?_
 refine A.ret ?_
 exact End.newTT (kg := 1000017) rfl rfl rfl rfl hBb17 rfl (by rw [wrt_full (by rw [bl_E h0, hx.bl_length]), bl_E h0])
theorem nPut_okB (x : NodT) (hx : x.Fit) (hk : x.ck = 0) : FnMB Tryd.prog 37 tabS [.v (aggV x.v)] (fun B => newD B 5 (fun b => .tuple #[.slice (some ⟨b, 0, none⟩) (NodT.sz x.l.toNat) (NodT.sz x.l.toNat), .int .i64 0]) (x.bl.map byteV)) := by
 by_cases h0 : x.l.toNat = 0
 ·exact nPut_RB x hx hk h0
 ·exact nPut_EB x hx hk h0
theorem nPut_ok (x : NodT) (hx : x.Fit) (hk : x.ck = 0) : FnM Tryd.prog 37 tabS [.v (aggV x.v)] (tup [bytes x.bl (NodT.sz x.l.toNat), .v (.int .i64 0)]) :=
 (nPut_okB x hx hk).fn fun B => newD_tup hx.bl_length (by have := sz_le x.l.toNat; simp only [maxLen]; omega)
end Go.Proofs.YtfjpipkcfbmdeaaDoor
namespace Go.Proofs.YtfjpipkcfbmdeaaDoor
open Go Go.RowKit
/-- The operation yields v (or stores what is there) and changes nothing. -/
def NopOk (P : Program) (B : Nat) (o : Oper) (E : Env) (v : Value) : Prop := (∀ c, o.op ≠ .defer c) ∧
  ∀ (ρ : Operand → Value) (w : World), B ≤ w.heap.size → (∀ t e, vbase ≤ t → E.look t = some e → e.Of w undef) → (∀ x, x ∈ o.op.operands → ∀ e, E.at x = some e → e.Of w (ρ x)) → ((execOp ρ o).run P w = .ok (.value v) w ∧ o.dst ≠ none) ∨ ((execOp ρ o).run P w = .ok .skip w ∧ o.dst = none)
/-- An environment out of what was known and of what operations have yielded that stand before operation o. -/
inductive FromN (ops : Array Oper) (vals : List Value) (E0 : Env) (o : Oper) : Env → Prop
  | nil : FromN ops vals E0 o []
  | all : FromN ops vals E0 o E0
  | base {t : Nat} {d : D} {E : Env} (h : E0.look t = some d) (hr : FromN ops vals E0 o E) : FromN ops vals E0 o ((t, d) :: E)
  | op {t : Nat} {v : Value} {E : Env} (j : Nat) (he : (o.after.any fun e => Region.binds .any e && e.on == j) = true) (hd : (ops[j]?).bind (·.dst) = some t) (hv : vals[j]? = some v) (hr : FromN ops vals E0 o E) : FromN ops vals E0 o ((t, .v v) :: E)
/-- The same at the region's end. -/
inductive FromE (ops : Array Oper) (vals : List Value) (E0 : Env) : Env → Prop
  | nil : FromE ops vals E0 []
  | all : FromE ops vals E0 E0
  | base {t : Nat} {d : D} {E : Env} (h : E0.look t = some d) (hr : FromE ops vals E0 E) : FromE ops vals E0 ((t, d) :: E)
  | op {t : Nat} {v : Value} {E : Env} (j : Nat) (hd : (ops[j]?).bind (·.dst) = some t) (hv : vals[j]? = some v) (hr : FromE ops vals E0 E) : FromE ops vals E0 ((t, .v v) :: E)
inductive Nops (P : Program) (B : Nat) (ops : Array Oper) (vals : List Value) (E0 : Env) : Nat → List Oper → Prop
  | nil {i : Nat} : Nops P B ops vals E0 i []
  | cons {i : Nat} {o : Oper} {rest : List Oper} {v : Value} (E : Env) (hv : vals[i]? = some v) (hd : o.dst = none ∨ ∃ t, o.dst = some t ∧ (E0.look t = none ∨ E0.look t = some (.v v))) (hf : FromN ops vals E0 o E) (hok : NopOk P B o E v) (hr : Nops P B ops vals E0 (i + 1) rest) : Nops P B ops vals E0 i (o :: rest)
def downsN (ops : Array Oper) : Bool := (List.range ops.size).all fun i => match ops[i]? with
  | none => false
  | some o => o.guard.isNone && o.after.all (fun e => !Region.binds .any e || decide (e.on < i)) && (List.range ops.size).all fun j => match ops[j]? with
    | none => false
    | some q => j == i || o.dst == none || o.dst != q.dst
section
variable {P : Program} {n B : Nat} {ops : Array Oper} {κ : Cx} {Q : Exit → Act → World → Prop} {vals : List Value} {E0 : Env}
theorem Nops.nth {k : Nat} {l : List Oper} (h : Nops P B ops vals E0 k l) : ∀ {i : Nat} {o : Oper}, l[i]? = some o → ∃ E v, vals[k + i]? = some v ∧ (o.dst = none ∨ ∃ t, o.dst = some t ∧ (E0.look t = none ∨ E0.look t = some (.v v))) ∧ FromN ops vals E0 o E ∧ NopOk P B o E v := by
  induction h with
  | nil => intro i o hi; simp at hi
  | @cons k o0 rest v E hv hd hf hok _ ih =>
    intro i o hi
    cases i with
    | zero => simp at hi; subst hi; exact ⟨E, v, hv, hd, hf, hok⟩
    | succ i =>
      obtain ⟨E, v, h1, h2⟩ := ih (i := i) (by simpa using hi)
      exact ⟨E, v, by rw [show k + (i + 1) = k + 1 + i from by omega]; exact h1, h2⟩
theorem downs_get (h : downsN ops = true) {i : Nat} {o : Oper} (hi : ops[i]? = some o) : o.guard = none ∧ (∀ e ∈ o.after, Region.binds .any e = true → e.on < i) ∧ ∀ j q, ops[j]? = some q → j ≠ i → o.dst ≠ none → o.dst ≠ q.dst := by
  have hlt : i < ops.size := (Array.getElem?_eq_some_iff.1 hi).1
  have h1 := List.all_eq_true.1 h i (List.mem_range.2 hlt)
  simp only [hi, Bool.and_eq_true] at h1
  refine ⟨by simpa using h1.1.1, fun e he hb => ?_, fun j q hj hne hnn => ?_⟩
  · have h2 := Array.all_eq_true_iff_forall_mem.1 h1.1.2 e he
    simpa [hb] using h2
  · have h3 := List.all_eq_true.1 h1.2 j (List.mem_range.2 (Array.getElem?_eq_some_iff.1 hj).1)
    simp only [hj, Bool.or_eq_true, beq_iff_eq, bne_iff_ne, ne_eq] at h3
    rcases h3 with (h3 | h3) | h3
    · exact absurd h3 hne
    · exact absurd h3 hnn
    · exact h3
end
/-! ### Such operations -/
section
variable {P : Program} {B : Nat} {E : Env} {d : Tmp} {ty : TypeId} {pos : String} {after : Array Edge} {guard : Option (Nat × Bool)}
end
end Go.Proofs.YtfjpipkcfbmdeaaDoor
namespace Go.Proofs.YtfjpipkcfbmdeaaDoor
open Go Go.RowKit
/-- What stands at operation i: operation p is the store of ys into block b, of type T; every other one yields vals[i], from what is known and stays known (Eb), and from what operations have yielded that stand before it. -/
inductive Onces (P : Program) (B : Nat) (ops : Array Oper) (vals : List Value) (Eb : Env) (p b : Nat) (T : TypeId) (ys : List Value) : Nat → List Oper → Prop
  | nil {i : Nat} : Onces P B ops vals Eb p b T ys i []
  | cons {i : Nat} {o : Oper} {rest : List Oper} {t : Nat} {v : Value} (E : Env) (hp : i ≠ p) (hv : vals[i]? = some v) (ht : o.dst = some t) (hd : Eb.look t = none ∨ Eb.look t = some (.v v)) (hf : FromN ops vals Eb o E) (hok : OpOk P B o E (.v v)) (hr : Onces P B ops vals Eb p b T ys (i + 1) rest) : Onces P B ops vals Eb p b T ys i (o :: rest)
  | store {o : Oper} {rest : List Oper} {x y : Operand} {ty : TypeId} {pos : String} {after : Array Edge} (E : Env) (ho : o = ⟨none, .store T x y, ty, pos, after, none⟩) (hf : FromN ops vals Eb o E) (hx : E.at x = some (.v (.pointer (some ⟨b, 0, none⟩)))) (hy : E.at y = some (.v (aggV ys))) (hr : Onces P B ops vals Eb p b T ys (p + 1) rest) : Onces P B ops vals Eb p b T ys p (o :: rest)
section
variable {P : Program} {n B : Nat} {ops : Array Oper} {κ : Cx} {Q : Exit → Act → World → Prop} {vals : List Value} {Eb : Env} {p b k : Nat} {T : TypeId} {zs ys : List Value}
theorem Onces.nth {m : Nat} {l : List Oper} (h : Onces P B ops vals Eb p b T ys m l) : ∀ {i : Nat} {o : Oper}, l[i]? = some o →
    (m + i ≠ p ∧ ∃ E v t, vals[m + i]? = some v ∧ o.dst = some t ∧ (Eb.look t = none ∨ Eb.look t = some (.v v)) ∧ FromN ops vals Eb o E ∧ OpOk P B o E (.v v)) ∨
    (m + i = p ∧ ∃ E x y ty pos after, o = ⟨none, .store T x y, ty, pos, after, none⟩ ∧ FromN ops vals Eb o E ∧ E.at x = some (.v (.pointer (some ⟨b, 0, none⟩))) ∧ E.at y = some (.v (aggV ys))) := by
  induction h with
  | nil => intro i o hi; simp at hi
  | @cons m o0 rest t v E hp hv ht hd hf hok _ ih =>
    intro i o hi
    cases i with
    | zero => simp at hi; subst hi; exact .inl ⟨hp, E, v, t, hv, ht, hd, hf, hok⟩
    | succ i =>
      have := ih (i := i) (by simpa using hi)
      rwa [show m + 1 + i = m + (i + 1) from by omega] at this
  | @store o0 rest x y ty pos after E ho hf hx hy _ ih =>
    intro i o hi
    cases i with
    | zero => simp at hi; subst hi; exact .inr ⟨rfl, E, x, y, ty, pos, after, ho, hf, hx, hy⟩
    | succ i =>
      have := ih (i := i) (by simpa using hi)
      rwa [show p + 1 + i = p + (i + 1) from by omega] at this
/-! ### Step by step -/
theorem FromN.more {o : Oper} {pre r : List Value} {E : Env} (h : FromN ops pre Eb o E) : FromN ops (pre ++ r) Eb o E := by
  induction h with
  | nil => exact .nil
  | all => exact .all
  | base h _ ih => exact .base h ih
  | op j he hd hv _ ih => exact .op j he hd (by rw [List.getElem?_append_left (List.getElem?_eq_some_iff.1 hv).1]; exact hv) ih
def OncesK (P : Program) (B : Nat) (ops : Array Oper) (Eb : Env) (p b : Nat) (T : TypeId) (ys : List Value) (pre : List Value) (l : List Oper) (C : List Value → Prop) : Prop := ∃ r, Onces P B ops (pre ++ r) Eb p b T ys pre.length l ∧ C (pre ++ r)
theorem OncesK.nil {pre : List Value} {C : List Value → Prop} (h : C pre) : OncesK P B ops Eb p b T ys pre [] C := ⟨[], .nil, by simpa using h⟩
theorem OncesK.cons {pre : List Value} {C : List Value → Prop} {o : Oper} {rest : List Oper} {t : Nat} {v : Value} (E : Env) (hp : Nat.beq pre.length p = false) (ht : o.dst = some t) (hd : Eb.look t = none ∨ Eb.look t = some (.v v)) (hf : FromN ops pre Eb o E) (hok : OpOk P B o E (.v v)) (hr : OncesK P B ops Eb p b T ys (pre ++ [v]) rest C) :
    OncesK P B ops Eb p b T ys pre (o :: rest) C := by
  obtain ⟨r, h1, h2⟩ := hr
  rw [List.append_assoc] at h1 h2
  rw [List.length_append] at h1
  refine ⟨[v] ++ r, .cons E (fun h => ?_) (by simp) ht hd hf.more hok h1, h2⟩
  rw [h] at hp; simp at hp
theorem OncesK.store {pre : List Value} {C : List Value → Prop} {rest : List Oper} {x y : Operand} {ty : TypeId} {pos : String} {after : Array Edge} (E : Env) (hp : pre.length = p) (hf : FromN ops pre Eb ⟨none, .store T x y, ty, pos, after, none⟩ E) (hx : E.at x = some (.v (.pointer (some ⟨b, 0, none⟩)))) (hy : E.at y = some (.v (aggV ys)))
    (hr : OncesK P B ops Eb p b T ys (pre ++ [undef]) rest C) : OncesK P B ops Eb p b T ys pre (⟨none, .store T x y, ty, pos, after, none⟩ :: rest) C := by
  obtain ⟨r, h1, h2⟩ := hr
  rw [List.append_assoc] at h1 h2
  rw [List.length_append] at h1
  subst hp
  exact ⟨[undef] ++ r, .store E rfl hf.more hx hy h1, h2⟩
end
end Go.Proofs.YtfjpipkcfbmdeaaDoor
namespace Go.Proofs.YtfjpipkcfbmdeaaDoor
open Go Go.RowKit
set_option linter.unusedVariables false
set_option maxRecDepth 20000

theorem Height_ok (n : Nat) (h1 : 1 ≤ n) (h2 : n ≤ 4096)  : Fn Tryd.prog 25 [.v (nI (n))] (.v (.tuple #[nI (hg n), .int .i64 0])) := by
 refine Fn.of Tryd.func25 rfl (by kernel_rfl) Tryd.ntmps25 (by simp) (fun w => [(0, .v (nI (n)))]) (fun w => (Start.v rfl Start.nil)) fun w₀ => ?_
 refine GS ?_
 refine TL ?_
 refine RA rfl ?_
 refine RA rfl ?_
 refine RN ?_
 refine A.seq ?_
 refine GS ?_
 refine TL ?_
 refine RM rfl ?_
 refine RS (ok_call (Check_ok n h1 h2) (A1 rfl)) ?_
 refine RA rfl ?_
 refine RN ?_
 refine GS ?_
 refine TL ?_
 refine RM rfl ?_
 refine RBS rfl rfl rfl (.bool false) (by first | rfl | (simp; done) | (simp; omega) | (simp [*]; done) | (simp [*]; omega)) ?_
 refine RN ?_
 refine A.no rfl ?_
 refine A.skip ?_
 refine EN ?_
 refine GS ?_
 refine TN 1 ?_
 refine RM rfl ?_
 refine RN ?_
 refine ⟨_, _, eff_name (n := 13) (d := 11) (k := 1000011) rfl rfl (fun B' => ok_callB (shapeOf_fnB n h1 h2) (fun _ _ h => newD_mono _ _ h) (A1 rfl)) (by decide) (by decide), fun b11 hb11 => ?_⟩
 have hBb11 := hb11.1
 refine TL ?_
 refine RS (ok_call (height_fn n b11) (A1 rfl)) ?_
 refine RA rfl ?_
 refine RA rfl ?_
 refine RN ?_
 refine A.ret ?_
 exact End.ret2V rfl rfl rfl
theorem Height_bad (m : Int) (hm : ¬ (1 ≤ m ∧ m ≤ 4096))  : Fn Tryd.prog 25 [.v (.int .i64 (m))] (.v (.tuple #[.int .i64 0, .int .i64 1])) := by
 refine Fn.of Tryd.func25 rfl (by kernel_rfl) Tryd.ntmps25 (by simp) (fun w => [(0, .v (.int .i64 (m)))]) (fun w => (Start.v rfl Start.nil)) fun w₀ => ?_
 refine GS ?_
 refine TL ?_
 refine RA rfl ?_
 refine RA rfl ?_
 refine RN ?_
 refine A.seq ?_
 refine GS ?_
 refine TL ?_
 refine RM rfl ?_
 refine RS (ok_call (Check_bad m hm) (A1 rfl)) ?_
 refine RA rfl ?_
 refine RN ?_
 refine GS ?_
 refine TL ?_
 refine RM rfl ?_
 refine RBS rfl rfl rfl (.bool true) (by first | rfl | (simp; done) | (simp; omega) | (simp [*]; done) | (simp [*]; omega)) ?_
 refine RN ?_
 refine A.yes rfl ?_
 refine GS ?_
 refine TL ?_
 refine RM rfl ?_
 refine RA rfl ?_
 refine RA rfl ?_
 refine RN ?_
 refine A.ret ?_
 refine End.ret_then ?_
 exact End.ret2V rfl rfl rfl
end Go.Proofs.YtfjpipkcfbmdeaaDoor
namespace Go.Proofs.YtfjpipkcfbmdeaaDoor
open Go Go.RowKit
set_option linter.unusedVariables false
set_option maxRecDepth 20000

theorem zero116 : ZeroIs Tryd.prog 116 (List.replicate 64 (.int .u32 0)) := by unfold ZeroIs; kernel_rfl
theorem size116 : SizeIs Tryd.prog 116 64 := by unfold SizeIs; kernel_rfl
theorem zero109 : ZeroIs Tryd.prog 109 (List.replicate 8 (.int .u32 0)) := by unfold ZeroIs; kernel_rfl
theorem size109 : SizeIs Tryd.prog 109 8 := by unfold SizeIs; kernel_rfl
theorem K64_lit : K64.length = 64 := by decide
theorem refrotr_fn (x : UInt32) (n : Nat) (hn0 : 0 < n) (hn : n < 32) : Fn Tryd.prog 74 [.v (u32V x), .v (.int .i64 (n : Int))] (.v (u32V (rotr32 x n))) := by
 have hx := u32_lt x
 refine Fn.of Tryd.func74 rfl (by kernel_rfl) Tryd.ntmps74 (by simp) (fun w => [(0, .v (u32V x)), (1, .v (.int .i64 (n : Int)))]) (fun w => (Start.v rfl (Start.v rfl Start.nil))) fun w₀ => ?_
 refine GS ?_
 refine TL ?_
 refine RA rfl ?_
 refine RN ?_
 refine GD ?_
 refine TL ?_
 refine RM rfl ?_
 refine RM rfl ?_
 refine RS (ok_shr rfl rfl (Int.natCast_nonneg n)) ?_; refine RZ (.int .u32 ((x.toNat / 2 ^ n : Nat) : Int)) (by rw [Int.toNat_natCast, show min n IntKind.u32.bits = n from Nat.min_eq_left (by show n ≤ 32; omega), shr_nat]) ?_
 refine RM rfl ?_
 refine RM rfl ?_
 refine RBS rfl rfl rfl (.int .i64 ((32 - n : Nat) : Int)) (by rw [wrap_i64 (by omega) (by omega)]; congr 1; omega) ?_
 refine RS (ok_shl rfl rfl (Int.natCast_nonneg _)) ?_; refine RZ (.int .u32 ((x.toNat * 2 ^ (32 - n) % 4294967296 : Nat) : Int)) (by rw [Int.toNat_natCast, show min (32 - n) IntKind.u32.bits = 32 - n from Nat.min_eq_left (by show 32 - n ≤ 32; omega), ← wrap_u32_nat]; simp) ?_
 refine RBS rfl rfl rfl (u32V (rotr32 x n)) (by
  show Value.int .u32 (IntKind.u32.wrap ((BitVec.ofInt 32 _ ||| BitVec.ofInt 32 _).toNat : Int)) = _
  rw [or_u32_nat (Nat.lt_of_le_of_lt (Nat.div_le_self _ _) hx) (Nat.mod_lt _ (by decide)), rotr32_val, ← rotB_go hx (by omega), Nat.or_comm, show 32 - (32 - n) = n from by omega]) ?_
 refine RA rfl ?_
 refine RN ?_
 refine A.ret ?_
 exact End.ret1 rfl rfl (by first | exact Le.refl _ | exact Le.old _ _)
set_option maxHeartbeats 1000000 in
theorem refConstants_fn  : Fn Tryd.prog 55 [] (tup [.v (aggV (K64.map u32V)), .v (aggV (H8.list.map u32V))]) := by
 refine Fn.of Tryd.func55 rfl (by kernel_rfl) Tryd.ntmps55 (by simp) (fun w => []) (fun w => Start.nil) fun w₀ => ?_
 refine GS ?_
 refine TN 0 ?_
 refine RN ?_
 refine ⟨_, _, eff_alloc (n := 4) (d := 0) (k := 1000000) zero116 (by decide), fun b0 hb0 => ?_⟩
 have hBb0 := hb0.1
 refine TN 1 ?_
 refine RN ?_
 refine ⟨_, _, eff_alloc (n := 4) (d := 1) (k := 1000001) zero109 (by decide), fun b1 hb1 => ?_⟩
 have hBb1 := hb1.1
 refine TL ?_
 refine RN ?_
 refine GS ?_
 refine TF 2 ?_
 refine RS (ok_litA [_, _, _, _, _, _, _, _, _, _, _, _, _, _, _, _, _, _, _, _, _, _, _, _, _, _, _, _, _, _, _, _, _, _, _, _, _, _, _, _, _, _, _, _, _, _, _, _, _, _, _, _, _, _, _, _, _, _, _, _, _, _, _, _] Tryd.underlying116 info68 zero116 rfl ⟨rfl, rfl, rfl, rfl, rfl, rfl, rfl, rfl, rfl, rfl, rfl, rfl, rfl, rfl, rfl, rfl, rfl, rfl, rfl, rfl, rfl, rfl, rfl, rfl, rfl, rfl, rfl, rfl, rfl, rfl, rfl, rfl, rfl, rfl, rfl, rfl, rfl, rfl, rfl, rfl, rfl, rfl, rfl, rfl, rfl, rfl, rfl, rfl, rfl, rfl, rfl, rfl, rfl, rfl, rfl, rfl, rfl, rfl, rfl, rfl, rfl, rfl, rfl, rfl, rfl, rfl, rfl, rfl, rfl, rfl, rfl, rfl, rfl, rfl, rfl, rfl, rfl, rfl, rfl, rfl, rfl, rfl, rfl, rfl, rfl, rfl, rfl, rfl, rfl, rfl, rfl, rfl, rfl, rfl, rfl, rfl, rfl, rfl, rfl, rfl, rfl, rfl, rfl, rfl, rfl, rfl, rfl, rfl, rfl, rfl, rfl, rfl, rfl, rfl, rfl, rfl, rfl, rfl, rfl, rfl, rfl, rfl, rfl, rfl, rfl, rfl, rfl, rfl, trivial⟩ rfl) ?_; refine RZ (aggV (K64.map u32V)) (by kernel_rfl) ?_
 refine RS (ok_litA [_, _, _, _, _, _, _, _] Tryd.underlying109 info68 zero109 rfl ⟨rfl, rfl, rfl, rfl, rfl, rfl, rfl, rfl, rfl, rfl, rfl, rfl, rfl, rfl, rfl, rfl, trivial⟩ rfl) ?_; refine RZ (aggV (H8.list.map u32V)) (by kernel_rfl) ?_
 refine RN ?_
 refine ⟨_, eff_storeA (n := 4) (s := 1000000) (size116.of (rfl)) rfl rfl (rfl) hBb0 rfl (rfl) (LV 0 rfl (LV 1 rfl (LV 3 rfl (LT 1000001 rfl LN)))), ?_⟩
 refine TF 3 ?_
 refine RN ?_
 refine ⟨_, eff_storeA (n := 4) (s := 1000001) (size109.of (rfl)) rfl rfl (rfl) hBb1 rfl (rfl) (LV 0 rfl (LV 1 rfl (LT 1000000 rfl LN))), ?_⟩
 refine TL ?_
 refine RN ?_
 refine A.ret ?_
 exact End.cell2 (s := 1000000) (s' := 1000001) rfl Tryd.underlying116 rfl (size116.of (rfl)) rfl rfl (Le.refl _) Tryd.underlying109 rfl (size109.of (rfl)) rfl rfl (Le.refl _)
end Go.Proofs.YtfjpipkcfbmdeaaDoor
namespace Go.Proofs.YtfjpipkcfbmdeaaDoor
open Go Go.RowKit
set_option linter.unusedVariables false
set_option maxRecDepth 20000

set_option maxHeartbeats 400000 in
theorem refCompress_fn (h : R8) (l : List UInt8) (hl : l.length = 64) : Fn Tryd.prog 56 [.v (aggV (h.list.map u32V)), byt l] (.v (aggV ((compress h l).list.map u32V))) := by
 refine Fn.of Tryd.func56 rfl (by kernel_rfl) Tryd.ntmps56 (by simp) (fun w => [(0, .v (aggV (h.list.map u32V))), (1, old w.heap.size (byt l))]) (fun w => (Start.v rfl (Start.old rfl Start.nil))) fun w₀ => ?_
 refine GS ?_
 refine TN 0 ?_
 refine RN ?_
 refine ⟨_, _, eff_box (n := 202) (d := 2) (k := 1000002) rfl (by decide), fun b2 hb2 => ?_⟩
 have hBb2 := hb2.1
 refine TN 1 ?_
 refine RN ?_
 refine ⟨_, _, eff_alloc (n := 202) (d := 4) (k := 1000004) zero109 (by decide), fun b4 hb4 => ?_⟩
 have hBb4 := hb4.1
 have hlt_b2_b4 : b2 < b4 := hb4.2 1000002 _ _ _ rfl
 refine TL ?_
 refine RN ?_
 refine GS ?_
 refine TN 4 ?_
 refine RS (ok_call refConstants_fn Args.nil) ?_
 refine RM rfl ?_
 refine RS (ok_extract rfl rfl) ?_
 refine RS (ok_extract rfl rfl) ?_
 refine RN ?_
 refine ⟨_, _, eff_alloc (n := 202) (d := 5) (k := 1000005) zero116 (by decide), fun b5 hb5 => ?_⟩
 have hBb5 := hb5.1
 refine TN 5 ?_
 refine RN ?_
 refine ⟨_, _, eff_alloc (n := 202) (d := 6) (k := 1000006) zero109 (by decide), fun b6 hb6 => ?_⟩
 have hBb6 := hb6.1
 have hlt_b2_b6 : b2 < b6 := hb6.2 1000002 _ _ _ rfl
 have hlt_b4_b6 : b4 < b6 := hb6.2 1000004 _ _ _ rfl
 refine TF 6 ?_
 refine RN ?_
 refine ⟨_, eff_storeA (n := 202) (s := 1000005) (size116.of (rfl)) rfl rfl (rfl) hBb5 rfl (rfl) (LO 1 rfl (LV 2 rfl (LV 4 rfl (LV 5 rfl (LV 6 rfl (LV 29 rfl (LT 1000002 rfl (LT 1000004 rfl (LT 1000006 rfl LN))))))))), ?_⟩
 refine TF 7 ?_
 refine RN ?_
 refine ⟨_, eff_storeA (n := 202) (s := 1000006) (size109.of (rfl)) rfl rfl (rfl) hBb6 rfl (rfl) (LO 1 rfl (LV 2 rfl (LV 4 rfl (LV 5 rfl (LB 1000002 rfl (LB 1000004 rfl (LT 1000005 rfl LN))))))), ?_⟩
 refine TL ?_
 refine RN ?_
 refine GS ?_
 refine TN 0 ?_
 refine RN ?_
 refine ⟨_, _, eff_alloc (n := 202) (d := 7) (k := 1000007) zero116 (by decide), fun b7 hb7 => ?_⟩
 have hBb7 := hb7.1
 have hlt_b5_b7 : b5 < b7 := hb7.2 1000005 _ _ _ rfl
 refine TL ?_
 refine RN ?_
 refine A.seq ?_
 refine GS ?_
 refine TL ?_
 refine RA rfl ?_
 refine RN ?_
 refine A.block ?_
 refine A.loop (ι := Nat) (fun j => j ≤ 64) (fun j => [(1, old w₀.heap.size (byt l)), (2, .v (.pointer (some ⟨b2, 0, none⟩))), (4, .v (.pointer (some ⟨b4, 0, none⟩))), (5, .v (.pointer (some ⟨b5, 0, none⟩))), (7, .v (.pointer (some ⟨b7, 0, none⟩))), (8, .v (.int .i64 ((j : Nat) : Int))), (1000002, blk b2 109 (h.list.map u32V)), (1000004, blk b4 109 (List.replicate 8 (.int .u32 0))), (1000005, blk b5 116 (K64.map u32V)), (1000007, blk b7 116 (table (sched l j) 64))]) (fun j => 64 - j) 0 ?_ ?_ ?_
 ·exact Nat.zero_le _
 ·exact (KC 1 rfl (KC 2 rfl (KC 4 rfl (KC 5 rfl (KC 7 rfl (KC 8 rfl (KC 1000002 rfl (KC 1000004 rfl (KC 1000005 rfl (KE 1000007 rfl (rfl) KN))))))))))
 intro j hj
 refine A.seq ?_
 refine GS ?_
 refine TL ?_
 refine RM rfl ?_
 refine RB rfl rfl rfl ?_
 refine RN ?_
 refine A.cond rfl (fun hc31 => ?_) (fun hc31 => ?_)
 ·have hlt : j < 64 := by simp at hc31; omega
  refine A.skip ?_
  refine EN ?_
  refine A.seq ?_
  refine A.block ?_
  refine A.seq ?_
  refine GS ?_
  refine TL ?_
  refine RM rfl ?_
  refine RB rfl rfl rfl ?_
  refine RN ?_
  refine A.cond rfl (fun hc35 => ?_) (fun hc35 => ?_)
  ·have hj16 : j < 16 := by simp at hc35; omega
   refine GS ?_
   refine TL ?_
   refine RM rfl ?_
   refine RM rfl ?_
   refine RBS rfl rfl rfl (.int .i64 ((4 * j : Nat) : Int)) (by rw [wrap_i64 (by omega) (by omega)]; first | rfl | (congr 1; omega)) ?_
   refine RM rfl ?_
   refine RBS rfl rfl rfl (.int .i64 ((4 * j : Nat) : Int)) (by rw [wrap_i64 (by omega) (by omega)]; first | rfl | (congr 1; omega)) ?_
   refine RBS rfl rfl rfl (.int .i64 ((4 * j + 4 : Nat) : Int)) (by rw [wrap_i64 (by omega) (by omega)]; first | rfl | (congr 1; omega)) ?_
   refine RS (ok_slice (4 * j) (4 * j + 4) Tryd.underlying91 info5 rfl (Le.old _ _) (.inl ⟨_, _, rfl, rfl⟩) (.inl ⟨_, _, rfl, rfl⟩) (by omega) (by simp; omega)) ?_
   refine RS (ok_call (refGet_fn ((l.drop (4 * j)).take 4) 4 (by decide) (by decide)) (Args.cons rfl ((Le.eq (by simp only [byt, List.map_take, List.map_drop, List.drop_take]; congr 2; omega))) (A1 rfl))) ?_
   refine RM rfl ?_
   refine RS (ok_extract rfl rfl) ?_
   refine RS (ok_extract rfl rfl) ?_
   refine RA rfl ?_
   refine RA rfl ?_
   refine RN ?_
   refine GS ?_
   refine TF 4 ?_
   refine RM rfl ?_
   refine RM rfl ?_
   refine RS (ok_conv Tryd.underlying28 Tryd.underlying68 rfl) ?_; refine RZ (u32V (nextW l (sched l j) j)) (by rw [nextW, if_pos hj16, word, u32V_ofNat, getV, if_pos (by simp; omega), wrap_u32_nat]) ?_
   refine RS (ok_index0 _ Tryd.underlying116 info68 rfl rfl (rfl) (by omega)) ?_
   refine RN ?_
   refine ⟨_, eff_storeS (n := 202) (s := 1000007) info68 rfl rfl rfl hBb7 rfl (by rw [table_length (by rw [sched_length]; omega)]; omega) (LO 1 rfl (LV 2 rfl (LV 4 rfl (LV 5 rfl (LV 7 rfl (LV 8 rfl (LT 1000002 rfl (LT 1000004 rfl (LB 1000005 rfl LN))))))))), ?_⟩
   refine TL ?_
   refine RN ?_
   refine A.exit ?_
   refine End.exit_then ?_
   refine End.exit_here ?_
   refine EN ?_
   refine GE ?_
   refine TL ?_
   refine RM rfl ?_
   refine RBS rfl rfl rfl (.int .i64 ((j + 1 : Nat) : Int)) (by rw [wrap_i64 (by omega) (by omega)]; first | rfl | (congr 1; omega)) ?_
   refine RA rfl ?_
   refine RN ?_
   refine End.sub (KC 1 rfl (KC 2 rfl (KC 4 rfl (KC 5 rfl (KC 7 rfl (KC 8 rfl (KC 1000002 rfl (KC 1000004 rfl (KC 1000005 rfl (KC 1000007 rfl KN)))))))))) ?_
   refine End.normal_then ?_
   refine End.again (j + 1) ?_ ?_ ?_
   ·show _ ≤ _; omega
   ·show _ - _ < _ - _; omega
   ·exact (KC 1 rfl (KC 2 rfl (KC 4 rfl (KC 5 rfl (KC 7 rfl (KC 8 rfl (KC 1000002 rfl (KC 1000004 rfl (KC 1000005 rfl (KE 1000007 rfl (by rw [table_set (sched_length l j) hlt]; rfl) KN))))))))))
  ·have hj16 : ¬ j < 16 := by simp at hc35; omega
   refine A.skip ?_
   refine EN ?_
   refine GD ?_
   refine TL ?_
   refine RM rfl ?_
   refine RBS rfl rfl rfl (.int .i64 ((j - 15 : Nat) : Int)) (by rw [wrap_i64 (by omega) (by omega)]; first | rfl | (congr 1; omega)) ?_
   refine RS (ok_index0 _ Tryd.underlying116 info68 rfl rfl (rfl) (by omega)) ?_
   refine RS (ok_loadV (s := 1000007) (by decide) Tryd.underlying68 rfl rfl rfl (table_get (by rw [sched_length]; omega))) ?_
   refine RM rfl ?_
   refine RBS rfl rfl rfl (.int .i64 ((j - 2 : Nat) : Int)) (by rw [wrap_i64 (by omega) (by omega)]; first | rfl | (congr 1; omega)) ?_
   refine RS (ok_index0 _ Tryd.underlying116 info68 rfl rfl (rfl) (by omega)) ?_
   refine RS (ok_loadV (s := 1000007) (by decide) Tryd.underlying68 rfl rfl rfl (table_get (by rw [sched_length]; omega))) ?_
   refine RA rfl ?_
   refine RA rfl ?_
   refine RN ?_
   refine A.reg (by kernel_rfl) (by kernel_rfl) (.inr (by kernel_rfl)) ?_
   refine TD 29 ?_
   refine RM rfl ?_
   refine RM rfl ?_
   refine RBS rfl rfl rfl (.int .i64 ((j - 16 : Nat) : Int)) (by rw [wrap_i64 (by omega) (by omega)]; first | rfl | (congr 1; omega)) ?_
   refine RS (ok_index0 _ Tryd.underlying116 info68 rfl rfl (rfl) (by omega)) ?_
   refine RS (ok_loadV (s := 1000007) (by decide) Tryd.underlying68 rfl rfl rfl (table_get (by rw [sched_length]; omega))) ?_
   refine RM rfl ?_
   refine RBS rfl rfl rfl (.int .i64 ((j - 7 : Nat) : Int)) (by rw [wrap_i64 (by omega) (by omega)]; first | rfl | (congr 1; omega)) ?_
   refine RS (ok_index0 _ Tryd.underlying116 info68 rfl rfl (rfl) (by omega)) ?_
   refine RS (ok_loadV (s := 1000007) (by decide) Tryd.underlying68 rfl rfl rfl (table_get (by rw [sched_length]; omega))) ?_
   refine RS (ok_add32 rfl rfl) ?_
   refine RM rfl ?_
   refine RS (ok_call (refrotr_fn _ 7 (by decide) (by decide)) (A2 rfl rfl)) ?_
   refine RM rfl ?_
   refine RS (ok_call (refrotr_fn _ 18 (by decide) (by decide)) (A2 rfl rfl)) ?_
   refine RS (ok_xor32 rfl rfl) ?_
   refine RM rfl ?_
   refine RS (ok_shr32 3 rfl rfl rfl (by decide)) ?_
   refine RS (ok_xor32 rfl rfl) ?_
   refine RS (ok_add32 rfl rfl) ?_
   refine RM rfl ?_
   refine RS (ok_call (refrotr_fn _ 17 (by decide) (by decide)) (A2 rfl rfl)) ?_
   refine RM rfl ?_
   refine RS (ok_call (refrotr_fn _ 19 (by decide) (by decide)) (A2 rfl rfl)) ?_
   refine RS (ok_xor32 rfl rfl) ?_
   refine RM rfl ?_
   refine RS (ok_shr32 10 rfl rfl rfl (by decide)) ?_
   refine RS (ok_xor32 rfl rfl) ?_
   refine RS (ok_add32 rfl rfl) ?_; refine RZ (u32V (nextW l (sched l j) j)) (by rw [nextW, if_neg hj16]; rfl) ?_
   refine RS (ok_index0 _ Tryd.underlying116 info68 rfl rfl (rfl) (by omega)) ?_
   refine RN ?_
   refine ⟨_, eff_storeS (n := 202) (s := 1000007) info68 rfl rfl rfl hBb7 rfl (by rw [table_length (by rw [sched_length]; omega)]; omega) (LO 1 rfl (LV 2 rfl (LV 4 rfl (LV 5 rfl (LV 7 rfl (LV 8 rfl (LT 1000002 rfl (LT 1000004 rfl (LB 1000005 rfl LN))))))))), ?_⟩
   refine TL ?_
   refine RN ?_
   refine End.sub (KC 1 rfl (KC 2 rfl (KC 4 rfl (KC 5 rfl (KC 7 rfl (KC 8 rfl (KC 1000002 rfl (KC 1000004 rfl (KC 1000005 rfl (KC 1000007 rfl KN)))))))))) ?_
   refine End.normal_block ?_
   refine EN ?_
   refine GE ?_
   refine TL ?_
   refine RM rfl ?_
   refine RBS rfl rfl rfl (.int .i64 ((j + 1 : Nat) : Int)) (by rw [wrap_i64 (by omega) (by omega)]; first | rfl | (congr 1; omega)) ?_
   refine RA rfl ?_
   refine RN ?_
   refine End.normal_then ?_
   refine End.again (j + 1) ?_ ?_ ?_
   ·show _ ≤ _; omega
   ·show _ - _ < _ - _; omega
   ·exact (KC 1 rfl (KC 2 rfl (KC 4 rfl (KC 5 rfl (KC 7 rfl (KC 8 rfl (KC 1000002 rfl (KC 1000004 rfl (KC 1000005 rfl (KE 1000007 rfl (by rw [table_set (sched_length l j) hlt]; rfl) KN))))))))))
 ·obtain rfl : j = 64 := by simp at hc31; omega
  refine A.exit ?_
  refine End.exit_then ?_
  refine End.exit_then ?_
  refine End.exit_here ?_
  refine EN ?_
  refine GD ?_
  refine TL ?_
  refine RS (ok_index0 (0) Tryd.underlying109 info68 rfl rfl (rfl) (by decide)) ?_
  refine RS (ok_loadV (s := 1000002) (by decide) Tryd.underlying68 rfl rfl rfl (rfl)) ?_
  refine RS (ok_index0 (1) Tryd.underlying109 info68 rfl rfl (rfl) (by decide)) ?_
  refine RS (ok_loadV (s := 1000002) (by decide) Tryd.underlying68 rfl rfl rfl (rfl)) ?_
  refine RS (ok_index0 (2) Tryd.underlying109 info68 rfl rfl (rfl) (by decide)) ?_
  refine RS (ok_loadV (s := 1000002) (by decide) Tryd.underlying68 rfl rfl rfl (rfl)) ?_
  refine RS (ok_index0 (3) Tryd.underlying109 info68 rfl rfl (rfl) (by decide)) ?_
  refine RS (ok_loadV (s := 1000002) (by decide) Tryd.underlying68 rfl rfl rfl (rfl)) ?_
  refine RS (ok_index0 (4) Tryd.underlying109 info68 rfl rfl (rfl) (by decide)) ?_
  refine RS (ok_loadV (s := 1000002) (by decide) Tryd.underlying68 rfl rfl rfl (rfl)) ?_
  refine RS (ok_index0 (5) Tryd.underlying109 info68 rfl rfl (rfl) (by decide)) ?_
  refine RS (ok_loadV (s := 1000002) (by decide) Tryd.underlying68 rfl rfl rfl (rfl)) ?_
  refine RS (ok_index0 (6) Tryd.underlying109 info68 rfl rfl (rfl) (by decide)) ?_
  refine RS (ok_loadV (s := 1000002) (by decide) Tryd.underlying68 rfl rfl rfl (rfl)) ?_
  refine RS (ok_index0 (7) Tryd.underlying109 info68 rfl rfl (rfl) (by decide)) ?_
  refine RS (ok_loadV (s := 1000002) (by decide) Tryd.underlying68 rfl rfl rfl (rfl)) ?_
  refine RA rfl ?_
  refine RA rfl ?_
  refine RA rfl ?_
  refine RA rfl ?_
  refine RA rfl ?_
  refine RA rfl ?_
  refine RA rfl ?_
  refine RA rfl ?_
  refine RN ?_
  refine A.sub (KC 2 rfl (KC 4 rfl (KC 5 rfl (KC 7 rfl (KC 13 rfl (KC 14 rfl (KC 15 rfl (KC 16 rfl (KC 17 rfl (KC 18 rfl (KC 19 rfl (KC 20 rfl (KC 1000002 rfl (KC 1000004 rfl (KC 1000005 rfl (KC 1000007 rfl KN)))))))))))))))) ?_
  refine A.seq ?_
  refine GS ?_
  refine TL ?_
  refine RA rfl ?_
  refine RN ?_
  refine A.block ?_
  refine A.loop (ι := Nat) (fun i => i ≤ 64) (fun i => [(2, .v (.pointer (some ⟨b2, 0, none⟩))), (4, .v (.pointer (some ⟨b4, 0, none⟩))), (5, .v (.pointer (some ⟨b5, 0, none⟩))), (7, .v (.pointer (some ⟨b7, 0, none⟩))), (13, .v (u32V (rounds h K64 (sched l 64) i).a)), (14, .v (u32V (rounds h K64 (sched l 64) i).b)), (15, .v (u32V (rounds h K64 (sched l 64) i).c)), (16, .v (u32V (rounds h K64 (sched l 64) i).d)), (17, .v (u32V (rounds h K64 (sched l 64) i).e)), (18, .v (u32V (rounds h K64 (sched l 64) i).f)), (19, .v (u32V (rounds h K64 (sched l 64) i).g)), (20, .v (u32V (rounds h K64 (sched l 64) i).h)), (21, .v (.int .i64 ((i : Nat) : Int))), (1000002, blk b2 109 (h.list.map u32V)), (1000004, blk b4 109 (List.replicate 8 (.int .u32 0))), (1000005, blk b5 116 (K64.map u32V)), (1000007, blk b7 116 (table (sched l 64) 64))]) (fun i => 64 - i) 0 ?_ ?_ ?_
  ·exact Nat.zero_le _
  ·exact (KC 2 rfl (KC 4 rfl (KC 5 rfl (KC 7 rfl (KC 13 rfl (KC 14 rfl (KC 15 rfl (KC 16 rfl (KC 17 rfl (KC 18 rfl (KC 19 rfl (KC 20 rfl (KC 21 rfl (KC 1000002 rfl (KC 1000004 rfl (KC 1000005 rfl (KC 1000007 rfl KN)))))))))))))))))
  intro i hi
  refine A.seq ?_
  refine GS ?_
  refine TL ?_
  refine RM rfl ?_
  refine RB rfl rfl rfl ?_
  refine RN ?_
  refine A.cond rfl (fun hc105 => ?_) (fun hc105 => ?_)
  ·have hlt : i < 64 := by simp at hc105; omega
   refine A.skip ?_
   refine EN ?_
   refine A.seq ?_
   refine A.block ?_
   refine GS ?_
   refine TL ?_
   refine RM rfl ?_
   refine RM rfl ?_
   refine RS (ok_and32 rfl rfl) ?_
   refine RM rfl ?_
   refine RS (ok_not32 rfl) ?_
   refine RM rfl ?_
   refine RS (ok_and32 rfl rfl) ?_
   refine RS (ok_or32 rfl rfl) ?_; refine RZ (u32V (choice (rounds h K64 (sched l 64) i).e (rounds h K64 (sched l 64) i).f (rounds h K64 (sched l 64) i).g)) (by rw [choice_or]) ?_
   refine RA rfl ?_
   refine RN ?_
   refine GS ?_
   refine TL ?_
   refine RM rfl ?_
   refine RM rfl ?_
   refine RS (ok_and32 rfl rfl) ?_
   refine RM rfl ?_
   refine RM rfl ?_
   refine RS (ok_and32 rfl rfl) ?_
   refine RS (ok_or32 rfl rfl) ?_
   refine RM rfl ?_
   refine RM rfl ?_
   refine RS (ok_and32 rfl rfl) ?_
   refine RS (ok_or32 rfl rfl) ?_; refine RZ (u32V (most (rounds h K64 (sched l 64) i).a (rounds h K64 (sched l 64) i).b (rounds h K64 (sched l 64) i).c)) (by rw [most_or]) ?_
   refine RA rfl ?_
   refine RN ?_
   refine GD ?_
   refine TL ?_
   refine RM rfl ?_
   refine RM rfl ?_
   refine RS (ok_call (refrotr_fn _ 6 (by decide) (by decide)) (A2 rfl rfl)) ?_
   refine RM rfl ?_
   refine RS (ok_call (refrotr_fn _ 11 (by decide) (by decide)) (A2 rfl rfl)) ?_
   refine RS (ok_xor32 rfl rfl) ?_
   refine RM rfl ?_
   refine RS (ok_call (refrotr_fn _ 25 (by decide) (by decide)) (A2 rfl rfl)) ?_
   refine RS (ok_xor32 rfl rfl) ?_
   refine RS (ok_add32 rfl rfl) ?_
   refine RM rfl ?_
   refine RS (ok_add32 rfl rfl) ?_
   refine RM rfl ?_
   refine RS (ok_index0 _ Tryd.underlying116 info68 rfl rfl (rfl) (by omega)) ?_
   refine RS (ok_loadV (s := 1000005) (by decide) Tryd.underlying68 rfl rfl rfl (map_get32 (by rw [K64_lit]; omega))) ?_
   refine RS (ok_add32 rfl rfl) ?_
   refine RM rfl ?_
   refine RS (ok_index0 _ Tryd.underlying116 info68 rfl rfl (rfl) (by omega)) ?_
   refine RS (ok_loadV (s := 1000007) (by decide) Tryd.underlying68 rfl rfl rfl (table_get (by rw [sched_length]; omega))) ?_
   refine RS (ok_add32 rfl rfl) ?_
   refine RA rfl ?_
   refine RN ?_
   refine A.sub (KC 2 rfl (KC 4 rfl (KC 5 rfl (KC 7 rfl (KC 13 rfl (KC 14 rfl (KC 15 rfl (KC 16 rfl (KC 17 rfl (KC 18 rfl (KC 19 rfl (KC 21 rfl (KC 23 rfl (KC 24 rfl (KC 1000002 rfl (KC 1000004 rfl (KC 1000005 rfl (KC 1000007 rfl KN)))))))))))))))))) ?_
   refine GS ?_
   refine TL ?_
   refine RM rfl ?_
   refine RS (ok_call (refrotr_fn _ 2 (by decide) (by decide)) (A2 rfl rfl)) ?_
   refine RM rfl ?_
   refine RS (ok_call (refrotr_fn _ 13 (by decide) (by decide)) (A2 rfl rfl)) ?_
   refine RS (ok_xor32 rfl rfl) ?_
   refine RM rfl ?_
   refine RS (ok_call (refrotr_fn _ 22 (by decide) (by decide)) (A2 rfl rfl)) ?_
   refine RS (ok_xor32 rfl rfl) ?_
   refine RM rfl ?_
   refine RS (ok_add32 rfl rfl) ?_
   refine RA rfl ?_
   refine RN ?_
   refine GE ?_
   refine TL ?_
   refine RM rfl ?_
   refine RM rfl ?_
   refine RM rfl ?_
   refine RM rfl ?_
   refine RM rfl ?_
   refine RS (ok_add32 rfl rfl) ?_
   refine RM rfl ?_
   refine RM rfl ?_
   refine RM rfl ?_
   refine RM rfl ?_
   refine RM rfl ?_
   refine RS (ok_add32 rfl rfl) ?_
   refine RA rfl ?_
   refine RA rfl ?_
   refine RA rfl ?_
   refine RA rfl ?_
   refine RA rfl ?_
   refine RA rfl ?_
   refine RA rfl ?_
   refine RA rfl ?_
   refine RN ?_
   refine End.sub (KC 2 rfl (KC 4 rfl (KC 5 rfl (KC 7 rfl (KC 13 rfl (KC 14 rfl (KC 15 rfl (KC 16 rfl (KC 17 rfl (KC 18 rfl (KC 19 rfl (KC 20 rfl (KC 21 rfl (KC 1000002 rfl (KC 1000004 rfl (KC 1000005 rfl (KC 1000007 rfl KN))))))))))))))))) ?_
   refine End.normal_block ?_
   refine EN ?_
   refine GE ?_
   refine TL ?_
   refine RM rfl ?_
   refine RBS rfl rfl rfl (.int .i64 ((i + 1 : Nat) : Int)) (by rw [wrap_i64 (by omega) (by omega)]; first | rfl | (congr 1; omega)) ?_
   refine RA rfl ?_
   refine RN ?_
   refine End.normal_then ?_
   refine End.again (i + 1) ?_ ?_ ?_
   ·show _ ≤ _; omega
   ·show _ - _ < _ - _; omega
   ·exact (KC 2 rfl (KC 4 rfl (KC 5 rfl (KC 7 rfl (KC 13 rfl (KC 14 rfl (KC 15 rfl (KC 16 rfl (KC 17 rfl (KC 18 rfl (KC 19 rfl (KC 20 rfl (KC 21 rfl (KC 1000002 rfl (KC 1000004 rfl (KC 1000005 rfl (KC 1000007 rfl KN)))))))))))))))))
  ·obtain rfl : i = 64 := by simp at hc105; omega
   refine A.exit ?_
   refine End.exit_then ?_
   refine End.exit_then ?_
   refine End.exit_here ?_
   refine EN ?_
   refine GS ?_
   refine TF 33 ?_
   refine RS (ok_index0 (0) Tryd.underlying109 info68 rfl rfl (rfl) (by decide)) ?_
   refine RS (ok_loadV (s := 1000002) (by decide) Tryd.underlying68 rfl rfl rfl (rfl)) ?_
   refine RM rfl ?_
   refine RS (ok_add32 rfl rfl) ?_
   refine RS (ok_index0 (1) Tryd.underlying109 info68 rfl rfl (rfl) (by decide)) ?_
   refine RS (ok_loadV (s := 1000002) (by decide) Tryd.underlying68 rfl rfl rfl (rfl)) ?_
   refine RM rfl ?_
   refine RS (ok_add32 rfl rfl) ?_
   refine RS (ok_index0 (2) Tryd.underlying109 info68 rfl rfl (rfl) (by decide)) ?_
   refine RS (ok_loadV (s := 1000002) (by decide) Tryd.underlying68 rfl rfl rfl (rfl)) ?_
   refine RM rfl ?_
   refine RS (ok_add32 rfl rfl) ?_
   refine RS (ok_index0 (3) Tryd.underlying109 info68 rfl rfl (rfl) (by decide)) ?_
   refine RS (ok_loadV (s := 1000002) (by decide) Tryd.underlying68 rfl rfl rfl (rfl)) ?_
   refine RM rfl ?_
   refine RS (ok_add32 rfl rfl) ?_
   refine RS (ok_index0 (4) Tryd.underlying109 info68 rfl rfl (rfl) (by decide)) ?_
   refine RS (ok_loadV (s := 1000002) (by decide) Tryd.underlying68 rfl rfl rfl (rfl)) ?_
   refine RM rfl ?_
   refine RS (ok_add32 rfl rfl) ?_
   refine RS (ok_index0 (5) Tryd.underlying109 info68 rfl rfl (rfl) (by decide)) ?_
   refine RS (ok_loadV (s := 1000002) (by decide) Tryd.underlying68 rfl rfl rfl (rfl)) ?_
   refine RM rfl ?_
   refine RS (ok_add32 rfl rfl) ?_
   refine RS (ok_index0 (6) Tryd.underlying109 info68 rfl rfl (rfl) (by decide)) ?_
   refine RS (ok_loadV (s := 1000002) (by decide) Tryd.underlying68 rfl rfl rfl (rfl)) ?_
   refine RM rfl ?_
   refine RS (ok_add32 rfl rfl) ?_
   refine RS (ok_index0 (7) Tryd.underlying109 info68 rfl rfl (rfl) (by decide)) ?_
   refine RS (ok_loadV (s := 1000002) (by decide) Tryd.underlying68 rfl rfl rfl (rfl)) ?_
   refine RM rfl ?_
   refine RS (ok_add32 rfl rfl) ?_
   refine RS (ok_litA [_, _, _, _, _, _, _, _] Tryd.underlying109 info68 zero109 rfl ⟨rfl, rfl, rfl, rfl, rfl, rfl, rfl, rfl, rfl, rfl, rfl, rfl, rfl, rfl, rfl, rfl, trivial⟩ rfl) ?_; refine RZ (aggV ((compress h l).list.map u32V)) (by rw [compress, R8.add_list]) ?_
   refine RN ?_
   refine ⟨_, eff_storeA (n := 202) (s := 1000004) (size109.of (R8.size _)) rfl rfl (all_u32 _) hBb4 rfl ((R8.size _).symm) (LV 4 rfl (LB 1000002 rfl (LT 1000005 rfl (LT 1000007 rfl LN)))), ?_⟩
   refine TL ?_
   refine RN ?_
   refine A.sub (KC 4 rfl (KC 1000002 rfl (KC 1000004 rfl (KC 1000005 rfl (KC 1000007 rfl KN))))) ?_
   refine A.ret ?_
   exact End.cell1 (s := 1000004) rfl Tryd.underlying109 rfl (size109.of (R8.size _)) rfl rfl (Le.refl _)
end Go.Proofs.YtfjpipkcfbmdeaaDoor
namespace Go.Proofs.YtfjpipkcfbmdeaaDoor
open Go Go.RowKit
set_option linter.unusedVariables false
set_option maxRecDepth 20000

set_option maxHeartbeats 400000 in
theorem refSum_fn (l : List UInt8) (hl : l.length ≤ 1000000) : Fn Tryd.prog 39 [byt l] (.v (aggV ((sha l).map byteV))) := by
 have hpl := padded_length l
 have hpm := padded_mod l
 refine Fn.of Tryd.func39 rfl (by kernel_rfl) Tryd.ntmps39 (by simp) (fun w => [(0, old w.heap.size (byt l))]) (fun w => (Start.old rfl Start.nil)) fun w₀ => ?_
 refine GS ?_
 refine TN 0 ?_
 refine RN ?_
 refine ⟨_, _, eff_alloc (n := 69) (d := 2) (k := 1000002) zero27 (by decide), fun b2 hb2 => ?_⟩
 have hBb2 := hb2.1
 refine TL ?_
 refine RN ?_
 refine GS ?_
 refine TF 2 ?_
 refine RS (ok_build0own Tryd.underlying91 info5) ?_
 refine RM rfl ?_
 refine RN ?_
 refine ⟨_, eff_appendS (vs := l.map byteV) Tryd.underlying91 info5 (by decide) rfl rfl rfl ((Le.old _ _).trans (Le.eq (byt_vals l))) (by simp [byteV, Value.oneCell']) (by simp; omega) (by decide) (fun g hg => (LO 0 rfl (LV 2 rfl (LT 1000002 rfl LN)))), ?_⟩
 refine TF 4 ?_
 refine RS (ok_build [byteD 128] Tryd.underlying91 info5 rfl (by decide) (by decide) rfl ⟨rfl, rfl, trivial⟩ (fun d hd w x h => by simp only [List.mem_cons, List.not_mem_nil, or_false] at hd; rcases hd with rfl; exact v_one rfl h)) ?_
 refine RN ?_
 refine ⟨_, eff_appendS (vs := [byteV 128]) Tryd.underlying91 info5 (by decide) rfl rfl rfl (le_lst _ _) (by simp [byteV, Value.oneCell']) (by simp; omega) (by decide) (fun g hg => (LO 0 rfl (LV 2 rfl (LT 1000002 rfl LN)))), ?_⟩
 refine TL ?_
 refine RA rfl ?_
 refine RN ?_
 refine A.seq ?_
 refine A.block ?_
 refine A.loop (ι := Nat) (fun z => z ≤ ((119 - l.length % 64) % 64)) (fun z => [(0, old w₀.heap.size (byt l)), (2, .v (.pointer (some ⟨b2, 0, none⟩))), (3, own w₀.heap.size 5 (l.length + 1 + z) ((l ++ 128 :: List.replicate z 0).map byteV)), (1000002, blk b2 27 (List.replicate 32 (.int .u8 0)))]) (fun z => ((119 - l.length % 64) % 64) - z) 0 ?_ ?_ ?_
 ·exact Nat.zero_le _
 ·exact (KC 0 rfl (KC 2 rfl (KE 3 rfl (by simp) (KC 1000002 rfl KN))))
 intro z hz
 refine A.seq ?_
 refine GS ?_
 refine TL ?_
 refine RM rfl ?_
 refine RS (ok_lenB Tryd.underlying91 rfl (own_byt (by simp; omega))) ?_; refine RZ (.int .i64 ((l.length + 1 + z : Nat) : Int)) (by congr 2; simp; omega) ?_
 refine RS (ok_rem rfl rfl (by decide)) ?_; refine RZ (.int .i64 (((l.length + 1 + z) % 64 : Nat) : Int)) (by rw [tmod_lit _ (by decide)]; rfl) ?_
 refine RB rfl rfl rfl ?_
 refine RN ?_
 refine A.cond rfl (fun hc19 => ?_) (fun hc19 => ?_)
 ·have hzl : z < ((119 - l.length % 64) % 64) := by simp at hc19; omega
  refine A.skip ?_
  refine EN ?_
  refine A.block ?_
  refine GE ?_
  refine TF 2 ?_
  refine RM rfl ?_
  refine RS (ok_build [byteD 0] Tryd.underlying91 info5 rfl (by decide) (by decide) rfl ⟨rfl, rfl, trivial⟩ (fun d hd w x h => by simp only [List.mem_cons, List.not_mem_nil, or_false] at hd; rcases hd with rfl; exact v_one rfl h)) ?_
  refine RN ?_
  refine ⟨_, eff_appendS (vs := [byteV 0]) Tryd.underlying91 info5 (by decide) rfl rfl rfl (le_lst _ _) (by simp [byteV, Value.oneCell']) (by simp; omega) (by decide) (fun g hg => (LO 0 rfl (LV 2 rfl (LT 1000002 rfl LN)))), ?_⟩
  refine TL ?_
  refine RA rfl ?_
  refine RN ?_
  refine End.normal_block ?_
  refine End.normal_then ?_
  refine End.again (z + 1) ?_ ?_ ?_
  ·show _ ≤ _; omega
  ·show _ - _ < _ - _; omega
  ·exact (KC 0 rfl (KC 2 rfl (KE 3 rfl (by rw [List.replicate_succ']; simp [Nat.add_assoc]) (KC 1000002 rfl KN))))
 ·obtain rfl : z = ((119 - l.length % 64) % 64) := by simp at hc19; omega
  refine A.exit ?_
  refine End.exit_then ?_
  refine End.exit_then ?_
  refine End.exit_here ?_
  refine EN ?_
  refine GS ?_
  refine TF 6 ?_
  refine RM rfl ?_
  refine RM rfl ?_
  refine RS (ok_lenB Tryd.underlying91 rfl (Le.old _ _)) ?_
  refine RS (ok_conv Tryd.underlying3 Tryd.underlying28 rfl) ?_; refine RZ (.int .u64 ((l.length : Nat) : Int)) (by rw [wrapN_u64 (by omega)]) ?_
  refine RBS rfl rfl rfl (.int .u64 ((8 * l.length : Nat) : Int)) (by rw [wrap_u64 (by omega) (by omega)]; congr 1) ?_
  refine RS (ok_call (refPut64_fn ((8 * l.length : Nat) : Int) (by omega) (by omega)) (A1 rfl)) ?_
  refine RN ?_
  refine ⟨_, eff_appendS (vs := (be 8 (8 * l.length)).map byteV) Tryd.underlying91 info5 (by decide) rfl rfl rfl ((le_byt _ _).trans (Le.eq (byt_vals _))) (by simp [byteV, Value.oneCell']) (by simp [be_length]; omega) (by decide) (fun g hg => (LV 2 rfl (LT 1000002 rfl LN))), ?_⟩
  refine TL ?_
  refine RA rfl ?_
  refine RN ?_
  refine GS ?_
  refine TN 4 ?_
  refine RS (ok_call refConstants_fn Args.nil) ?_
  refine RM rfl ?_
  refine RS (ok_extract rfl rfl) ?_
  refine RS (ok_extract rfl rfl) ?_
  refine RN ?_
  refine ⟨_, _, eff_alloc (n := 69) (d := 4) (k := 1000004) zero116 (by decide), fun b4 hb4 => ?_⟩
  have hBb4 := hb4.1
  refine TN 5 ?_
  refine RN ?_
  refine ⟨_, _, eff_alloc (n := 69) (d := 5) (k := 1000005) zero109 (by decide), fun b5 hb5 => ?_⟩
  have hBb5 := hb5.1
  refine TF 6 ?_
  refine RN ?_
  refine ⟨_, eff_storeA (n := 69) (s := 1000004) (size116.of (rfl)) rfl rfl (rfl) hBb4 rfl (rfl) (LV 2 rfl (LeftS.cons (t := 3) rfl (Surv.own (by decide)) (LV 5 rfl (LV 33 rfl (LT 1000002 rfl (LT 1000005 rfl LN)))))), ?_⟩
  refine TF 7 ?_
  refine RN ?_
  refine ⟨_, eff_storeA (n := 69) (s := 1000005) (size109.of (R8.size _)) rfl rfl (all_u32 _) hBb5 rfl (by first | exact (R8.size _).trans (R8.size _).symm | rfl) (LV 2 rfl (LeftS.cons (t := 3) rfl (Surv.own (by decide)) (LV 5 rfl (LT 1000002 rfl (LT 1000004 rfl LN))))), ?_⟩
  refine TL ?_
  refine RN ?_
  refine A.seq ?_
  refine GS ?_
  refine TL ?_
  refine RA rfl ?_
  refine RN ?_
  refine A.block ?_
  refine A.loop (ι := Nat) (fun k => k ≤ ((padded l).length / 64)) (fun k => [(2, .v (.pointer (some ⟨b2, 0, none⟩))), (3, own w₀.heap.size 5 ((padded l).length) ((padded l).map byteV)), (5, .v (.pointer (some ⟨b5, 0, none⟩))), (6, .v (.int .i64 ((64 * k : Nat) : Int))), (1000002, blk b2 27 (List.replicate 32 (.int .u8 0))), (1000005, blk b5 109 ((chain H8 (padded l) k).list.map u32V))]) (fun k => ((padded l).length / 64) - k) 0 ?_ ?_ ?_
  ·exact Nat.zero_le _
  ·exact (KC 2 rfl (KE 3 rfl (by rw [hpl]; simp [padded, be_length, Nat.add_assoc]) (KC 5 rfl (KC 6 rfl (KC 1000002 rfl (KC 1000005 rfl KN))))))
  intro k hk
  refine A.seq ?_
  refine GS ?_
  refine TL ?_
  refine RM rfl ?_
  refine RM rfl ?_
  refine RS (ok_lenB Tryd.underlying91 rfl (own_byt rfl)) ?_
  refine RB rfl rfl rfl ?_
  refine RN ?_
  refine A.cond rfl (fun hc37 => ?_) (fun hc37 => ?_)
  ·have hlt : 64 * k < (padded l).length := by simp at hc37; omega
   have hk1 : k < ((padded l).length / 64) := by omega
   refine A.skip ?_
   refine EN ?_
   refine A.seq ?_
   refine A.block ?_
   refine A.reg (by kernel_rfl) (by kernel_rfl) (.inr (by kernel_rfl)) ?_
   refine TD 7 ?_
   refine RS (ok_loadA (s := 1000005) (by decide) Tryd.underlying109 rfl (size109.of (R8.size _)) rfl rfl) ?_
   refine RM rfl ?_
   refine RM rfl ?_
   refine RM rfl ?_
   refine RBS rfl rfl rfl (.int .i64 ((64 * k + 64 : Nat) : Int)) (by rw [wrap_i64 (by omega) (by omega)]; first | rfl | (congr 1; omega)) ?_
   refine RS (ok_slice (64 * k) (64 * k + 64) Tryd.underlying91 info5 rfl (own_byt rfl) (.inl ⟨_, _, rfl, rfl⟩) (.inl ⟨_, _, rfl, rfl⟩) (by omega) (by simp; omega)) ?_
   refine RS (ok_call (refCompress_fn (chain H8 (padded l) k) (((padded l).drop (64 * k)).take 64) (by simp; omega)) (Args.cons rfl (Le.refl _) (Args.cons rfl (Le.eq (by simp only [byt, List.map_take, List.map_drop, List.drop_take]; congr 2; omega)) Args.nil))) ?_; refine RZ (aggV ((chain H8 (padded l) (k + 1)).list.map u32V)) (rfl) ?_
   refine RN ?_
   refine ⟨_, eff_storeA (n := 69) (s := 1000005) (size109.of (R8.size _)) rfl rfl (all_u32 _) hBb5 rfl (by first | exact (R8.size _).trans (R8.size _).symm | rfl) (LV 2 rfl (LeftS.cons (t := 3) rfl (Surv.own (by decide)) (LV 5 rfl (LV 6 rfl (LT 1000002 rfl LN))))), ?_⟩
   refine TL ?_
   refine RN ?_
   refine End.normal_block ?_
   refine EN ?_
   refine GE ?_
   refine TL ?_
   refine RM rfl ?_
   refine RBS rfl rfl rfl (.int .i64 ((64 * (k + 1) : Nat) : Int)) (by rw [wrap_i64 (by omega) (by omega)]; first | rfl | (congr 1; omega)) ?_
   refine RA rfl ?_
   refine RN ?_
   refine End.normal_then ?_
   refine End.again (k + 1) ?_ ?_ ?_
   ·show _ ≤ _; omega
   ·show _ - _ < _ - _; omega
   ·exact (KC 2 rfl (KC 3 rfl (KC 5 rfl (KC 6 rfl (KC 1000002 rfl (KC 1000005 rfl KN))))))
  ·obtain rfl : k = ((padded l).length / 64) := by simp at hc37; omega
   refine A.exit ?_
   refine End.exit_then ?_
   refine End.exit_then ?_
   refine End.exit_here ?_
   refine EN ?_
   refine GS ?_
   refine TN 0 ?_
   refine RN ?_
   refine ⟨_, _, eff_alloc (n := 69) (d := 7) (k := 1000007) zero27 (by decide), fun b7 hb7 => ?_⟩
   have hBb7 := hb7.1
   have hlt_b2_b7 : b2 < b7 := hb7.2 1000002 _ _ _ rfl
   refine TL ?_
   refine RN ?_
   refine A.seq ?_
   refine GS ?_
   refine TL ?_
   refine RA rfl ?_
   refine RN ?_
   refine A.block ?_
   refine A.loop (ι := Nat) (fun i => i ≤ 8) (fun i => [(2, .v (.pointer (some ⟨b2, 0, none⟩))), (5, .v (.pointer (some ⟨b5, 0, none⟩))), (7, .v (.pointer (some ⟨b7, 0, none⟩))), (8, .v (.int .i64 ((i : Nat) : Int))), (1000002, blk b2 27 (List.replicate 32 (.int .u8 0))), (1000005, blk b5 109 ((shaR l).list.map u32V)), (1000007, blk b7 27 (tableB ((sha l).take (4 * i)) 32))]) (fun i => 8 - i) 0 ?_ ?_ ?_
   ·exact Nat.zero_le _
   ·exact (KC 2 rfl (KC 5 rfl (KC 7 rfl (KC 8 rfl (KC 1000002 rfl (KC 1000005 rfl (KE 1000007 rfl (by rw [Nat.mul_zero, List.take_zero, ← tableB_nil]) KN)))))))
   intro i hi
   refine A.seq ?_
   refine GS ?_
   refine TL ?_
   refine RM rfl ?_
   refine RB rfl rfl rfl ?_
   refine RN ?_
   refine A.cond rfl (fun hc48 => ?_) (fun hc48 => ?_)
   ·have hi8 : i < 8 := by simp at hc48; omega
    refine A.skip ?_
    refine EN ?_
    refine A.seq ?_
    refine A.block ?_
    refine GS ?_
    refine TL ?_
    refine RM rfl ?_
    refine RS (ok_index0 _ Tryd.underlying109 info68 rfl rfl (rfl) (by omega)) ?_
    refine RS (ok_loadV (s := 1000005) (by decide) Tryd.underlying68 rfl rfl rfl (map_get32 (by show i < 8; omega))) ?_
    refine RS (ok_callB (refPut32_fnB ((((shaR l).list.getD i 0).toNat : Nat) : Int) (Int.natCast_nonneg _) (by have := u32_lt ((shaR l).list.getD i 0); omega)) (fun _ _ => fresh_mono _ _) (A1 rfl)) ?_
    refine RA rfl ?_
    refine RN ?_
    refine GS ?_
    refine TL ?_
    refine RA rfl ?_
    refine RN ?_
    refine A.block ?_
    refine A.loop (ι := Nat) (fun k => k ≤ 4) (fun k => [(2, .v (.pointer (some ⟨b2, 0, none⟩))), (5, .v (.pointer (some ⟨b5, 0, none⟩))), (7, .v (.pointer (some ⟨b7, 0, none⟩))), (8, .v (.int .i64 ((i : Nat) : Int))), (9, fresh w₀.heap.size 5 ((be 4 ((shaR l).list.getD i 0).toNat).map byteV) 4), (10, .v (.int .i64 ((k : Nat) : Int))), (1000002, blk b2 27 (List.replicate 32 (.int .u8 0))), (1000005, blk b5 109 ((shaR l).list.map u32V)), (1000007, blk b7 27 (tableB ((sha l).take (4 * i + k)) 32))]) (fun k => 4 - k) 0 ?_ ?_ ?_
    ·exact Nat.zero_le _
    ·exact (KC 2 rfl (KC 5 rfl (KC 7 rfl (KC 8 rfl (KC 9 rfl (KC 10 rfl (KC 1000002 rfl (KC 1000005 rfl (KC 1000007 rfl KN)))))))))
    intro k hk
    refine A.seq ?_
    refine GS ?_
    refine TL ?_
    refine RM rfl ?_
    refine RB rfl rfl rfl ?_
    refine RN ?_
    refine A.cond rfl (fun hc56 => ?_) (fun hc56 => ?_)
    ·have hk4 : k < 4 := by simp at hc56; omega
     refine A.skip ?_
     refine EN ?_
     refine A.seq ?_
     refine A.block ?_
     refine GE ?_
     refine TF 9 ?_
     refine RM rfl ?_
     refine RBS rfl rfl rfl (.int .i64 ((4 * i : Nat) : Int)) (by rw [wrap_i64 (by omega) (by omega)]; first | rfl | (congr 1; omega)) ?_
     refine RM rfl ?_
     refine RBS rfl rfl rfl (.int .i64 ((4 * i + k : Nat) : Int)) (by rw [wrap_i64 (by omega) (by omega)]; first | rfl | (congr 1; omega)) ?_
     refine RM rfl ?_
     refine RM rfl ?_
     refine RS (ok_index (d := byteD ((sha l).getD (4 * i + k) 0)) Tryd.underlying91 info5 rfl ((fresh_bytes (l := be 4 ((shaR l).list.getD i 0).toNat) (by rw [be_length]) (by decide)).trans (le_byt _ _)) rfl (by omega) (by rw [Int.toNat_natCast, List.getElem?_map, sha_get l (by omega) (by omega)]; rfl)) ?_
     refine RS (ok_load Tryd.underlying5 rfl rfl) ?_
     refine RS (ok_index0 _ Tryd.underlying27 info5 rfl rfl (rfl) (by omega)) ?_
     refine RN ?_
     refine ⟨_, eff_storeS (n := 69) (s := 1000007) info5 rfl rfl rfl hBb7 rfl (by rw [tableB_length (by simp [sha_length]; omega)]; omega) (LV 2 rfl (LV 5 rfl (LV 7 rfl (LV 8 rfl (LeftS.cons (t := 9) rfl (Surv.fresh (by decide)) (LV 10 rfl (LB 1000002 rfl (LT 1000005 rfl LN)))))))), ?_⟩
     refine TL ?_
     refine RN ?_
     refine End.normal_block ?_
     refine EN ?_
     refine GE ?_
     refine TL ?_
     refine RM rfl ?_
     refine RBS rfl rfl rfl (.int .i64 ((k + 1 : Nat) : Int)) (by rw [wrap_i64 (by omega) (by omega)]; first | rfl | (congr 1; omega)) ?_
     refine RA rfl ?_
     refine RN ?_
     refine End.normal_then ?_
     refine End.again (k + 1) ?_ ?_ ?_
     ·show _ ≤ _; omega
     ·show _ - _ < _ - _; omega
     ·exact (KC 2 rfl (KC 5 rfl (KC 7 rfl (KC 8 rfl (KC 9 rfl (KC 10 rfl (KC 1000002 rfl (KC 1000005 rfl (KE 1000007 rfl (by rw [tableB_step (sha_length l) (by omega)]; rfl) KN)))))))))
    ·obtain rfl : k = 4 := by simp at hc56; omega
     refine A.exit ?_
     refine End.exit_then ?_
     refine End.exit_then ?_
     refine End.exit_here ?_
     refine End.normal_block ?_
     refine EN ?_
     refine GE ?_
     refine TL ?_
     refine RM rfl ?_
     refine RBS rfl rfl rfl (.int .i64 ((i + 1 : Nat) : Int)) (by rw [wrap_i64 (by omega) (by omega)]; first | rfl | (congr 1; omega)) ?_
     refine RA rfl ?_
     refine RN ?_
     refine End.normal_then ?_
     refine End.again (i + 1) ?_ ?_ ?_
     ·show _ ≤ _; omega
     ·show _ - _ < _ - _; omega
     ·exact (KC 2 rfl (KC 5 rfl (KC 7 rfl (KC 8 rfl (KC 1000002 rfl (KC 1000005 rfl (KC 1000007 rfl KN)))))))
   ·obtain rfl : i = 8 := by simp at hc48; omega
    refine A.exit ?_
    refine End.exit_then ?_
    refine End.exit_then ?_
    refine End.exit_here ?_
    refine EN ?_
    refine GS ?_
    refine TF 1 ?_
    refine RS (ok_loadA (s := 1000007) (by decide) Tryd.underlying27 rfl (size27.of (by rw [tableB_length (by simp [sha_length])])) rfl rfl) ?_; refine RZ (aggV ((sha l).map byteV)) (by rw [tableB_full (by simp [sha_length]), List.take_of_length_le (by rw [sha_length]; decide)]) ?_
    refine RN ?_
    refine ⟨_, eff_storeA (n := 69) (s := 1000002) (size27.of (by rw [List.length_map, sha_length])) rfl rfl (all_bytes _) hBb2 rfl (by rw [List.length_map, sha_length, List.length_replicate]) (LV 2 rfl (LT 1000005 rfl (LB 1000007 rfl LN))), ?_⟩
    refine TL ?_
    refine RN ?_
    refine A.ret ?_
    exact End.cell1 (s := 1000002) rfl Tryd.underlying27 rfl (size27.of (by rw [List.length_map, sha_length])) rfl rfl (Le.refl _)
end Go.Proofs.YtfjpipkcfbmdeaaDoor
