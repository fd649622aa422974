/-
  OWN WORDS: slices of structs of several cells, of whatever address: read by facts, made, copied, cut. Nothing of one program stands here.
-/
import Derived.Test.YtdnblilocdddpaaPair
namespace Go.Proofs.Ytdnblilocdddpaa
open Go Go.RowKit
set_option linter.unusedVariables false
set_option linter.unusedSimpArgs false
variable {κ : Cx}
/-- The cells that stand from an address on. -/
def memR (A : Option Addr) (xs : List Value) : D :=
  .p (fun B w _ => RowIn B w A xs) (fun _ _ _ _ g h j u hu => by obtain ⟨ad, h1, h2, h3⟩ := h j u hu; exact ⟨ad, h1, h2, (g.cell (by rw [block_of_add]; exact h2)).trans h3⟩)
    (fun _ _ _ _ g h j u hu => by obtain ⟨ad, h1, h2, h3⟩ := h j u hu; exact ⟨ad, h1, Nat.lt_of_lt_of_le h2 g, h3⟩)
/-- A slice of n elements whose cells read as xs. -/
def rowD (n : Nat) (xs : List Value) : D :=
  .p (fun B w x => ∃ A c, x = .slice A n c ∧ RowIn B w A xs) (fun _ _ _ _ g ⟨A, c, h1, h2⟩ => ⟨A, c, h1, D.OfB.keep (d := memR A xs) (x := undef) h2 g⟩) (fun _ _ _ _ g ⟨A, c, h1, h2⟩ => ⟨A, c, h1, D.OfB.up (d := memR A xs) (x := undef) h2 g⟩)
theorem rowD_nil {A : Option Addr} {c : Nat} : Le (.v (.slice A 0 c)) (rowD 0 []) := fun _ _ _ h => ⟨A, c, h, fun j u hu => by cases hu⟩
theorem ownP_rowD {base sz n : Nat} {e : TypeId} {xs : List Value} : Le (ownP base e sz n xs) (rowD n xs) := fun B w x ⟨⟨hl, h2⟩, hlt⟩ => by
  rcases h2 with ⟨rfl, rfl⟩ | ⟨g, cap, cur, rfl, _, hh, _, _, _, htk⟩
  · refine ⟨none, 0, rfl, fun j u hu => ?_⟩
    have : xs = [] := List.length_eq_zero_iff.1 (by omega)
    subst this; cases hu
  · refine ⟨_, _, rfl, fun j u hu => ⟨_, rfl, hlt g rfl, ?_⟩⟩
    rw [show (⟨g, 0, none⟩ : Addr).add j = ⟨g, j, none⟩ from by unfold Addr.add; split <;> simp_all]
    rw [← htk, List.getElem?_take] at hu
    split at hu
    · simp [World.cell?, hh]; simpa using hu
    · cases hu
theorem blk_rowIn {B b : Nat} {w : World} {e : TypeId} {xs : List Value} (hb : b < B) (hh : w.heap[b]? = some (.cells xs.toArray e (0, 0))) : RowIn B w (some ⟨b, 0, none⟩) xs := fun j u hu => ⟨_, rfl, hb, by
  rw [show (⟨b, 0, none⟩ : Addr).add j = ⟨b, j, none⟩ from by unfold Addr.add; split <;> simp_all]
  simp [World.cell?, hh]; simpa using hu⟩
section
variable {P : Program} {n : Nat} {E : Env} {w₀ : World} {c : Code} {Q : Exit → Act → World → Prop}
theorem A.nameR {t k B' m : Nat} {xs : List Value} (ht : E.look t = some (old B' (rowD m xs))) (h : ∀ (A₀ : Option Addr) (q : Nat), A κ P w₀ n c ((t, .v (.slice A₀ m q)) :: (k, old B' (memR A₀ xs)) :: E) Q) : A κ P w₀ n c E Q := fun a w g hs => by
  obtain ⟨hB, A₀, q, h1, h2⟩ := hs.of t _ ht
  exact h A₀ q a w g ((hs.push (t := k) (d := old B' (memR A₀ xs)) ⟨hB, h2⟩).push (d := .v (.slice A₀ m q)) h1)
theorem A.nameHdR {t k B' m : Nat} {xs rest : List Value} (ht : E.look t = some (old B' (hdD (rowD m xs) rest))) (h : ∀ (A₀ : Option Addr) (q : Nat), A κ P w₀ n c ((t, .v (aggV (.slice A₀ m q :: rest))) :: (k, old B' (memR A₀ xs)) :: E) Q) : A κ P w₀ n c E Q := fun a w g hs => by
  obtain ⟨hB, v, h1, h2, A₀, q, h3, h4⟩ := hs.of t _ ht
  subst h3
  exact h A₀ q a w g ((hs.push (t := k) (d := old B' (memR A₀ xs)) ⟨hB, h4⟩).push (d := .v (aggV (.slice A₀ m q :: rest))) h2)
end
section
variable {P : Program} {B : Nat} {E : Env} {dst : Option Tmp} {ty : TypeId} {pos : String} {after : Array Edge} {guard : Option (Nat × Bool)}
theorem ok_indexR {t e : TypeId} {z : Value} {sz nb : Nat} {x i : Operand} {A₀ : Option Addr} {q k s B' : Nat} {xs : List Value} {ki : IntKind} (m : Nat) (ht : P.underlying t = some (.slice e)) (hs : InfoP P e z sz nb) (hx : E.at x = some (.v (.slice A₀ k q)))
    (hr : E.look s = some (old B' (memR A₀ xs))) (hsv : vbase ≤ s) (hi : E.at i = some (.v (.int ki (m : Int)))) (hm : m < k) (hlt : m * sz < xs.length) :
    OpOk P B ⟨dst, .indexAddr t x i, ty, pos, after, guard⟩ E (elemP ((xs.drop (m * sz)).take sz)) := fun ρ w _ hv hρ => by
  have h1 : ρ x = .slice A₀ k q := hρ x (by simp [Op.operands]) _ hx
  have hi' : ρ i = .int ki m := hρ i (by simp [Op.operands]) _ hi
  obtain ⟨hB, hrow⟩ := hv s _ hsv hr
  obtain ⟨info, hinfo, _, hsize, _⟩ := hs.get
  obtain ⟨ad, hA, hab, _⟩ := hrow (m * sz) _ (List.getElem?_eq_getElem hlt)
  subst hA
  refine out_val (x := .pointer (some (ad.add (m * sz)))) (w' := w) ?_ ⟨Grow.refl w, _, rfl, by rw [block_of_add]; omega, fun j u hu => ?_⟩
  · simp [execOp, h1, hi', Instr.indexAt, asIntOf, run_underlying ht, sizeOf, typeInfo, hinfo, hsize, hm]
  · rw [List.getElem?_take] at hu
    split at hu
    · rw [List.getElem?_drop] at hu
      obtain ⟨ad', hA', _, h4⟩ := hrow (m * sz + j) u hu
      injection hA' with hA'; subst hA'
      rw [add_of_add]; exact h4
    · cases hu
theorem ok_fieldP {T : TypeId} {x : Operand} {i off m : Nat} {us : List Value} (hf : FieldIs P T i off m) (hm : 0 < m) (hx : E.at x = some (elemP us)) :
    OpOk P B ⟨dst, .fieldAddr T x i, ty, pos, after, guard⟩ E (elemP (us.drop off)) := fun ρ w _ _ hρ => by
  obtain ⟨ad, h1, hb, hc⟩ := hρ x (by simp [Op.operands]) _ hx
  unfold FieldIs at hf
  cases hu : P.underlying T with
  | none => rw [hu] at hf; cases hf
  | some d =>
    rw [hu] at hf
    cases d with
    | struct fs =>
      simp only [Option.bind_some] at hf
      cases hfi : fs[i]? with
      | none => rw [hfi] at hf; cases hf
      | some f =>
        rw [hfi] at hf
        simp only [Option.bind_some] at hf
        cases hi : P.info? f.type with
        | none => rw [hi] at hf; cases hf
        | some inf =>
          rw [hi] at hf
          simp only [Option.map_some, Option.some.injEq, Prod.mk.injEq] at hf
          obtain ⟨h2, h3⟩ := hf
          refine out_val (x := .pointer (some (ad.add off))) (w' := w) ?_ ⟨Grow.refl w, _, rfl, by rw [block_of_add]; exact hb, fun j u hj => ?_⟩
          · have : ¬ inf.size = 0 := by omega
            simp [execOp, h1, Instr.fieldAt, run_underlying hu, hfi, Instr.sureAddr, fieldPlace, sizeOf, typeInfo, hi, this, h2]
          · rw [add_of_add]; rw [List.getElem?_drop] at hj; exact hc _ _ hj
    | _ => simp at hf
theorem ok_loadP1 {T : TypeId} {td : TypeDesc} {x : Operand} {u : Value} {us : List Value} (ht : P.underlying T = some td) (hp : (match td with | .struct _ | .array _ _ => false | _ => true) = true) (hx : E.at x = some (elemP (u :: us))) :
    OpOk P B ⟨dst, .load T x, ty, pos, after, guard⟩ E (.v u) := fun ρ w _ _ hρ => by
  obtain ⟨ad, h1, _, h3⟩ := hρ x (by simp [Op.operands]) _ hx
  have hagg : (isAgg T).run P w = .ok false w := by
    unfold isAgg
    simp only [Sem.run_bind, run_underlying ht, Result.andThen_ok]
    cases td <;> simp_all
  have hc : w.cell? ad = some u := by have := h3 0 u rfl; rwa [show ad.add 0 = ad from by simp [Addr.add]] at this
  exact out_val (x := u) (w' := w) (by simp [execOp, h1, Instr.loadAt, Instr.sureAddr, loadVar, hagg, hc]) ⟨Grow.refl w, rfl⟩
theorem fill_go (us : List Value) : ∀ (ds pre : List Value), ds.length = us.length → ((us.zipIdx pre.length).foldl (fun cs (x : Value × Nat) => cs.setIfInBounds (0 + x.2) x.1) (pre ++ ds).toArray) = (pre ++ us).toArray := by
  induction us with
  | nil => intro ds pre h; cases ds with
    | nil => rfl
    | cons => cases h
  | cons u us ih =>
    intro ds pre h
    cases ds with
    | nil => cases h
    | cons d ds =>
      rw [List.zipIdx_cons, List.foldl_cons]
      have := ih ds (pre ++ [u]) (by simpa using h)
      rw [show ((pre ++ d :: ds).toArray.setIfInBounds (0 + pre.length) u) = ((pre ++ [u]) ++ ds).toArray from by
        rw [Nat.zero_add, List.setIfInBounds_toArray, List.set_append_right _ _ (Nat.le_refl _)]; simp]
      rw [show pre.length + 1 = (pre ++ [u]).length from by simp, this]; simp
theorem ok_build1K {t e : TypeId} {z : Value} {nb sz : Nat} {x : Operand} {us : List Value} (ht : P.underlying t = some (.slice e)) (hs : InfoP P e z sz nb) (hz : z.cells.size = sz) (h0 : sz ≤ 65536) (hsz : 0 < sz) (hx : E.at x = some (.v (aggV us))) (hu : us.length = sz) :
    OpOk P B ⟨dst, .buildSlice t 1 #[(0, x)], ty, pos, after, guard⟩ E (oneP us) := fun ρ w _ _ hρ => by
  obtain ⟨i, hi, hzv, hsize, _⟩ := hs.get
  have h1 : ρ x = aggV us := hρ x (by simp [Op.operands]) _ hx
  have hfill : Instr.fill (fun j => some (j * i.size, i.size)) ((Array.range (1 * i.size)).map (z.cells[· % z.cells.size]!)) [(0, ρ x)] = some us.toArray := by
    have hlen : ((Array.range (1 * i.size)).map (z.cells[· % z.cells.size]!)).size = us.length := by simp [hsize, hu]
    rw [h1]
    have hc : (aggV us).cells = us.toArray := rfl
    unfold Instr.fill
    simp only [Nat.zero_mul]
    rw [hc, if_neg (by simp [hsize, hu])]
    have hg := fill_go us ((Array.range (1 * i.size)).map (z.cells[· % z.cells.size]!)).toList [] (by rw [Array.length_toList, hlen])
    simp only [List.nil_append, List.length_nil, Array.toArray_toList] at hg
    rw [show us.toArray.zipIdx.foldl (fun cs (x : Value × Nat) => match x with | (c, j) => cs.setIfInBounds (0 + j) c) ((Array.range (1 * i.size)).map (z.cells[· % z.cells.size]!)) = us.toArray from by
      rw [← Array.foldl_toList, Array.toList_zipIdx]; exact hg]
    rfl
  have hr := run_buildSlice (P := P) w t e 1 #[(0, ρ x)] us.toArray i z ht hi hzv (by rw [hsize]; omega) (by rw [hsize]; omega) (by simpa using hfill)
  refine out_val (x := .slice (some ⟨w.heap.size, 0, none⟩) 1 1) (w' := w.alloc (.cells us.toArray e)) (by simp [execOp, hr]) ⟨Grow.alloc w _, _, rfl, by simp, fun j u hu => ?_⟩
  have hh : (w.alloc (.cells us.toArray e)).heap[w.heap.size]? = some (.cells us.toArray e (0, 0)) := heap_alloc_new w _
  rw [show (⟨w.heap.size, 0, none⟩ : Addr).add j = ⟨w.heap.size, j, none⟩ from by unfold Addr.add; split <;> simp_all]
  simp only [World.cell?, hh]
  simpa using hu
theorem oneP_rowD {us : List Value} : Le (oneP us) (rowD 1 us) := fun _ _ _ ⟨ad, h1, h2, h3⟩ => ⟨some ad, 1, h1, fun j u hu => ⟨ad, rfl, h2, h3 j u hu⟩⟩
theorem ok_makeK {t e : TypeId} {x y : Operand} {z : Value} {nb sz : Nat} {k k' : IntKind} (c : Nat) (ht : P.underlying t = some (.slice e)) (hinfo : InfoP P e z sz nb) (hnb : nb ≤ 64)
    (hx : E.at x = some (.v (.int k (c : Int)))) (hy : E.at y = some (.v (.int k' (c : Int)))) (hc : c ≤ 4398046511104) :
    OpOk P B ⟨dst, .makeSlice t x y, ty, pos, after, guard⟩ E (newD B e (fun b => .slice (some ⟨b, 0, none⟩) c c) (madeCells z.cells (c * sz)).toList) := fun ρ w hB _ hρ => by
  obtain ⟨i, hi, hz, hs, hb⟩ := hinfo.get
  have h1 : ρ x = _ := hρ x (by simp [Op.operands]) _ hx
  have h2 : ρ y = _ := hρ y (by simp [Op.operands]) _ hy
  have hbc : i.bytes * c ≤ 64 * c := Nat.mul_le_mul_right c (by omega)
  have hr := run_make (P := P) w t e i z ht hi hz k k' (c : Int) (c : Int) (by omega) (by omega) (by rw [← Int.natCast_mul]; omega) (by omega)
  refine out_val (x := .slice (some ⟨w.heap.size, 0, none⟩) c c) (w' := w.alloc (.cells (madeCells z.cells (c * i.size)) e)) ?_ ⟨Grow.alloc w _, w.heap.size, rfl, hB, by simp, ?_⟩
  · simp only [execOp, h1, h2, Sem.run_bind, hr, Result.andThen_ok, Sem.run_pure, Int.toNat_natCast]
  · rw [← hs]; exact heap_alloc_new w _
theorem ok_sliceLoK {t e : TypeId} {z : Value} {nb sz : Nat} {x o : Operand} {b len c : Nat} {kd : IntKind} (l : Nat) (ht : P.underlying t = some (.slice e)) (hs : InfoP P e z sz nb) (hx : E.at x = some (.v (.slice (some ⟨b, 0, none⟩) len c))) (ho : E.at o = some (.v (.int kd (l : Int)))) (hl : l ≤ len) :
    OpOk P B ⟨dst, .slice t x (some o) none none, ty, pos, after, guard⟩ E (.v (.slice (some ⟨b, if c = l then 0 else l * sz, none⟩) (len - l) (c - l))) := fun ρ w _ _ hρ => by
  have h1 : ρ x = _ := hρ x (by simp [Op.operands]) _ hx
  have h2 : ρ o = .int kd (l : Int) := hρ o (by simp [Op.operands]) _ ho
  obtain ⟨info, hinfo, _, hsize, _⟩ := hs.get
  refine out_val (w' := w) ?_ ⟨Grow.refl w, rfl⟩
  simp [execOp, h1, h2, Instr.sliceAt, Instr.slice, run_underlying ht, Instr.sliceBounds, Instr.sliceBound, asIntOf, sizeOf, typeInfo, hinfo, hsize, hl]
  split
  · rfl
  · unfold Addr.add
    split
    · rename_i h; rw [h]
    · simp
end
section
variable {P : Program} {n B : Nat} {ops : Array Oper} {E : Env} {ty : TypeId} {pos : String} {after : Array Edge}
theorem eff_copyK {t e : TypeId} {z : Value} {nb sz : Nat} {r x : Operand} {b o dn dc s k sn sc dst B' : Nat} {A₀ : Option Addr} {e' : TypeId} {xs ys : List Value} {E' : Env} (ht : P.underlying t = some (.slice e)) (hinfo : InfoP P e z sz nb)
    (hr : E.at r = some (.v (.slice (some ⟨b, o, none⟩) dn dc))) (hx : E.at x = some (.v (.slice A₀ sn sc))) (hk : E.look k = some (old B' (memR A₀ ys))) (h1 : ys.all (·.oneCell') = true) (hl : ys.length = sn * sz) (hsd : sn ≤ dn) (hsz : 0 < sz)
    (hb : B ≤ b) (hblk : E.look s = some (blk b e' xs)) (hfit : o + sn * sz ≤ xs.length) (hdst : dst < n) (hle : LeftS B e' b E' E) :
    Eff P n B ops ⟨some dst, .call { callee := .builtin .copy, args := #[r, x], argTypes := #[t, t] }, ty, pos, after, none⟩ E ((dst, .v (.int .i64 (sn : Int))) :: (s, blk b e' (xs.take o ++ ys ++ xs.drop (o + sn * sz))) :: E') := by
  obtain ⟨i, hi, _, hs, _⟩ := hinfo.get
  intro κ a w K Q h hK
  have hre : a.eval r = _ := h.at_ r _ hr
  have hxe : a.eval x = _ := h.at_ x _ hx
  obtain ⟨hB, hrow⟩ := h.of k _ hk
  obtain ⟨hlt, hh⟩ := h.of s _ hblk
  have hrun : ∃ w', (Builtin.copy_ #[t, t] ty #[a.eval r, a.eval x]).run P w = .ok (.int .i64 (sn : Int)) w' ∧ Wrote B e' b w w' ∧ w'.heap[b]? = some (.cells (xs.take o ++ ys ++ xs.drop (o + sn * sz)).toArray e' (0, 0)) ∧ b < w'.heap.size := by
    rw [hre, hxe]
    have hmin : Nat.min sn dn = sn := Nat.min_eq_left hsd
    cases A₀ with
    | none =>
      have hz : ys = [] := by
        cases ys with
        | nil => rfl
        | cons y ys => obtain ⟨_, h0, _⟩ := hrow 0 y rfl; cases h0
      subst hz
      have h0 : sn = 0 := by
        have : sn * sz = 0 := by simpa using hl.symm
        rcases Nat.mul_eq_zero.1 this with h | h
        · exact h
        · omega
      subst h0
      refine ⟨w, ?_, ⟨hb, rfl, rfl, rfl, Nat.le_refl _, fun o' ho => by rw [hh] at ho; injection ho with ho; exact ⟨_, _, ho.symm⟩, fun _ _ _ => rfl⟩, by simpa using hh, hlt⟩
      simp [Builtin.copy_, run_underlying ht, Builtin.lenOf, Builtin.firstCells, sizeOf, typeInfo, hi, storeCells, goInt]
    | some ad =>
      have hload := run_loadCells_list (P := P) w ad ys (fun j v hv => by obtain ⟨ad', h1, _, h3⟩ := hrow j v hv; injection h1 with h1; subst h1; exact h3)
      have hst := run_storeCells_at P b o e' ys 0 xs.toArray w hh (by simpa [hl] using hfit) (fun v hv => List.all_eq_true.1 h1 v hv)
      refine ⟨w.setRow b (xs.take o ++ ys ++ xs.drop (o + sn * sz)).toArray, ?_, Wrote.setRow hb hh _, by simp [World.setRow, Array.getElem?_modify, hh], by simpa [World.setRow] using hlt⟩
      simp only [hl] at hst
      simp [Builtin.copy_, run_underlying ht, Builtin.lenOf, Builtin.firstCells, sizeOf, typeInfo, hi, hs, hmin, ← hl, hload, goInt]
      simp [hl, hst]
  obtain ⟨w', hrun, hwr, hh', hlt'⟩ := hrun
  have hexec : (execOp a.eval ⟨some dst, .call { callee := .builtin .copy, args := #[r, x], argTypes := #[t, t] }, ty, pos, after, none⟩).run P w = .ok (.value (.int .i64 (sn : Int))) w' := by
    simp [execOp, resolve, invoke, builtin, hrun]
  rw [if_pos (by simp [Region.wanted])]
  refine opR (by nofun) ?_
  unfold Oper.wp
  rw [hexec, Oper.upon_value]
  exact hK _ _ (hwr.below h.base) (St.put ((hle.st h hwr).push (d := blk b e' (xs.take o ++ ys ++ xs.drop (o + sn * sz))) ⟨hlt', hh'⟩) hdst rfl)
end
end Go.Proofs.Ytdnblilocdddpaa
