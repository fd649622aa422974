/-
  OWN WORDS: variables of which a fact is known; functions that hold variables of their own; bytes of strings; rows made with room; a call that writes one block. Nothing of one program stands here.
-/
import Derived.Test.YtdnblilocdddpaaVals
import Derived.Test.YtdnblilocdddpaaFresh
import Derived.Test.YtdnblilocdddpaaMark
import Derived.Test.YtdnblilocdddpaaSha
import Derived.Laws.IdiomStrings
namespace Go.Proofs.Ytdnblilocdddpaa
open Go Go.RowKit
variable {κ : Cx}

theorem St.push {n B : Nat} {E : Env} {a : Act} {w : World} {t : Nat} {d : D} (h : St κ n B E a w) (hd : d.Of w (a.tmps.getD t undef)) : St κ n B ((t, d) :: E) a w :=
  ⟨h.base, h.defers, h.size, fun s e he => by
    by_cases hts : t = s
    · subst hts
      rw [look_here] at he; injection he with he; subst he; exact hd
    · rw [look_past _ _ hts] at he
      exact h.of s e he⟩

/-! ### A variable that holds something of which d is known -/
def varD (b : Nat) (T : TypeId) (d : D) : D :=
  .p (fun B w _ => b < B ∧ ∃ u : Value, w.heap[b]? = some (.cells #[u] T (0, 0)) ∧ d.OfB B w u)
    (fun _ _ _ _ g ⟨h1, u, h2, h3⟩ => ⟨h1, u, (g.block b h1).trans h2, h3.keep g⟩) (fun _ _ _ _ g ⟨h1, u, h2, h3⟩ => ⟨by omega, u, h2, h3.up g⟩)
theorem varD_le {b : Nat} {T : TypeId} {d d' : D} (h : Le d d') : Le (varD b T d) (varD b T d') := fun _ _ _ ⟨h1, u, h2, h3⟩ => ⟨h1, u, h2, h _ _ _ h3⟩
theorem varD_eq {b : Nat} {T : TypeId} {d d' : D} (h : d = d') : varD b T d = varD b T d' := by rw [h]
theorem Surv.varD {B T g b : Nat} {e : TypeId} {d : D} (h : b ≠ g) (hd : Surv B T g d) : Surv B T g (Go.Proofs.Ytdnblilocdddpaa.varD b e d) := fun w w' _ k ⟨h1, u, h2, h3⟩ =>
  ⟨Nat.lt_of_lt_of_le h1 k.size, u, (k.other b h1 h).trans h2, hd w w' u k h3⟩
theorem Surv.varDT {B T g b : Nat} {e : TypeId} {d : D} (h : e ≠ T) (hd : Surv B T g d) : Surv B T g (Go.Proofs.Ytdnblilocdddpaa.varD b e d) := fun w w' x k hx => by
  refine Surv.varD (B := B) (T := T) (fun hb => h ?_) hd w w' x k hx
  subst hb
  obtain ⟨_, u, h2, _⟩ := hx
  exact k.row _ _ _ h2
theorem Firm.varD {l b : Nat} {e : TypeId} {d : D} (hd : Firm l d) : Firm l (Go.Proofs.Ytdnblilocdddpaa.varD b e d) := fun w o o' _ hl ho ⟨h1, u, h2, h3⟩ => by
  have hne : b ≠ l := fun hb => by subst hb; rw [h2] at hl; injection hl with hl; subst hl; cases ho
  exact ⟨by simpa using h1, u, (World.putObj_heap_other hne).trans h2, hd w o o' u hl ho h3⟩
theorem Firm.own {l base n : Nat} {e : TypeId} {xs : List Value} : Firm l (Go.Proofs.Ytdnblilocdddpaa.own base e n xs) := fun w o o' x hl ho ⟨h1, h2⟩ => by
  obtain ⟨h3, h4⟩ := h1
  refine ⟨⟨h3, h4.imp id ?_⟩, fun j hj => by simpa using h2 j hj⟩
  rintro ⟨j, cap, cur, rfl, hj, hh, hr⟩
  have hne : j ≠ l := fun hb => by subst hb; rw [hh] at hl; injection hl with hl; subst hl; cases ho
  exact ⟨j, cap, cur, rfl, hj, (World.putObj_heap_other hne).trans hh, hr⟩
theorem Firm.ownM {l base n : Nat} {v : Value} {e : TypeId} {xs : List Value} : Firm l (Go.Proofs.Ytdnblilocdddpaa.ownM base v e n xs) := fun w o o' _ hl ho h => Firm.own w o o' v hl ho h
theorem Firm.list {l c : Nat} {ds : List D} (hd : ∀ d ∈ ds, Firm l d) : Firm l (Go.Proofs.Ytdnblilocdddpaa.list ds c) := fun w o o' x hl ho ⟨A, vs, h1, h2, h3, h4, h5, h6⟩ =>
  ⟨A, vs, h1, h2, h3, h4, fun j u hu => by
    obtain ⟨ad, g1, g2, g3⟩ := h5 j u hu
    refine ⟨ad, g1, by simpa using g2, ?_⟩
    have hne : (ad.add j).block ≠ l := fun hb => by
      unfold World.cell? at g3
      rw [hb, hl] at g3
      cases o <;> simp_all [Obj.isCells]
    unfold World.cell? at g3 ⊢
    rw [World.putObj_heap_other hne]; exact g3, fun j d u hd' hu => hd d (List.mem_of_getElem? hd') w o o' u hl ho (h6 j d u hd' hu)⟩
theorem Firm.bytes {l c : Nat} {xs : List UInt8} : Firm l (Go.Proofs.Ytdnblilocdddpaa.bytes xs c) := Firm.list fun d hd => by
  obtain ⟨b, _, rfl⟩ := List.mem_map.1 hd
  exact Firm.v l _

section
variable {P : Program} {n B : Nat} {ops : Array Oper} {E : Env} {dst : Option Tmp} {ty : TypeId} {pos : String} {after : Array Edge} {guard : Option (Nat × Bool)}
/-- A store into a variable of one cell: what is known of the value is known of the variable. -/
theorem eff_storeD {t : TypeId} {z : Value} {nb : Nat} {p x : Operand} {b s : Nat} {e : TypeId} {z₀ : Value} {d : D} {E' : Env} (hinfo : InfoIs P t z nb) (hp : E.at p = some (.v (.pointer (some ⟨b, 0, none⟩)))) (hx : E.at x = some d) (hu : ∀ w u, d.Of w u → u.oneCell' = true)
    (hb : B ≤ b) (hblk : E.look s = some (blk b e [z₀])) (hd : Surv B e b d) (hl : LeftS B e b E' E) :
    Eff P n B ops ⟨none, .store t p x, ty, pos, after, none⟩ E ((s, varD b e d) :: E') := by
  obtain ⟨i, hi, _, hs, _⟩ := hinfo.get
  intro κ a w K Q h hK
  have hp' : a.eval p = _ := h.at_ p _ hp
  have hx' : d.Of w (a.eval x) := h.at_ x _ hx
  obtain ⟨u, hu'⟩ : ∃ u, a.eval x = u := ⟨_, rfl⟩
  rw [hu'] at hx'
  have hu := hu w u hx'
  obtain ⟨hlt, hh⟩ := h.of s _ hblk
  have hcell : w.cell? ⟨b, 0, none⟩ = some z₀ := by simp [World.cell?, hh]
  have hfr : w.frozen? ⟨b, 0, none⟩ = false := by simp [World.frozen?, hh]
  have hcu : u.cells = #[u] := by cases u <;> simp_all [Value.oneCell', Value.cells]
  have hadd : (⟨b, 0, none⟩ : Addr).add 0 = ⟨b, 0, none⟩ := rfl
  have hset := setCell_eq_setRow w b 0 [z₀].toArray e (0, 0) u hh
  have hrun : (execOp a.eval ⟨none, .store t p x, ty, pos, after, none⟩).run P w = .ok .skip (w.setRow b ([z₀].toArray.setIfInBounds 0 u)) := by
    rw [← hset]
    simp [execOp, hp', hu', Instr.storeAt, Instr.sureAddr, storeVar, hcu, sizeOf, typeInfo, hi, hs, storeCells, hadd, run_store P w ⟨b, 0, none⟩ u .plain hu, hcell, hfr]
  rw [if_pos (by simp [Region.wanted])]
  refine opR (by nofun) ?_
  unfold Oper.wp
  rw [hrun, Oper.upon_skip]
  have hwr := Wrote.setRow hb hh ([z₀].toArray.setIfInBounds 0 u)
  have hst := hl.st h hwr
  refine hK _ _ (hwr.below h.base) (hst.push ?_)
  exact ⟨by simpa using hlt, u, by rw [setRow_heap w b _ _ e _ hh]; simp, hd _ _ _ hwr hx'⟩
/-- What a variable holds. -/
theorem ok_loadD {t : TypeId} {td : TypeDesc} {x : Operand} {b s : Nat} {e : TypeId} {d : D} (hsl : vbase ≤ s) (ht : P.underlying t = some td) (hp : plainTD td = true) (hx : E.at x = some (.v (.pointer (some ⟨b, 0, none⟩)))) (hblk : E.look s = some (varD b e d)) :
    OpOk P B ⟨dst, .load t x, ty, pos, after, guard⟩ E d := fun ρ w _ hv hρ => by
  have h1 : ρ x = _ := hρ x (by simp [Op.operands]) _ hx
  obtain ⟨hlt, u, hh, hd⟩ := hv s _ hsl hblk
  have hc : w.cell? ⟨b, 0, none⟩ = some u := by simp [World.cell?, hh]
  exact out_val (w' := w) (by simp [execOp, h1, run_load_plain ht hp hc]) ⟨Grow.refl w, hd⟩
/-- The number of a new block: above all that are known by name. -/
def NewD (B : Nat) (E : Env) (b : Nat) : Prop := B ≤ b ∧ (∀ s b' e xs, E.look s = some (blk b' e xs) → b' < b) ∧ ∀ s b' e d, E.look s = some (varD b' e d) → b' < b
/-- A variable of one cell that is given a value. -/
theorem eff_boxD {T : TypeId} {x : Operand} {dd : D} {d k : Nat} (hx : E.at x = some dd) (hu : ∀ w u, dd.Of w u → u.oneCell' = true) (hdn : d < n) :
    EffG P n B ops ⟨some d, .box T x, ty, pos, after, none⟩ E (NewD B E) (fun b => (d, .v (.pointer (some ⟨b, 0, none⟩))) :: (k, varD b T dd) :: E) := by
  intro κ a w K Q h hK
  have h1 : dd.Of w (a.eval x) := h.at_ x _ hx
  obtain ⟨u, hu'⟩ : ∃ u, a.eval x = u := ⟨_, rfl⟩
  rw [hu'] at h1
  have hu := hu w u h1
  have hc : u.cells = #[u] := by cases u <;> simp_all [Value.oneCell', Value.cells]
  have hrun : (execOp a.eval ⟨some d, .box T x, ty, pos, after, none⟩).run P w = .ok (.value (.pointer (some ⟨w.heap.size, 0, none⟩))) (w.alloc (.cells #[u] T)) := by
    simp [execOp, Instr.box, newVar, newRow, hu', hc]
  rw [if_pos (by simp [Region.wanted])]
  refine opR (by nofun) ?_
  unfold Oper.wp
  rw [hrun, Oper.upon_value]
  have hg := Grow.alloc w (.cells #[u] T)
  have hst := h.grow hg
  refine hK w.heap.size _ _ ⟨h.base, fun s b' e ys hs => (h.of s _ hs).1, fun s b' e d' hs => (h.of s _ hs).1⟩ ((Below.refl B w).alloc h.base _) (St.put (hst.push ?_) hdn rfl)
  refine ⟨by simp, u, heap_alloc_new w _, ?_⟩
  exact D.Of.grow h1 hg
/-- The same with a value of several cells, told exactly. -/
theorem eff_boxN {T : TypeId} {x : Operand} {xs : List Value} {d k : Nat} (hx : E.at x = some (.v (aggV xs))) (hdn : d < n) :
    EffG P n B ops ⟨some d, .box T x, ty, pos, after, none⟩ E (NewD B E) (fun b => (d, .v (.pointer (some ⟨b, 0, none⟩))) :: (k, blk b T xs) :: E) := by
  intro κ a w K Q h hK
  have h1 : a.eval x = aggV xs := h.at_ x _ hx
  have hrun : (execOp a.eval ⟨some d, .box T x, ty, pos, after, none⟩).run P w = .ok (.value (.pointer (some ⟨w.heap.size, 0, none⟩))) (w.alloc (.cells xs.toArray T)) := by
    simp [execOp, Instr.box, newVar, newRow, h1, aggV, Value.cells]
  rw [if_pos (by simp [Region.wanted])]
  refine opR (by nofun) ?_
  unfold Oper.wp
  rw [hrun, Oper.upon_value]
  have hst := h.grow (Grow.alloc w (.cells xs.toArray T))
  refine hK w.heap.size _ _ ⟨h.base, fun s b' e ys hs => (h.of s _ hs).1, fun s b' e d' hs => (h.of s _ hs).1⟩ ((Below.refl B w).alloc h.base _) (St.put (hst.push ?_) hdn rfl)
  exact ⟨by simp, heap_alloc_new w _⟩

/-- A variable of its zero value, its number above all that are known by name. -/
theorem eff_allocN {T : TypeId} {zs : List Value} {d k : Nat} (hz : ZeroIs P T zs) (hdn : d < n) :
    EffG P n B ops ⟨some d, .alloc T, ty, pos, after, none⟩ E (NewD B E) (fun b => (d, .v (.pointer (some ⟨b, 0, none⟩))) :: (k, blk b T zs) :: E) := by
  intro κ a w K Q h hK
  obtain ⟨i, z, hi, hz, hc⟩ := hz.get
  have hrun : (execOp a.eval ⟨some d, .alloc T, ty, pos, after, none⟩).run P w = .ok (.value (.pointer (some ⟨w.heap.size, 0, none⟩))) (w.alloc (.cells zs.toArray T)) := by
    simp [execOp, Instr.alloc, zeroValue, typeInfo, hi, hz, newVar, newRow, hc]
  rw [if_pos (by simp [Region.wanted])]
  refine opR (by nofun) ?_
  unfold Oper.wp
  rw [hrun, Oper.upon_value]
  have hst := h.grow (Grow.alloc w (.cells zs.toArray T))
  refine hK w.heap.size _ _ ⟨h.base, fun s b' e ys hs => (h.of s _ hs).1, fun s b' e d' hs => (h.of s _ hs).1⟩ ((Below.refl B w).alloc h.base _) (St.put (hst.push ?_) hdn rfl)
  exact ⟨by simp, heap_alloc_new w _⟩

/-- []byte(s) of a string. -/
theorem ok_strB {s t e : TypeId} {x : Operand} {l : List UInt8} (hs : P.underlying s = some .string) (ht : P.underlying t = some (.slice e)) (he : P.underlying e = some (.int .u8)) (hx : E.at x = some (str l)) (hl : l.length ≤ maxLen) :
    OpOk P B ⟨dst, .convert s t x, ty, pos, after, guard⟩ E (byt l) := fun ρ w hB _ hρ => by
  have h1 : ρ x = .string ⟨l.toArray⟩ := hρ x (by simp [Op.operands]) _ hx
  have hr := run_bytes_of_string (P := P) w s t e ⟨l.toArray⟩ hs ht he
  have hc1 : l.length ≤ grownCap w l.length 0 e := grownCap_ge w _ 0 e
  have hc2 := grownCap_le_maxLen w l.length 0 e hl
  have hsz : (⟨l.toArray⟩ : ByteArray).size = l.length := rfl
  rw [hsz] at hr
  obtain ⟨c, hc⟩ : ∃ c, grownCap w l.length 0 e = c := ⟨_, rfl⟩
  rw [hc] at hr hc1 hc2
  obtain ⟨fr, hfr⟩ : ∃ fr, ((bytesRow ⟨l.toArray⟩ c).size, (bytesRow ⟨l.toArray⟩ c).size + 1) = fr := ⟨_, rfl⟩
  rw [hfr] at hr
  have hg : Grow w (w.drew.alloc (.cells (bytesRow ⟨l.toArray⟩ c) e fr)) := ((Grow.refl w).drew).trans (Grow.alloc w.drew _)
  refine out_val (x := .slice (some ⟨w.heap.size, 0, none⟩) l.length c) (w' := w.drew.alloc (.cells (bytesRow ⟨l.toArray⟩ c) e fr)) (by simp only [execOp, h1, Sem.run_bind, hr, Result.andThen_ok, Sem.run_pure]) ⟨hg, c, ?_⟩
  refine bytes_mk (l := l) hc1 hc2 fun j u hu => ⟨_, rfl, ?_, ?_⟩
  · show w.heap.size < (w.drew.alloc _).heap.size
    rw [World.size_alloc]; exact Nat.lt_succ_self _
  · have hh := World.alloc_heap_new w.drew (.cells (bytesRow ⟨l.toArray⟩ c) e fr)
    have hd : w.drew.heap.size = w.heap.size := rfl
    rw [hd] at hh
    rw [add_lit0, Nat.zero_add]
    unfold World.cell?
    simp only
    rw [hh]
    simp only [bytesRow, Option.isSome_none, Bool.false_eq_true, if_false]
    have hj : j < l.length := by have := (List.getElem?_eq_some_iff.1 hu).1; simpa using this
    rw [Array.getElem?_append_left (by simpa using hj)]
    simpa [byteV] using hu
/-- A row of no elements, with room. -/
theorem ok_make0 {t e : TypeId} {x y : Operand} {z : Value} {nb : Nat} {k k' : IntKind} {m n₀ : Int} (c : Nat) (ht : P.underlying t = some (.slice e)) (hinfo : InfoIs P e z nb) (hnb : nb ≤ 64) (hz1 : z.cells = #[z])
    (hx : E.at x = some (.v (.int k n₀))) (hy : E.at y = some (.v (.int k' m))) (hn : n₀ = 0) (hm : m = (c : Int)) (hc : c ≤ 4398046511104) :
    OpOk P B ⟨dst, .makeSlice t x y, ty, pos, after, guard⟩ E (own B e 0 []) := fun ρ w hB _ hρ => by
  obtain ⟨i, hi, hz, hs, hb⟩ := hinfo.get
  have h1 : ρ x = _ := hρ x (by simp [Op.operands]) _ hx
  have h2 : ρ y = _ := hρ y (by simp [Op.operands]) _ hy
  subst hm; subst hn
  have hbc : i.bytes * c ≤ 64 * c := Nat.mul_le_mul_right c (by omega)
  have hr := run_make (P := P) w t e i z ht hi hz k k' (0 : Int) (c : Int) (by omega) (by omega) (by rw [← Int.natCast_mul]; omega) (by omega)
  have hcells : madeCells z.cells (c * i.size) = (List.replicate c z).toArray := by
    rw [hs, hz1, Nat.mul_one]
    apply Array.ext
    · simp [madeCells]
    · intro j h1 h2; simp [madeCells, Nat.mod_one]
  refine out_val (x := .slice (some ⟨w.heap.size, 0, none⟩) 0 c) (w' := w.alloc (.cells (madeCells z.cells (c * i.size)) e)) ?_ ⟨Grow.alloc w _, ⟨rfl, .inr ⟨w.heap.size, c, (List.replicate c z).toArray, rfl, hB, ?_, Nat.zero_le _, ?_, by simp, by simp⟩⟩, fun g hg => ?_⟩
  · simp only [execOp, h1, h2, Sem.run_bind, hr, Result.andThen_ok, Sem.run_pure, Int.toNat_natCast, Int.toNat_zero]
  · rw [hcells]; exact heap_alloc_new w _
  · simp only [maxLen]; omega
  · simp [Value.ownBlock] at hg; subst hg; simp
/-- The head of an own row, without room behind it. -/
theorem ok_slice3 {t e : TypeId} {z : Value} {nb : Nat} {x ho mo : Operand} {k k' : IntKind} {m B' : Nat} (l : List UInt8) {xs : List Value} (ht : P.underlying t = some (.slice e)) (hs : InfoIs P e z nb) (hx : E.at x = some (own B' e m xs)) (hho : E.at ho = some (.v (.int k (l.length : Int)))) (hmo : E.at mo = some (.v (.int k' (l.length : Int))))
    (hl : xs.take l.length = l.map byteV) (hm : m = xs.length) (hmax : l.length ≤ maxLen) :
    OpOk P B ⟨dst, .slice t x none (some ho) (some mo), ty, pos, after, guard⟩ E (bytes l l.length) := fun ρ w _ _ hρ => by
  obtain ⟨⟨hlen, hcase⟩, hob⟩ := hρ x (by simp [Op.operands]) _ hx
  have h1 : ρ ho = .int k (l.length : Int) := hρ ho (by simp [Op.operands]) _ hho
  have h2 : ρ mo = .int k' (l.length : Int) := hρ mo (by simp [Op.operands]) _ hmo
  have hlm : l.length ≤ m := by have := congrArg List.length hl; simp at this; omega
  obtain ⟨info, hinfo, _, hsize, _⟩ := hs.get
  rcases hcase with ⟨hv, hm0⟩ | ⟨g, cap, cur, hv, hb, hh, hnc, hcm, hcs, htake⟩
  · have hl0 : l = [] := List.eq_nil_of_length_eq_zero (by omega)
    subst hl0
    have hb := sliceBounds_run (P := P) (sl := true) (len := 0) (cap := 0) (l := 0) (h := 0) (m := 0) (L := none) (H := some (.int k 0)) (M := some (.int k' 0)) w (.inr ⟨rfl, rfl⟩) (.inl ⟨k, rfl⟩) (.inl ⟨k', rfl⟩) (Nat.le_refl _) (Nat.le_refl _) (Nat.le_refl _)
    have hr : (Instr.sliceAt t (.slice none 0 0) none (some (.int k 0)) (some (.int k' 0))).run P w = .ok (.slice none 0 0) w := by
      simp only [Instr.sliceAt, Instr.slice, Sem.run_bind, run_underlying ht, Result.andThen_ok, hb, sizeOf, typeInfo]
      simp [hinfo, hsize]
    have h1 : ρ ho = .int k 0 := h1
    have h2 : ρ mo = .int k' 0 := h2
    refine out_val (x := .slice none 0 0) (w' := w) (by simp only [execOp, hv, h1, h2, Option.map_none, Option.map_some, Sem.run_bind, hr, Result.andThen_ok, Sem.run_pure]) ⟨Grow.refl w, bytes_nil_le _ _ _ rfl⟩
  · have hb := sliceBounds_run (P := P) (sl := true) (len := m) (cap := cap) (l := 0) (h := l.length) (m := l.length) (L := none) (H := some (.int k l.length)) (M := some (.int k' l.length)) w (.inr ⟨rfl, rfl⟩) (.inl ⟨k, rfl⟩) (.inl ⟨k', rfl⟩) (Nat.zero_le _) (Nat.le_refl _) (by omega)
    have hr : (Instr.sliceAt t (.slice (some ⟨g, 0, none⟩) m cap) none (some (.int k l.length)) (some (.int k' l.length))).run P w = .ok (.slice (some ⟨g, 0, none⟩) l.length l.length) w := by
      have haddr : (⟨g, 0, none⟩ : Addr).add 0 = ⟨g, 0, none⟩ := rfl
      simp only [Instr.sliceAt, Instr.slice, Sem.run_bind, run_underlying ht, Result.andThen_ok, hb, sizeOf, typeInfo]
      simp [hinfo, hsize, haddr]
    refine out_val (x := .slice (some ⟨g, 0, none⟩) l.length l.length) (w' := w) (by simp only [execOp, hv, h1, h2, Option.map_none, Option.map_some, Sem.run_bind, hr, Result.andThen_ok, Sem.run_pure]) ⟨Grow.refl w, bytes_mk (Nat.le_refl _) hmax fun j u hu => ⟨_, rfl, hob g (by rw [hv]; rfl), ?_⟩⟩
    rw [add_lit0, Nat.zero_add]
    have hcell : cur[j]? = some u := by
      rw [← hl] at hu
      rw [List.getElem?_take] at hu
      split at hu
      · rw [← htake] at hu
        rw [List.getElem?_take] at hu
        split at hu
        · simpa using hu
        · cases hu
      · cases hu
    simp [World.cell?, hh, hcell]
end

/-- The bytes of a whole array. -/
theorem byt_all {l : List UInt8} {n : Nat} (h : l.length = n) : Le (lst ((((l.map byteV).take n).drop 0).map .v)) (byt l) :=
  Le.eq (by rw [byt_vals, List.drop_zero, List.take_of_length_le (Nat.le_of_eq (by rw [List.length_map, h]))])

/-! ### Functions that hold variables -/
def VArgs (E : Env) : List Value → List Operand → Prop
  | [], [] => True
  | u :: us, x :: xs => E.at x = some (.v u) ∧ VArgs E us xs
  | _, _ => False
theorem VArgs.map {E : Env} {ρ : Operand → Value} : ∀ {us : List Value} {xs : List Operand}, VArgs E us xs → (∀ x ∈ xs, ∀ v, E.at x = some (.v v) → ρ x = v) → xs.map ρ = us
  | [], [], _, _ => rfl
  | [], _ :: _, h, _ => h.elim
  | _ :: _, [], h, _ => h.elim
  | u :: us, x :: xs, ⟨h1, h2⟩, hρ => by rw [List.map_cons, hρ x List.mem_cons_self u h1, VArgs.map h2 fun y hy v hv => hρ y (List.mem_cons_of_mem _ hy) v hv]
section
variable {P : Program} {n B : Nat} {w₀ : World} {ops : Array Oper} {E : Env} {dst : Option Tmp} {ty : TypeId} {pos : String} {after : Array Edge} {guard : Option (Nat × Bool)}
theorem ok_makeFuncN {f : FuncId} {xs : Array Operand} (us : List Value) (h : VArgs E us xs.toList) : OpOk P B ⟨dst, .makeFunc (.func f) #[] xs, ty, pos, after, guard⟩ E (.v (.func (.func f) #[] us.toArray)) := fun ρ w _ _ hρ => by
  have hmem : ∀ x ∈ xs.toList, x ∈ (Op.makeFunc (.func f) #[] xs).operands := fun x hx => by
    have hx' : x ∈ xs := by simpa using hx
    simp [Op.operands, hx']
  have h1 := h.map (ρ := ρ) fun x hx v hv => hρ x (hmem x hx) _ hv
  have h2 : xs.map ρ = us.toArray := by
    apply Array.ext'
    rw [Array.toList_map]; exact h1
  exact out_val (w' := w) (by simp [execOp, h2, Instr.makeFunc]) ⟨Grow.refl w, rfl⟩
abbrev ptr (b : Nat) : Value := .pointer (some ⟨b, 0, none⟩)
/-- A function value that holds three variables of its own, new ones. -/
def clos3 (base f : Nat) (T₁ : TypeId) (d₁ : D) (T₂ : TypeId) (d₂ : D) (T₃ : TypeId) (d₃ : D) : D :=
  .p (fun B w x => ∃ p q r, (base ≤ p ∧ base ≤ q ∧ base ≤ r) ∧ (p ≠ q ∧ p ≠ r ∧ q ≠ r) ∧ x = .func (.func f) #[] #[ptr p, ptr q, ptr r] ∧ (varD p T₁ d₁).OfB B w undef ∧ (varD q T₂ d₂).OfB B w undef ∧ (varD r T₃ d₃).OfB B w undef)
    (fun _ _ _ _ g ⟨p, q, r, h1, h2, h3, h4, h5, h6⟩ => ⟨p, q, r, h1, h2, h3, h4.keep g, h5.keep g, h6.keep g⟩) (fun _ _ _ _ g ⟨p, q, r, h1, h2, h3, h4, h5, h6⟩ => ⟨p, q, r, h1, h2, h3, h4.up g, h5.up g, h6.up g⟩)
variable {f : Nat} {T₁ T₂ T₃ : TypeId} {d₁ d₂ d₃ : D}
theorem clos3_mono (B B' : Nat) (h : B ≤ B') : Le (clos3 B' f T₁ d₁ T₂ d₂ T₃ d₃) (clos3 B f T₁ d₁ T₂ d₂ T₃ d₃) := fun _ _ _ ⟨p, q, r, ⟨h1, h2, h3⟩, h4⟩ => ⟨p, q, r, ⟨by omega, by omega, by omega⟩, h4⟩
theorem End.clos3 {fn : Func} {t k₁ k₂ k₃ p q r : Nat} {e₁ e₂ e₃ : D} (hr : fn.results = #[.tmp t]) (hb : w₀.heap.size ≤ p ∧ w₀.heap.size ≤ q ∧ w₀.heap.size ≤ r) (hne : p ≠ q ∧ p ≠ r ∧ q ≠ r) (ht : E.look t = some (.v (.func (.func f) #[] #[ptr p, ptr q, ptr r])))
    (h1 : E.look k₁ = some (varD p T₁ e₁)) (l1 : Le e₁ d₁) (h2 : E.look k₂ = some (varD q T₂ e₂)) (l2 : Le e₂ d₂) (h3 : E.look k₃ = some (varD r T₃ e₃)) (l3 : Le e₃ d₃) : End Cx.top w₀ n E (BP P fn (PostOf w₀ (Go.Proofs.Ytdnblilocdddpaa.clos3 w₀.heap.size f T₁ d₁ T₂ d₂ T₃ d₃)) .ret) := fun a w g hs =>
  BP.ret hs.defers ⟨a.tmps.getD t undef, by simp [results, hr], _, rfl, g, p, q, r, hb, hne, hs.of t _ ht, varD_le l1 _ _ _ (hs.of k₁ _ h1), varD_le l2 _ _ _ (hs.of k₂ _ h2), varD_le l3 _ _ _ (hs.of k₃ _ h3)⟩
theorem A.openClos3 {c : Code} {Q : Exit → Act → World → Prop} {t k₁ k₂ k₃ : Nat} {B : Nat} (ht : E.look t = some (clos3 B f T₁ d₁ T₂ d₂ T₃ d₃))
    (h : ∀ p q r, B ≤ p → B ≤ q → B ≤ r → p ≠ q → p ≠ r → q ≠ r → A κ P w₀ n c ((t, .v (.func (.func f) #[] #[ptr p, ptr q, ptr r])) :: (k₁, varD p T₁ d₁) :: (k₂, varD q T₂ d₂) :: (k₃, varD r T₃ d₃) :: E) Q) : A κ P w₀ n c E Q := fun a w g hs => by
  obtain ⟨p, q, r, ⟨h1, h2, h3⟩, ⟨h4, h5, h6⟩, h7, h8, h9, h10⟩ := hs.of t _ ht
  exact h p q r h1 h2 h3 h4 h5 h6 a w g ((((hs.push (t := k₃) (d := varD r T₃ d₃) h10).push (t := k₂) (d := varD q T₂ d₂) h9).push (t := k₁) (d := varD p T₁ d₁) h8).push (d := .v _) h7)
/-- A variable that was there at a region's beginning lies below what the region makes. -/
theorem A.ltVar {c : Code} {Q : Exit → Act → World → Prop} {k b B' : Nat} {T : TypeId} {d : D} (hk : E.look k = some (old B' (varD b T d))) (h : b < B' → A κ P w₀ n c E Q) : A κ P w₀ n c E Q := fun a w g hs => h (hs.of k _ hk).2.1 a w g hs
/-- The row that a variable holds gets its value's name, and back. -/
theorem A.openVar {c : Code} {Q : Exit → Act → World → Prop} {k k' b B' m : Nat} {T e : TypeId} {xs : List Value} (hk : E.look k = some (varD b T (own B' e m xs))) (h : ∀ v, A κ P w₀ n c ((k, blk b T [v]) :: (k', ownM B' v e m xs) :: E) Q) : A κ P w₀ n c E Q := fun a w g hs => by
  obtain ⟨h1, u, h2, h3⟩ := hs.of k _ hk
  exact h u a w g ((hs.push (t := k') (d := ownM B' u e m xs) h3).push (d := blk b T [u]) ⟨h1, h2⟩)
theorem End.closeVar {R : Act → World → Prop} {k k' b B' m : Nat} {v : Value} {T e : TypeId} {xs : List Value} (hk : E.look k = some (blk b T [v])) (hk' : E.look k' = some (ownM B' v e m xs)) (h : End κ w₀ n ((k, varD b T (own B' e m xs)) :: E) R) : End κ w₀ n E R := fun a w g hs => by
  obtain ⟨h1, h2⟩ := hs.of k _ hk
  exact h a w g (hs.push (d := varD b T (own B' e m xs)) ⟨h1, v, h2, hs.of k' _ hk'⟩)
/-- A pointer to a new block gets the block's name. -/
theorem A.openFresh {c : Code} {Q : Exit → Act → World → Prop} {t k B' : Nat} {L : List Nat} {T : TypeId} {zs : List Value} (ht : E.look t = some (freshV B' L T zs)) (h : ∀ b, B' ≤ b → A κ P w₀ n c ((t, .v (ptr b)) :: (k, blk b T zs) :: E) Q) : A κ P w₀ n c E Q := fun a w g hs => by
  obtain ⟨b, h1, h2, _, h4, h5⟩ := hs.of t _ ht
  exact h b h2 a w g ((hs.push (t := k) (d := blk b T zs) ⟨h4, h5⟩).push (d := .v _) h1)
theorem Firm.freshV {l base : Nat} {L : List Nat} {T : TypeId} {zs : List Value} : Firm l (Go.Proofs.Ytdnblilocdddpaa.freshV base L T zs) := fun w o o' _ hl ho ⟨b, h1, h2, h3, h4, h5⟩ => by
  have hne : b ≠ l := fun hb => by subst hb; rw [h5] at hl; injection hl with hl; subst hl; cases ho
  exact ⟨b, h1, h2, h3, by simpa using h4, (World.putObj_heap_other hne).trans h5⟩
end

/-! ### A region with a base of its own, where tables stay tables -/
def OldH (B : Nat) (E' E : Env) : Prop := ∀ p ∈ E', ∃ d, E.look p.1 = some d ∧ (p.2 = d ∨ p.2 = old B d)
theorem OldH.nil {B : Nat} {E : Env} : OldH B [] E := fun _ h => by cases h
theorem OldH.same {B : Nat} {E E' : Env} {t : Nat} {d : D} (h : E.look t = some d) (hr : OldH B E' E) : OldH B ((t, d) :: E') E := fun p hp => by
  rcases List.mem_cons.1 hp with rfl | hp
  · exact ⟨_, h, .inl rfl⟩
  · exact hr p hp
theorem OldH.p {B : Nat} {E E' : Env} {t : Nat} {d : D} (h : E.look t = some d) (hr : OldH B E' E) : OldH B ((t, old B d) :: E') E := fun p hp => by
  rcases List.mem_cons.1 hp with rfl | hp
  · exact ⟨d, h, .inr rfl⟩
  · exact hr p hp
theorem A.regsH {P : Program} {w₀ : World} {n : Nat} {y : Code} {E : Env} {Q : Exit → Act → World → Prop} {id : Nat} {ops : Array Oper} {draw : Bool} (E' : Nat → Env) (hE : ∀ B, OldH B (E' B) E) (hm : P.follows .mixedOrders = true) (hf : fits n ops = true) (ht : draw = false ∨ tied ops = true)
    (hr : ∀ B, w₀.heap.size ≤ B → RunTK P n B ops draw (fun E₁ => A κ P w₀ n y E₁ Q) 0 (E' B)) : A κ P w₀ n (.seq (.region id ops draw) y) E Q := A.seq fun a w g hst => by
  have hst' : St κ n w.heap.size (E' w.heap.size) a w := ⟨Nat.le_refl _, hst.defers, hst.size, fun t d hd => by
    obtain ⟨d', hd', h⟩ := hE w.heap.size _ (look_mem hd)
    have h1 := hst.of t d' hd'
    rcases h with h2 | h2
    · simp only at h2; rw [h2]; exact h1
    · simp only at h2; rw [h2]; exact ⟨Nat.le_refl _, h1⟩⟩
  exact wp_regT hm hf ht hst' (hr w.heap.size hst.base) fun _ a' w' h2 g' h' => h2 a' w' (g.trans (g'.mono hst.base)) ⟨Nat.le_trans hst.base g'.size, h'.defers, h'.size, h'.of⟩
end Go.Proofs.Ytdnblilocdddpaa
